package journal_test

import (
	"bytes"
	"encoding/binary"
	"hash/crc32"
	"math"
	"math/rand/v2"
	"testing"

	"pedagogue/api"
	"pedagogue/journal"
	"pedagogue/sector"
)

// headOf is a slot's head, put together without the journal.
func headOf(gen uint32, b []byte) []byte {
	h := []byte("pdgq")
	h = binary.BigEndian.AppendUint32(h, gen)
	h = binary.BigEndian.AppendUint32(h, uint32(len(b)))
	h = binary.BigEndian.AppendUint32(h, crc32.ChecksumIEEE(b))
	h = binary.BigEndian.AppendUint32(h, crc32.ChecksumIEEE(h))
	return append(h, make([]byte, 64-len(h))...)
}

// lay writes a slot that begins at a sector.
func lay(t *testing.T, d *sector.Disk, first int, head, b []byte) {
	t.Helper()
	if d.Write(first, head) != api.OK {
		t.Fatal("Write of a head")
	}
	for i := 0; i < len(b); i += 64 {
		part := make([]byte, 64)
		copy(part, b[i:])
		if d.Write(first+1+i/64, part) != api.OK {
			t.Fatal("Write")
		}
	}
}

func open(t *testing.T, d *sector.Disk) *journal.Journal {
	t.Helper()
	j, e := journal.Open(d)
	if e != api.OK || j == nil {
		t.Fatalf("Open: %d", e)
	}
	return j
}

func commit(t *testing.T, j *journal.Journal, b string) {
	t.Helper()
	if e := j.Commit([]byte(b)); e != api.OK {
		t.Fatalf("Commit: %d", e)
	}
}

func has(t *testing.T, j *journal.Journal, want string, gen uint32) {
	t.Helper()
	got, is := j.Last()
	if !is || string(got) != want || j.Gen() != gen {
		t.Errorf("the last is %q (%t), generation %d; want %q, %d", got, is, j.Gen(), want, gen)
	}
}

func hasNone(t *testing.T, j *journal.Journal) {
	t.Helper()
	if got, is := j.Last(); is || len(got) != 0 || j.Gen() != 0 {
		t.Errorf("the last is %q (%t), generation %d; want none", got, is, j.Gen())
	}
}

func sectorOf(t *testing.T, d *sector.Disk, i int) []byte {
	t.Helper()
	b, e := d.Read(i)
	if e != api.OK {
		t.Fatalf("Read(%d): %d", i, e)
	}
	return b
}

// P6.1: a disk that is none, or is too small, or is down, has no journal.
func TestOpenOfWhatMayNotBe(t *testing.T) {
	for n := range 4 {
		if j, e := journal.Open(sector.New(n)); j != nil || e != api.ErrArg {
			t.Errorf("Open of %d sectors: %d", n, e)
		}
	}
	if j, e := journal.Open(nil); j != nil || e != api.ErrArg {
		t.Errorf("Open of nil: %d", e)
	}
	d := sector.New(4)
	d.Fuse(1)
	d.Flush()
	ops := d.Ops()
	if j, e := journal.Open(d); j != nil || e != api.ErrDown || d.Ops() != ops {
		t.Errorf("Open of a disk that is down: %d", e)
	}
	d = sector.New(4)
	d.Fuse(1)
	if j, e := journal.Open(d); j != nil || e != api.ErrDown || d.Ops() != 1 {
		t.Errorf("Open at whose Flush the disk goes down: %d", e)
	}
}

// P6.1: an empty disk has no last one; Room is a slot less its head; Open flushes.
func TestOpenOfAnEmptyDisk(t *testing.T) {
	for n, want := range map[int]int{4: 64, 5: 64, 6: 128, 7: 128, 256: 127 * 64, 4096: 2047 * 64} {
		d := sector.New(n)
		j := open(t, d)
		hasNone(t, j)
		if j.Room() != want || d.Ops() != 1 {
			t.Errorf("%d sectors: room %d, %d operations", n, j.Room(), d.Ops())
		}
	}
	d := sector.New(4)
	lay(t, d, 0, headOf(1, []byte("a")), []byte("a"))
	has(t, open(t, d), "a", 1)
	d.Crash(nil)
	has(t, open(t, d), "a", 1)
}

// P6.1: Sectors.
func TestSectors(t *testing.T) {
	known := map[int]int{-1: 0, math.MinInt: 0, 0: 2, 1: 4, 63: 4, 64: 4, 65: 6, 128: 6, 129: 8, 1 << 20: 2 * (1 + 1<<14), 1<<20 - 63: 2 * (1 + 1<<14), 1<<20 + 1: 0, math.MaxInt: 0}
	for n, want := range known {
		if got := journal.Sectors(n); got != want {
			t.Errorf("Sectors(%d): %d, want %d", n, got, want)
		}
	}
	for n := 1; n < 300; n++ {
		if room := open(t, sector.New(journal.Sectors(n))).Room(); room < n || room >= n+64 {
			t.Errorf("Sectors(%d) has room for %d", n, room)
		}
	}
}

// P6.1: of the slots that count the greater generation is the last; of two alike slot 0.
func TestOpenTakesTheGreaterGeneration(t *testing.T) {
	for _, gens := range [][2]uint32{{1, 2}, {2, 1}, {5, 5}, {math.MaxUint32, 1}, {1, math.MaxUint32}, {0, 3}, {3, 0}, {0, 0}} {
		d := sector.New(9)
		lay(t, d, 0, headOf(gens[0], []byte("first")), []byte("first"))
		lay(t, d, 4, headOf(gens[1], []byte("second")), []byte("second"))
		j := open(t, d)
		switch {
		case gens == [2]uint32{}:
			hasNone(t, j)
		case gens[0] >= gens[1]:
			has(t, j, "first", gens[0])
		default:
			has(t, j, "second", gens[1])
		}
	}
}

// P6.1: a slot counts if its head has its form in all 64 bytes, and both sums are right.
func TestSlotsThatDoNotCount(t *testing.T) {
	b := bytes.Repeat([]byte("0123456789"), 10)
	for i := range 64 {
		for _, change := range []byte{1, 0x80, 0xff} {
			d := sector.New(8)
			h := headOf(7, b)
			h[i] ^= change
			lay(t, d, 0, h, b)
			hasNone(t, open(t, d))
		}
	}
	for i := range b {
		d := sector.New(8)
		spoilt := bytes.Clone(b)
		spoilt[i] ^= 4
		lay(t, d, 0, headOf(7, b), spoilt)
		lay(t, d, 4, headOf(2, []byte("old")), []byte("old"))
		has(t, open(t, d), "old", 2)
	}
	d := sector.New(8)
	lay(t, d, 0, headOf(0, b), b)
	hasNone(t, open(t, d))
}

// P6.1: what is longer than Room does not count, what is just as long does; what stands behind it is not looked at.
func TestSlotsOfAnyLength(t *testing.T) {
	b := bytes.Repeat([]byte("x"), 193)
	for n := range b {
		d := sector.New(8)
		lay(t, d, 4, headOf(3, b[:n]), bytes.Repeat([]byte("x"), 192))
		has(t, open(t, d), string(b[:n]), 3)
	}
	d := sector.New(10)
	lay(t, d, 0, headOf(3, b), b)
	has(t, open(t, d), string(b), 3)
	d = sector.New(8)
	d.Write(0, headOf(3, b))
	hasNone(t, open(t, d))
	long := headOf(3, b)
	binary.BigEndian.PutUint32(long[8:], math.MaxUint32)
	binary.BigEndian.PutUint32(long[16:], crc32.ChecksumIEEE(long[:16]))
	d.Write(4, long)
	hasNone(t, open(t, d))
}

// P6.2: a commit writes the slot that is not the last one, its head last.
func TestCommitWritesTheOtherSlot(t *testing.T) {
	d := sector.New(9)
	j := open(t, d)
	one, two := bytes.Repeat([]byte("one"), 40), bytes.Repeat([]byte("2"), 64)
	commit(t, j, string(one))
	has(t, j, string(one), 1)
	if !bytes.Equal(sectorOf(t, d, 0), headOf(1, one)) || !bytes.Equal(sectorOf(t, d, 1), one[:64]) {
		t.Error("slot 0 is not laid")
	}
	if !bytes.Equal(sectorOf(t, d, 2), append(bytes.Clone(one[64:]), make([]byte, 8)...)) {
		t.Error("the last sector is not filled up with 0")
	}
	if !bytes.Equal(sectorOf(t, d, 3), make([]byte, 64)) || !bytes.Equal(sectorOf(t, d, 4), make([]byte, 64)) {
		t.Error("more than slot 0 is laid")
	}
	if d.Ops() != 1+2+1+1+1 {
		t.Errorf("%d operations", d.Ops())
	}
	commit(t, j, string(two))
	if !bytes.Equal(sectorOf(t, d, 4), headOf(2, two)) || !bytes.Equal(sectorOf(t, d, 5), two) || !bytes.Equal(sectorOf(t, d, 0), headOf(1, one)) {
		t.Error("slot 1 is not laid")
	}
	if d.Ops() != 6+1+1+1+1 {
		t.Errorf("%d operations", d.Ops())
	}
	commit(t, j, "")
	has(t, j, "", 3)
	if !bytes.Equal(sectorOf(t, d, 0), headOf(3, nil)) || !bytes.Equal(sectorOf(t, d, 1), one[:64]) || d.Ops() != 10+3 {
		t.Errorf("an empty commit, %d operations", d.Ops())
	}
	j = open(t, d)
	has(t, j, "", 3)
	commit(t, j, "more")
	if !bytes.Equal(sectorOf(t, d, 4), headOf(4, []byte("more"))) || !bytes.Equal(sectorOf(t, d, 8), make([]byte, 64)) {
		t.Error("behind Open the wrong slot is laid")
	}
	d.Crash(nil)
	has(t, open(t, d), "more", 4)
}

// P6.2: with slot 1 the last at Open the next commit goes into slot 0, and the other way.
func TestCommitBehindOpen(t *testing.T) {
	for first, other := range map[int]int{0: 4, 4: 0} {
		d := sector.New(8)
		lay(t, d, first, headOf(9, []byte("old")), []byte("old"))
		j := open(t, d)
		commit(t, j, "new")
		if !bytes.Equal(sectorOf(t, d, other), headOf(10, []byte("new"))) || !bytes.Equal(sectorOf(t, d, first), headOf(9, []byte("old"))) {
			t.Errorf("the last at %d: the wrong slot is laid", first)
		}
	}
}

// P6.2: more than Room is ErrFull, and so is a generation that has none behind it; it spoils nothing.
func TestCommitOfTooMuch(t *testing.T) {
	d := sector.New(6)
	j := open(t, d)
	ops := d.Ops()
	if e := j.Commit(make([]byte, 129)); e != api.ErrFull || d.Ops() != ops {
		t.Errorf("Commit of more than Room: %d", e)
	}
	hasNone(t, j)
	commit(t, j, string(make([]byte, 128)))
	if j.Commit(make([]byte, 129)) != api.ErrFull {
		t.Error("Commit of more than Room")
	}
	has(t, j, string(make([]byte, 128)), 1)
	lay(t, d, 0, headOf(math.MaxUint32-1, []byte("a")), []byte("a"))
	j = open(t, d)
	commit(t, j, "b")
	has(t, j, "b", math.MaxUint32)
	ops = d.Ops()
	if e := j.Commit([]byte("c")); e != api.ErrFull || d.Ops() != ops {
		t.Errorf("Commit behind the last generation: %d", e)
	}
	has(t, j, "b", math.MaxUint32)
	if j.Commit([]byte("c")) != api.ErrFull {
		t.Error("an ErrFull spoils")
	}
}

// P6.2: the first error is told; then all is ErrState till the disk is opened anew; the last one stays.
func TestCommitThatFails(t *testing.T) {
	b := make([]byte, 100)
	for n := 1; n <= 5; n++ {
		d := sector.New(8)
		j := open(t, d)
		commit(t, j, "old")
		ops := d.Ops()
		d.Fuse(n)
		if e := j.Commit(b); e != api.ErrDown || d.Ops() != ops+n {
			t.Errorf("fuse %d: Commit tells %d behind %d operations", n, e, d.Ops()-ops)
		}
		has(t, j, "old", 1)
		d.Fuse(0)
		ops = d.Ops()
		if j.Commit([]byte("b")) != api.ErrState || j.Commit(make([]byte, 1000)) != api.ErrState || d.Ops() != ops {
			t.Errorf("fuse %d: a journal that is spoiled goes on", n)
		}
		has(t, j, "old", 1)
		d.Crash(nil)
		j = open(t, d)
		has(t, j, "old", 1)
		commit(t, j, "new")
		has(t, j, "new", 2)
	}
}

// R2: what is committed, and what is told, is not the journal's memory; Last does not read the disk.
func TestLastIsKept(t *testing.T) {
	d := sector.New(8)
	j := open(t, d)
	in := []byte("one")
	if j.Commit(in) != api.OK {
		t.Fatal("Commit")
	}
	in[0] = '-'
	out, _ := j.Last()
	out[1] = '-'
	has(t, j, "one", 1)
	d.Write(0, make([]byte, 64))
	d.Write(1, make([]byte, 64))
	d.Fuse(1)
	d.Flush()
	has(t, j, "one", 1)
	d.Fuse(0)
	hasNone(t, open(t, d))
}

// P6.1, P6.2: a nil journal tells ErrArg and zero values.
func TestNilJournal(t *testing.T) {
	var j *journal.Journal
	if b, is := j.Last(); len(b) != 0 || is || j.Gen() != 0 || j.Room() != 0 || j.Commit(nil) != api.ErrArg {
		t.Error("a nil journal tells something")
	}
}

// P6.3: wherever the power goes, and whatever stays, Open has the last commit that told OK, or the one that was begun.
func TestBehindACrash(t *testing.T) {
	dice := rand.New(rand.NewPCG(6, 6))
	for range 3000 {
		d := sector.New(4 + dice.IntN(6))
		j := open(t, d)
		var done []string
		begun := ""
		d.Fuse(1 + dice.IntN(25))
		for {
			b := make([]byte, dice.IntN(j.Room()+1))
			for i := range b {
				b[i] = byte(dice.Uint32())
			}
			begun = string(b)
			if j.Commit(b) != api.OK {
				break
			}
			done = append(done, begun)
		}
		picks := make([]byte, dice.IntN(6))
		for i := range picks {
			picks[i] = byte(dice.Uint32())
		}
		d.Crash(picks)
		j = open(t, d)
		got, is := j.Last()
		gen := int(j.Gen())
		switch {
		case gen == len(done)+1 && is && string(got) == begun:
		case gen == len(done) && gen == 0 && !is:
		case gen == len(done) && gen > 0 && is && string(got) == done[gen-1]:
		default:
			t.Fatalf("behind %d commits Open has generation %d", len(done), gen)
		}
		commit(t, j, "on")
		has(t, j, "on", uint32(gen+1))
	}
}
