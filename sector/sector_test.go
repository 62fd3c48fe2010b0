package sector_test

import (
	"bytes"
	"math"
	"math/rand/v2"
	"slices"
	"testing"

	"pedagogue/api"
	"pedagogue/sector"
)

// full is a sector of one byte.
func full(b byte) []byte { return bytes.Repeat([]byte{b}, api.SectorLen) }

// halves is a sector of two bytes, half of each.
func halves(a, b byte) []byte {
	return append(full(a)[:api.SectorLen/2:api.SectorLen/2], full(b)[api.SectorLen/2:]...)
}

func write(t *testing.T, d *sector.Disk, i int, b byte) {
	t.Helper()
	if e := d.Write(i, full(b)); e != api.OK {
		t.Fatalf("Write(%d): %d", i, e)
	}
}

func flush(t *testing.T, d *sector.Disk) {
	t.Helper()
	if e := d.Flush(); e != api.OK {
		t.Fatalf("Flush: %d", e)
	}
}

func holds(t *testing.T, d *sector.Disk, i int, want []byte) {
	t.Helper()
	if got, e := d.Read(i); e != api.OK || !bytes.Equal(got, want) {
		t.Errorf("sector %d holds % x (%d), want % x", i, got, e, want)
	}
}

// P5.1: a new disk has so many sectors, cut to what there may be, all 0.
func TestNew(t *testing.T) {
	for n, want := range map[int]int{0: 0, 1: 1, 7: 7, -1: 0, math.MinInt: 0, api.MaxSectors: api.MaxSectors, api.MaxSectors + 1: api.MaxSectors, math.MaxInt: api.MaxSectors} {
		d := sector.New(n)
		if d.Len() != want || d.Ops() != 0 || d.Down() {
			t.Errorf("New(%d): %d sectors", n, d.Len())
		}
		if want > 0 {
			holds(t, d, 0, full(0))
			holds(t, d, want-1, full(0))
		}
		if b, e := d.Read(want); e != api.ErrArg || len(b) != 0 {
			t.Errorf("New(%d) has a sector behind its last", n)
		}
	}
}

// P5.1: what was written last is read, sure or not; what may not be is ErrArg and no operation.
func TestReadAndWrite(t *testing.T) {
	d := sector.New(3)
	write(t, d, 1, 5)
	write(t, d, 1, 6)
	holds(t, d, 1, full(6))
	holds(t, d, 0, full(0))
	holds(t, d, 2, full(0))
	for _, i := range []int{-1, 3, math.MinInt, math.MaxInt} {
		if b, e := d.Read(i); e != api.ErrArg || len(b) != 0 {
			t.Errorf("Read(%d): %d", i, e)
		}
		if e := d.Write(i, full(1)); e != api.ErrArg {
			t.Errorf("Write(%d): %d", i, e)
		}
	}
	for _, n := range []int{0, 1, 63, 65, 128} {
		if e := d.Write(1, make([]byte, n)); e != api.ErrArg {
			t.Errorf("Write of %d bytes: %d", n, e)
		}
	}
	holds(t, d, 1, full(6))
	if d.Ops() != 2 {
		t.Errorf("%d operations, want 2", d.Ops())
	}
	flush(t, d)
	if d.Ops() != 3 {
		t.Errorf("%d operations, want 3", d.Ops())
	}
}

// R2: the disk's sectors are memory of its own.
func TestMemoryIsItsOwn(t *testing.T) {
	d := sector.New(1)
	in := full(1)
	if d.Write(0, in) != api.OK {
		t.Fatal("Write")
	}
	in[0] = 9
	out, _ := d.Read(0)
	out[1] = 9
	holds(t, d, 0, full(1))
	d.Crash([]byte{2})
	holds(t, d, 0, full(1))
}

// P5.2: the nth operation, and all behind it, tell ErrDown, do nothing, and count.
func TestFuse(t *testing.T) {
	for n := 1; n <= 4; n++ {
		d := sector.New(1)
		write(t, d, 0, 1)
		flush(t, d)
		d.Fuse(n)
		for i := 1; i < n; i++ {
			if d.Write(0, full(byte(10+i))) != api.OK || d.Down() {
				t.Fatalf("fuse %d: down at operation %d", n, i)
			}
		}
		if d.Write(0, full(99)) != api.ErrDown || !d.Down() {
			t.Errorf("fuse %d: up at its operation", n)
		}
		if d.Flush() != api.ErrDown || d.Write(0, full(98)) != api.ErrDown {
			t.Errorf("fuse %d: up behind its operation", n)
		}
		if b, e := d.Read(0); e != api.ErrDown || len(b) != 0 {
			t.Errorf("fuse %d: a Read tells %d", n, e)
		}
		if d.Ops() != 2+n+2 {
			t.Errorf("fuse %d: %d operations", n, d.Ops())
		}
		d.Fuse(0)
		want := full(1)
		if n > 1 {
			want = full(byte(10 + n - 1))
		}
		holds(t, d, 0, want)
		d.Crash(nil)
		holds(t, d, 0, full(1))
	}
}

// P5.2: an operation that may not be does not burn the fuse, a Read does not either; ErrArg comes ahead of ErrDown.
func TestFuseCountsOperationsAlone(t *testing.T) {
	d := sector.New(1)
	d.Fuse(2)
	d.Write(5, full(1))
	d.Write(0, nil)
	d.Read(0)
	d.Read(0)
	write(t, d, 0, 1)
	holds(t, d, 0, full(1))
	if d.Flush() != api.ErrDown || !d.Down() {
		t.Error("the second operation was a Flush")
	}
	if d.Write(1, full(1)) != api.ErrArg || d.Write(0, nil) != api.ErrArg || d.Ops() != 2 {
		t.Error("ErrArg does not come ahead of ErrDown")
	}
	if _, e := d.Read(1); e != api.ErrArg {
		t.Error("a Read of no sector is not ErrArg")
	}
}

// P5.2: a new fuse takes the place of the old one; below 1 there is none; what is down is up till it burns.
func TestFuseAnew(t *testing.T) {
	d := sector.New(1)
	d.Fuse(1)
	d.Fuse(3)
	write(t, d, 0, 1)
	write(t, d, 0, 2)
	if d.Flush() != api.ErrDown {
		t.Error("the second fuse is not the one that counts")
	}
	d.Fuse(2)
	if d.Down() {
		t.Error("down ahead of the fuse")
	}
	flush(t, d)
	if d.Flush() != api.ErrDown {
		t.Error("the fuse of a disk that was down")
	}
	for _, n := range []int{0, -1, math.MinInt} {
		d.Fuse(1)
		d.Flush()
		d.Fuse(n)
		if d.Down() {
			t.Errorf("Fuse(%d): down", n)
		}
		for range 5 {
			flush(t, d)
		}
	}
	d.Fuse(math.MaxInt)
	flush(t, d)
}

// P5.3: each write that is not sure takes a pick: lost, lost, kept, torn.
func TestCrashPicks(t *testing.T) {
	want := [][]byte{full(1), full(1), full(2), halves(2, 1)}
	for pick := range 256 {
		d := sector.New(2)
		write(t, d, 0, 1)
		flush(t, d)
		write(t, d, 0, 2)
		d.Crash([]byte{byte(pick)})
		holds(t, d, 0, want[pick%4])
		holds(t, d, 1, full(0))
		d.Crash([]byte{2, 2, 2})
		holds(t, d, 0, want[pick%4])
	}
	d := sector.New(1)
	write(t, d, 0, 1)
	d.Crash(nil)
	holds(t, d, 0, full(0))
}

// P5.3: picks go by the order of the writes; a torn one has behind it what those ahead of it left.
func TestCrashGoesByOrder(t *testing.T) {
	d := sector.New(2)
	write(t, d, 0, 1)
	flush(t, d)
	write(t, d, 0, 2)
	write(t, d, 1, 3)
	write(t, d, 0, 4)
	write(t, d, 0, 5)
	kept := d.Copy()
	d.Crash([]byte{2, 3, 3, 0})
	holds(t, d, 0, halves(4, 2))
	holds(t, d, 1, halves(3, 0))
	d = kept.Copy()
	d.Crash([]byte{0, 2, 0, 3})
	holds(t, d, 0, halves(5, 1))
	holds(t, d, 1, full(3))
	d = kept.Copy()
	d.Crash([]byte{3, 0, 2})
	holds(t, d, 0, full(4))
	holds(t, d, 1, full(0))
}

// P5.3: behind a crash all is sure, and the disk is up without a fuse; operations still count.
func TestBehindACrash(t *testing.T) {
	d := sector.New(1)
	d.Fuse(3)
	write(t, d, 0, 1)
	d.Crash([]byte{2})
	if d.Ops() != 1 || d.Down() {
		t.Errorf("%d operations", d.Ops())
	}
	for range 5 {
		flush(t, d)
	}
	d.Fuse(1)
	d.Flush()
	d.Crash(nil)
	if d.Down() || d.Flush() != api.OK || d.Ops() != 8 {
		t.Errorf("down behind a crash, or %d operations", d.Ops())
	}
	holds(t, d, 0, full(1))
}

// P5.3: what is written behind a crash is not sure again.
func TestWritesBehindACrash(t *testing.T) {
	d := sector.New(2)
	write(t, d, 0, 1)
	d.Crash([]byte{2})
	write(t, d, 0, 2)
	write(t, d, 1, 3)
	d.Crash([]byte{3, 1})
	holds(t, d, 0, halves(2, 1))
	holds(t, d, 1, full(0))
	write(t, d, 0, 4)
	d.Crash(nil)
	holds(t, d, 0, halves(2, 1))
}

// P5.3: a copy's writes that are not sure are its own, however many there are.
func TestCopyOfWritesThatAreNotSure(t *testing.T) {
	for n := range 20 {
		d := sector.New(3)
		for range n {
			write(t, d, 0, 1)
		}
		c := d.Copy()
		write(t, d, 1, 2)
		write(t, c, 2, 3)
		write(t, d, 1, 4)
		picks := bytes.Repeat([]byte{2}, n+2)
		c.Crash(picks)
		d.Crash(picks)
		holds(t, d, 1, full(4))
		holds(t, d, 2, full(0))
		holds(t, c, 1, full(0))
		holds(t, c, 2, full(3))
	}
}

// P5.3: a copy is alike in all, and its own.
func TestCopy(t *testing.T) {
	d := sector.New(2)
	write(t, d, 0, 1)
	flush(t, d)
	write(t, d, 0, 2)
	d.Fuse(2)
	c := d.Copy()
	write(t, d, 0, 3)
	if d.Ops() != 4 || c.Ops() != 3 || c.Len() != 2 {
		t.Errorf("operations: %d, %d", d.Ops(), c.Ops())
	}
	holds(t, c, 0, full(2))
	write(t, c, 1, 7)
	holds(t, d, 1, full(0))
	if c.Flush() != api.ErrDown || d.Down() {
		t.Error("a copy's fuse")
	}
	down := c.Copy()
	if !down.Down() {
		t.Error("a copy of a disk that is down is up")
	}
	c.Crash([]byte{3, 2})
	holds(t, c, 0, halves(2, 1))
	holds(t, c, 1, full(7))
	d.Crash([]byte{0, 2})
	holds(t, d, 0, full(3))
}

// P5.3: a nil disk tells ErrArg and zero values.
func TestNilDisk(t *testing.T) {
	var d *sector.Disk
	d.Fuse(1)
	d.Crash([]byte{1})
	b, e := d.Read(0)
	if d.Len() != 0 || len(b) != 0 || e != api.ErrArg || d.Write(0, full(0)) != api.ErrArg || d.Flush() != api.ErrArg || d.Down() || d.Ops() != 0 || d.Copy() != nil {
		t.Error("a nil disk tells something")
	}
}

// P5.4: what was flushed stays through any crash, where it is not written again.
func TestWhatWasFlushedStays(t *testing.T) {
	dice := rand.New(rand.NewPCG(5, 5))
	for range 200 {
		d := sector.New(6)
		sure := make([][]byte, 6)
		for i := range sure {
			b := byte(dice.Uint32())
			write(t, d, i, b)
			sure[i] = full(b)
		}
		flush(t, d)
		touched := make([]bool, 6)
		var picks []byte
		for range dice.IntN(8) {
			i := dice.IntN(6)
			touched[i] = true
			write(t, d, i, byte(dice.Uint32()))
			picks = append(picks, byte(dice.Uint32()))
		}
		kept := slices.Clone(picks)
		d.Crash(picks)
		if !slices.Equal(kept, picks) {
			t.Fatal("picks were changed")
		}
		for i, is := range touched {
			if !is {
				holds(t, d, i, sure[i])
			}
		}
	}
}
