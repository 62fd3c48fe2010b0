package octet_test

import (
	"bytes"
	"math"
	"math/rand/v2"
	"testing"

	"pedagogue/api"
	"pedagogue/octet"
)

func wrote(t *testing.T, write func(*octet.Writer), want ...byte) {
	t.Helper()
	var w octet.Writer
	write(&w)
	if got := w.Bytes(); !bytes.Equal(got, want) {
		t.Errorf("wrote % x, want % x", got, want)
	}
}

// P3.1: the highest byte stands first; only the lowest bits are taken.
func TestWriterLaysTheHighestByteFirst(t *testing.T) {
	wrote(t, func(w *octet.Writer) {})
	wrote(t, func(w *octet.Writer) { w.U8(0x12) }, 0x12)
	wrote(t, func(w *octet.Writer) { w.U8(0x1ff) }, 0xff)
	wrote(t, func(w *octet.Writer) { w.U8(-2) }, 0xfe)
	wrote(t, func(w *octet.Writer) { w.U16(258) }, 1, 2)
	wrote(t, func(w *octet.Writer) { w.U16(-1) }, 0xff, 0xff)
	wrote(t, func(w *octet.Writer) { w.U16(0x123456) }, 0x34, 0x56)
	wrote(t, func(w *octet.Writer) { w.U32(0x01020304) }, 1, 2, 3, 4)
	wrote(t, func(w *octet.Writer) { w.U32(math.MaxUint32) }, 0xff, 0xff, 0xff, 0xff)
	wrote(t, func(w *octet.Writer) { w.U64(0x0102030405060708) }, 1, 2, 3, 4, 5, 6, 7, 8)
	wrote(t, func(w *octet.Writer) { w.Raw([]byte("abc")); w.Raw(nil); w.U8(1) }, 'a', 'b', 'c', 1)
}

// R2: what is told, and what was handed in, is not the writer's memory.
func TestWriterKeepsToItself(t *testing.T) {
	var w octet.Writer
	in := []byte{1, 2, 3}
	w.Raw(in)
	in[0] = 9
	first := w.Bytes()
	first[1] = 9
	w.U8(4)
	if got := w.Bytes(); !bytes.Equal(got, []byte{1, 2, 3, 4}) {
		t.Errorf("has % x", got)
	}
	if !bytes.Equal(first, []byte{1, 9, 3}) {
		t.Errorf("what was told became % x", first)
	}
}

// P3.2: each call takes what stands next.
func TestReaderTakesWhatStandsNext(t *testing.T) {
	r := octet.NewReader([]byte{1, 2, 3, 4, 5, 6, 7, 8, 9, 10, 11, 12, 13, 14, 15, 'a', 'b'})
	if r.Left() != 17 || r.End() != api.ErrForm {
		t.Error("at the start", r.Left(), r.End())
	}
	if got := r.U8(); got != 1 {
		t.Error("U8", got)
	}
	if got := r.U16(); got != 0x0203 {
		t.Errorf("U16 %x", got)
	}
	if got := r.U32(); got != 0x04050607 {
		t.Errorf("U32 %x", got)
	}
	if got := r.U64(); got != 0x08090a0b0c0d0e0f {
		t.Errorf("U64 %x", got)
	}
	if len(r.Raw(-1)) != 0 || len(r.Raw(math.MinInt)) != 0 || len(r.Raw(0)) != 0 || r.Left() != 2 {
		t.Error("Raw of nothing takes something", r.Left())
	}
	if got := r.Raw(2); string(got) != "ab" {
		t.Errorf("Raw %q", got)
	}
	if r.Left() != 0 || r.End() != api.OK {
		t.Error("at the end", r.Left(), r.End())
	}
}

// P3.2: the error of End, that bytes are left, does not stay.
func TestReaderGoesOnBehindEnd(t *testing.T) {
	r := octet.NewReader([]byte{7, 8})
	if r.End() != api.ErrForm || r.U8() != 7 || r.End() != api.ErrForm || r.U8() != 8 || r.End() != api.OK {
		t.Error("End changes what is read")
	}
}

// P3.2: where there are fewer bytes the reader stays at ErrShort, and has nothing.
func TestReaderStaysShort(t *testing.T) {
	asks := map[string]func(r *octet.Reader) uint64{
		"U8":     func(r *octet.Reader) uint64 { return uint64(r.U8()) },
		"U16":    func(r *octet.Reader) uint64 { return uint64(r.U16()) },
		"U32":    func(r *octet.Reader) uint64 { return uint64(r.U32()) },
		"U64":    func(r *octet.Reader) uint64 { return r.U64() },
		"Raw 3":  func(r *octet.Reader) uint64 { return uint64(len(r.Raw(3))) },
		"Raw ..": func(r *octet.Reader) uint64 { return uint64(len(r.Raw(math.MaxInt))) },
	}
	width := map[string]int{"U8": 1, "U16": 2, "U32": 4, "U64": 8, "Raw 3": 3, "Raw ..": 9}
	for name, ask := range asks {
		for have := range width[name] {
			r := octet.NewReader(bytes.Repeat([]byte{0xff}, have))
			if ask(r) != 0 || r.Left() != 0 || r.End() != api.ErrShort {
				t.Errorf("%s of %d bytes: %d left, %d", name, have, r.Left(), r.End())
			}
			if r.U8() != 0 || r.U16() != 0 || r.U32() != 0 || r.U64() != 0 || len(r.Raw(0)) != 0 || len(r.Raw(1)) != 0 || r.End() != api.ErrShort {
				t.Errorf("%s of %d bytes does not stay short", name, have)
			}
		}
	}
}

// R2: a reader does not see what becomes of the bytes, nor do they see it.
func TestReaderKeepsToItself(t *testing.T) {
	in := []byte{1, 2, 3}
	r := octet.NewReader(in)
	in[0], in[2] = 9, 9
	got := r.Raw(2)
	got[0] = 8
	if more := append(got, 7); more[1] != 2 || r.U8() != 3 || in[0] != 9 {
		t.Error("memory is shared")
	}
}

// P3.1, P3.2: a nil writer, and a nil reader, tell zero values and ErrArg.
func TestNilWriterAndReader(t *testing.T) {
	var w *octet.Writer
	w.U8(1)
	w.U16(1)
	w.U32(1)
	w.U64(1)
	w.Raw([]byte{1})
	if len(w.Bytes()) != 0 {
		t.Error("a nil writer has bytes")
	}
	var r *octet.Reader
	if r.U8() != 0 || r.U16() != 0 || r.U32() != 0 || r.U64() != 0 || len(r.Raw(1)) != 0 || r.Left() != 0 || r.End() != api.ErrArg {
		t.Error("a nil reader tells something")
	}
	if r := octet.NewReader(nil); r.Left() != 0 || r.End() != api.OK {
		t.Error("a reader of nothing", r.Left(), r.End())
	}
}

// P3.3: what was written is read, call by call, as it was.
func TestWhatWasWrittenIsRead(t *testing.T) {
	dice := rand.New(rand.NewPCG(3, 3))
	for range 200 {
		var w octet.Writer
		var checks []func(r *octet.Reader) bool
		for range 20 {
			n := dice.Uint64()
			switch dice.IntN(5) {
			case 0:
				w.U8(int(n))
				checks = append(checks, func(r *octet.Reader) bool { return r.U8() == int(n&0xff) })
			case 1:
				w.U16(int(n))
				checks = append(checks, func(r *octet.Reader) bool { return r.U16() == int(n&0xffff) })
			case 2:
				w.U32(uint32(n))
				checks = append(checks, func(r *octet.Reader) bool { return r.U32() == uint32(n) })
			case 3:
				w.U64(n)
				checks = append(checks, func(r *octet.Reader) bool { return r.U64() == n })
			default:
				b := bytes.Repeat([]byte{byte(n)}, int(n%7))
				w.Raw(b)
				checks = append(checks, func(r *octet.Reader) bool { return bytes.Equal(r.Raw(len(b)), b) })
			}
		}
		r := octet.NewReader(w.Bytes())
		for i, check := range checks {
			if !check(r) {
				t.Fatalf("call %d is not read as it was written", i)
			}
		}
		if r.End() != api.OK {
			t.Fatal("bytes are left")
		}
	}
}
