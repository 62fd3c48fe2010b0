package sum_test

import (
	"hash/crc32"
	"math/rand/v2"
	"slices"
	"testing"

	"pedagogue/sum"
)

// P4.1: the known sums.
func TestCrcTellsTheKnownSums(t *testing.T) {
	known := map[string]uint32{
		"":          0,
		"a":         0xe8b7be43,
		"123456789": 0xcbf43926,
		"\x00":      0xd202ef8d,
		"\xff\xff":  0xffff0000,
	}
	for b, want := range known {
		if got := sum.Crc([]byte(b)); got != want {
			t.Errorf("Crc of %q: %x, want %x", b, got, want)
		}
	}
	if sum.Crc(nil) != 0 {
		t.Error("Crc of nothing")
	}
}

// P4.1: every row of bytes has the sum that others tell of it; the row is not changed.
func TestCrcIsTheOneOfOthers(t *testing.T) {
	dice := rand.New(rand.NewPCG(4, 4))
	for n := range 400 {
		b := make([]byte, n)
		for i := range b {
			b[i] = byte(dice.Uint32())
		}
		kept := slices.Clone(b)
		if got, want := sum.Crc(b), crc32.ChecksumIEEE(b); got != want {
			t.Errorf("Crc of %d bytes: %x, want %x", n, got, want)
		}
		if !slices.Equal(b, kept) {
			t.Fatal("the bytes were changed")
		}
	}
}

// P4.2: a change within four bytes side by side changes the sum.
func TestCrcSeesChangesSideBySide(t *testing.T) {
	dice := rand.New(rand.NewPCG(4, 5))
	b := []byte("what stands in a slot behind its head")
	was := sum.Crc(b)
	for at := 0; at+4 <= len(b); at++ {
		for range 200 {
			change := dice.Uint32()
			changed := slices.Clone(b)
			for i := range 4 {
				changed[at+i] ^= byte(change >> (8 * i))
			}
			if change != 0 && sum.Crc(changed) == was {
				t.Errorf("%x at %d is not seen", change, at)
			}
		}
	}
}
