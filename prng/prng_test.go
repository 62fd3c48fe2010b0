package prng_test

import (
	"slices"
	"testing"

	"pedagogue/prng"
)

// unshift takes back x ^ x>>by.
func unshift(x uint64, by int) uint64 {
	back := x
	for range 64/by + 1 {
		back = x ^ back>>by
	}
	return back
}

// inverse is what an odd number is to be multiplied by to give 1.
func inverse(odd uint64) uint64 {
	back := odd
	for range 6 {
		back *= 2 - odd*back
	}
	return back
}

// unmix is the one number that Mix makes x of.
func unmix(x uint64) uint64 {
	x = unshift(x, 31) * inverse(0x94d049bb133111eb)
	x = unshift(x, 27) * inverse(0xbf58476d1ce4e5b9)
	return unshift(x, 30) - 0x9e3779b97f4a7c15
}

// placeOf is the index at which At tells x.
func placeOf(seed, stream, x uint64) uint64 {
	return unmix(x) ^ prng.Mix(prng.Mix(seed)^stream)
}

// P1.1: Mix tells the known numbers of a known start.
func TestMixTellsTheKnownNumbers(t *testing.T) {
	known := []uint64{
		0xe220a8397b1dcdaf, 0x6e789e6aa1b965f4, 0x06c45d188009454f,
		0xf88bb8a8724c81ec, 0x1b39896a51a8749b,
	}
	for i, want := range known {
		if got := prng.Mix(uint64(i) * 0x9e3779b97f4a7c15); got != want {
			t.Errorf("Mix of number %d: %x, want %x", i, got, want)
		}
	}
	if got := prng.Mix(1<<64 - 1); got != 0xe4d971771b652c20 {
		t.Errorf("Mix of the greatest number: %x", got)
	}
}

// P1.1: At mixes the seed, then the stream into it, then the index.
func TestAtMixesThrice(t *testing.T) {
	places := []uint64{0, 1, 2, 1 << 40, 1<<64 - 1}
	for _, seed := range places {
		for _, stream := range places {
			for _, index := range places {
				want := prng.Mix(prng.Mix(prng.Mix(seed)^stream) ^ index)
				if got := prng.At(seed, stream, index); got != want {
					t.Errorf("At(%d, %d, %d): %x, want %x", seed, stream, index, got, want)
				}
			}
		}
	}
	if got := prng.At(0, 0, 0); got != prng.Mix(prng.Mix(0xe220a8397b1dcdaf)) {
		t.Errorf("At(0, 0, 0): %x", got)
	}
}

// P1.2: a number of which there is no chance below tells 0.
func TestBelowOfWhatMayNotBe(t *testing.T) {
	for _, n := range []int{0, -1, -6, -1 << 63, 1<<31 + 1, 1 << 32, 1<<63 - 1} {
		for i := range uint64(50) {
			if got := prng.Below(3, 4, i, n); got != 0 {
				t.Errorf("Below %d: %d", n, got)
			}
		}
	}
}

// P1.2: the first number that At tells is taken modulo n.
func TestBelowIsTheRemainder(t *testing.T) {
	for i := range uint64(2000) {
		for _, n := range []int{1, 2, 3, 6, 63, 1000, 1<<31 - 1, 1 << 31} {
			want := int(prng.At(i, i*i, 7*i) % uint64(n))
			if got := prng.Below(i, i*i, 7*i, n); got != want {
				t.Errorf("Below(%d, .., %d): %d, want %d", i, n, got, want)
			}
		}
	}
}

// P1.2: what is less than 2^64 modulo n is asked for again, what is just that is not.
func TestBelowAsksAgain(t *testing.T) {
	uneven := map[int]uint64{3: 1, 6: 4, 7: 2, 1000: 616, 1<<31 - 1: 4, 1 << 31: 0, 1: 0}
	for n, limit := range uneven {
		for x := range limit + 3 {
			want := x
			if x < limit {
				want = prng.Mix(x)
			}
			got := prng.Below(11, 12, placeOf(11, 12, x), n)
			if got != int(want%uint64(n)) {
				t.Errorf("Below %d of the draw %d: %d, want %d", n, x, got, want%uint64(n))
			}
		}
	}
}

// P1.2: each number below n is about as likely as any other.
func TestBelowIsEven(t *testing.T) {
	var seen [7]int
	for i := range uint64(7000) {
		seen[prng.Below(21, 22, i, 7)]++
	}
	for n, times := range seen {
		if times < 850 || times > 1150 {
			t.Errorf("%d came %d times of 7000", n, times)
		}
	}
}

// P1.3: a row that there is not is nothing.
func TestPermOfWhatMayNotBe(t *testing.T) {
	for _, n := range []int{0, -1, -1 << 63, 65537, 1<<63 - 1} {
		if got := prng.Perm(1, 2, n); len(got) != 0 {
			t.Errorf("Perm of %d has %d numbers", n, len(got))
		}
	}
}

// P1.3: the exchanges go from the last place down, each with a place up to its own.
func TestPermExchangesFromTheEnd(t *testing.T) {
	for _, n := range []int{1, 2, 3, 10, 64, 500} {
		for seed := range uint64(20) {
			want := make([]int, n)
			for i := range want {
				want[i] = i
			}
			for i := n - 1; i > 0; i-- {
				j := prng.Below(seed, 5, uint64(i), i+1)
				want[i], want[j] = want[j], want[i]
			}
			if got := prng.Perm(seed, 5, n); !slices.Equal(got, want) {
				t.Fatalf("Perm(%d, 5, %d): %v, want %v", seed, n, got, want)
			}
		}
	}
}

// P1.4: Perm has each number once, up to the greatest row that there is.
func TestPermHasEachOnce(t *testing.T) {
	for _, n := range []int{1, 2, 63, 65535, 65536} {
		got := prng.Perm(9, 8, n)
		slices.Sort(got)
		if len(got) != n {
			t.Fatalf("Perm of %d has %d numbers", n, len(got))
		}
		for i, x := range got {
			if x != i {
				t.Fatalf("Perm of %d has %d where %d should be", n, x, i)
			}
		}
	}
}

// P1.4: Mix can be taken back, so that unlike numbers stay unlike.
func TestMixOfUnlikeIsUnlike(t *testing.T) {
	x := uint64(0)
	for i := range 1000 {
		if back := unmix(prng.Mix(x)); back != x {
			t.Fatalf("Mix of %x is taken back to %x", x, back)
		}
		x = prng.Mix(x + uint64(i))
	}
}

// R2: each row is the caller's own.
func TestPermIsNew(t *testing.T) {
	first := prng.Perm(1, 1, 8)
	kept := slices.Clone(first)
	clear(first)
	if !slices.Equal(prng.Perm(1, 1, 8), kept) {
		t.Error("a row that was changed is told again")
	}
}
