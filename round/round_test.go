package round_test

import (
	"math"
	"math/big"
	"math/rand/v2"
	"testing"

	"pedagogue/round"
)

const far = int64(1) << 62

// numbers are those at which a shift or a bound may go wrong, and some by chance.
func numbers() []int64 {
	l := []int64{0, 1, 2, 3, 5, 6, 7, 8, 126, 127, 128, 129, 255, 256, 1<<20 - 1, 1 << 20, 1<<20 + 1, 1<<31 - 1, 1 << 31, far - 1, far, far + 1, math.MaxInt64}
	for _, v := range l {
		l = append(l, -v)
	}
	l = append(l, math.MinInt64, math.MinInt64+1)
	dice := rand.New(rand.NewPCG(2, 2))
	for range 200 {
		l = append(l, int64(dice.Uint64())>>dice.IntN(64))
	}
	return l
}

func shifts() []int {
	return []int{math.MinInt, -64, -1, 0, 1, 2, 3, 7, 20, 31, 32, 33, 61, 62, 63, 64, 200, math.MaxInt}
}

func within(v, least, most int64) int64 { return max(least, min(most, v)) }

// floor is the whole number below (v and more) by 2 to the s, told without any bound on the way.
func floor(v, more int64, s int) int64 {
	n := new(big.Int).Add(big.NewInt(within(v, -far, far)), big.NewInt(more))
	return n.Rsh(n, uint(s)).Int64()
}

// P2.1: Down is the whole number below; numbers and shifts that are beyond are brought back first.
func TestDown(t *testing.T) {
	for _, v := range numbers() {
		for _, s := range shifts() {
			want := floor(v, 0, int(within(int64(s), 0, 62)))
			if got := round.Down(v, s); got != want {
				t.Errorf("Down(%d, %d): %d, want %d", v, s, got, want)
			}
		}
	}
	if round.Down(-5, 1) != -3 || round.Down(5, 1) != 2 || round.Down(-1, 62) != -1 {
		t.Error("Down is not rounded to the whole number below")
	}
}

// P2.1: Near adds half of what is lost first.
func TestNear(t *testing.T) {
	for _, v := range numbers() {
		for _, s := range shifts() {
			by := int(within(int64(s), 0, 62))
			want := within(v, -far, far)
			if by > 0 {
				want = floor(v, 1<<(by-1), by)
			}
			if got := round.Near(v, s); got != want {
				t.Errorf("Near(%d, %d): %d, want %d", v, s, got, want)
			}
		}
	}
	if round.Near(5, 1) != 3 || round.Near(-5, 1) != -2 || round.Near(far, 62) != 1 || round.Near(-7, 0) != -7 {
		t.Error("Near of the known numbers")
	}
}

// P2.1: Chance adds r modulo what is lost first; nothing wraps.
func TestChance(t *testing.T) {
	draws := []uint64{0, 1, 2, 3, 7, 1 << 31, 1<<62 - 1, 1 << 62, 1<<63 + 5, math.MaxUint64}
	for _, v := range numbers() {
		for _, s := range shifts() {
			by := int(within(int64(s), 0, 62))
			for _, r := range draws {
				want := floor(v, int64(r&(1<<by-1)), by)
				if got := round.Chance(v, s, r); got != want {
					t.Errorf("Chance(%d, %d, %d): %d, want %d", v, s, r, got, want)
				}
			}
		}
	}
	if round.Chance(5, 2, 3) != 2 || round.Chance(5, 2, 2) != 1 || round.Chance(-5, 2, 0) != -2 || round.Chance(-5, 2, 1) != -1 {
		t.Error("Chance of the known numbers")
	}
}

// P2.2: Bits is how many bits there are without the sign.
func TestBits(t *testing.T) {
	known := map[int64]int{0: 0, 1: 1, -1: 1, 2: 2, -2: 2, 3: 2, 4: 3, 127: 7, -127: 7, 128: 8, -128: 8, far - 1: 62, far: 63, -far: 63, math.MaxInt64: 63, math.MinInt64: 63}
	for v, want := range known {
		if got := round.Bits(v); got != want {
			t.Errorf("Bits(%d): %d, want %d", v, got, want)
		}
	}
	for s := range 62 {
		if round.Bits(1<<s) != s+1 || round.Bits(-(1<<s)) != s+1 || round.Bits(1<<s-1) != s {
			t.Errorf("Bits about 2 to the %d", s)
		}
	}
}

// P2.2: Clamp has the same bound below 0 as above; widths are 1 to 32.
func TestClamp(t *testing.T) {
	for _, v := range numbers() {
		for _, w := range []int{math.MinInt, -1, 0, 1, 2, 3, 8, 9, 16, 31, 32, 33, 64, math.MaxInt} {
			m := int64(math.Pow(2, float64(within(int64(w), 1, 32)-1))) - 1
			if got := round.Clamp(v, w); got != within(v, -m, m) {
				t.Errorf("Clamp(%d, %d): %d, want %d", v, w, got, within(v, -m, m))
			}
		}
	}
	if round.Clamp(-128, 8) != -127 || round.Clamp(128, 8) != 127 || round.Clamp(9, 1) != 0 {
		t.Error("Clamp of the known numbers")
	}
}

// aligned is Align, told with numbers that know no bound.
func aligned(v int64, from, to int) int64 {
	from, to = int(within(int64(from), -1000, 1000)), int(within(int64(to), -1000, 1000))
	n := big.NewInt(within(v, -far, far))
	if from < to {
		return n.Rsh(n, uint(min(to-from, 62))).Int64()
	}
	n.Lsh(n, uint(from-to))
	bound := big.NewInt(1 << 20)
	if n.CmpAbs(bound) > 0 {
		return int64(n.Sign()) << 20
	}
	return n.Int64()
}

// P2.3: Align multiplies up to 2^20, and goes down without a bound.
func TestAlign(t *testing.T) {
	places := []int{math.MinInt, -1001, -1000, -999, -128, -64, -21, -20, -1, 0, 1, 2, 19, 20, 21, 61, 62, 63, 64, 999, 1000, 1001, math.MaxInt}
	for _, v := range numbers() {
		for _, from := range places {
			for _, to := range places {
				if got, want := round.Align(v, from, to), aligned(v, from, to); got != want {
					t.Errorf("Align(%d, %d, %d): %d, want %d", v, from, to, got, want)
				}
			}
		}
	}
	if round.Align(far, 0, 1) != far/2 || round.Align(-1, 0, 1000) != -1 || round.Align(0, 1000, -1000) != 0 || round.Align(-3, 30, 0) != -1<<20 {
		t.Error("Align of the known numbers")
	}
}

// P2.4: Near is within a half.
func TestNearIsWithinHalf(t *testing.T) {
	for v := int64(-600); v <= 600; v++ {
		for s := 1; s < 10; s++ {
			off := round.Near(v, s)<<s - v
			if 2*off > 1<<s || 2*off < -(1<<s) {
				t.Errorf("Near(%d, %d) is off by %d of %d", v, s, off, 1<<s)
			}
		}
	}
}

// P2.4: over one period Chance is one more than Down as often as the part that is lost says.
func TestChanceIsAsOftenUpAsTheLostPart(t *testing.T) {
	for v := int64(-70); v <= 70; v++ {
		for s := range 7 {
			up := int64(0)
			for r := range uint64(1) << s {
				more := round.Chance(v, s, r+1<<40) - round.Down(v, s)
				if more != 0 && more != 1 {
					t.Fatalf("Chance(%d, %d, %d) is Down and %d", v, s, r, more)
				}
				up += more
			}
			if lost := v - round.Down(v, s)<<s; up != lost {
				t.Errorf("Chance of %d by %d is up %d times, want %d", v, s, up, lost)
			}
		}
	}
}
