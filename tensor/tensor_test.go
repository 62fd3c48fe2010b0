package tensor_test

import (
	"math"
	"math/rand/v2"
	"slices"
	"testing"

	"pedagogue/api"
	"pedagogue/prng"
	"pedagogue/tensor"
)

func small(exp int, dims []int, data ...int8) api.Tensor {
	return api.Tensor{Dims: dims, Exp: exp, Data: data}
}

func sums(exp int, dims []int, data ...int32) api.Acc {
	return api.Acc{Dims: dims, Exp: exp, Data: data}
}

// P8.1: what may be a tensor: Dims, so many numbers, Exp, none -128.
func TestMay(t *testing.T) {
	yes := []api.Tensor{
		small(0, []int{1}, 0), small(64, []int{2}, 127, -127), small(-64, []int{2, 1}, 1, 2), small(7, []int{1, 1, 1, 2}, 1, 2),
		{Dims: []int{4096, 2}, Data: make([]int8, 8192)},
	}
	no := []api.Tensor{
		{}, small(0, nil, 1), small(0, []int{2}, 1), small(0, []int{2}, 1, 2, 3), small(0, []int{2}), small(65, []int{1}, 1), small(-65, []int{1}, 1),
		small(math.MaxInt, []int{1}, 1), small(math.MinInt, []int{1}, 1), small(0, []int{3}, 1, -128, 1), small(0, []int{1}, -128), small(0, []int{0}),
		small(0, []int{1, 1, 1, 1, 1}, 1), {Dims: []int{4096, 3}, Data: make([]int8, 3*4096)}, small(0, []int{-1, -1}, 1),
	}
	for _, x := range yes {
		if !tensor.May(x) {
			t.Errorf("%v at %d may not be", x.Dims, x.Exp)
		}
	}
	for _, x := range no {
		if tensor.May(x) {
			t.Errorf("%v at %d may be", x.Dims, x.Exp)
		}
	}
}

// P8.1: what may be sums: twice the exponents, and any numbers.
func TestMayAcc(t *testing.T) {
	yes := []api.Acc{sums(128, []int{1}, math.MinInt32), sums(-128, []int{1, 2}, math.MaxInt32, -128), sums(0, []int{1}, 0)}
	no := []api.Acc{
		{}, sums(129, []int{1}, 1), sums(-129, []int{1}, 1), sums(0, []int{2}, 1), sums(0, []int{1}, 1, 2), sums(0, nil, 1), sums(0, []int{0}),
		{Dims: []int{4097}, Data: make([]int32, 4097)}, sums(math.MinInt, []int{1}, 1), sums(math.MaxInt, []int{1}, 1),
	}
	for _, a := range yes {
		if !tensor.MayAcc(a) {
			t.Errorf("%v at %d may not be", a.Dims, a.Exp)
		}
	}
	for _, a := range no {
		if tensor.MayAcc(a) || tensor.Width(a) != 0 {
			t.Errorf("%v at %d may be", a.Dims, a.Exp)
		}
		if x, e := tensor.Small(a, 8, 1, 1); e != api.ErrArg || !tensor.Same(x, api.Tensor{}) {
			t.Errorf("Small of %v at %d: %d", a.Dims, a.Exp, e)
		}
	}
}

// P8.1: Same, SameAcc: Dims, Exp, Data.
func TestSame(t *testing.T) {
	a := small(1, []int{2}, 3, 4)
	others := []api.Tensor{{}, small(2, []int{2}, 3, 4), small(1, []int{2, 1}, 3, 4), small(1, []int{1}, 3, 4), small(1, []int{2}, 3, 5), small(1, []int{2}, 3), small(1, nil, 3, 4)}
	if !tensor.Same(a, small(1, []int{2}, 3, 4)) || !tensor.Same(api.Tensor{}, api.Tensor{Dims: []int{}, Data: []int8{}}) {
		t.Error("what is the same is not")
	}
	b := sums(1, []int{2}, 3, 4)
	if !tensor.SameAcc(b, sums(1, []int{2}, 3, 4)) || !tensor.SameAcc(api.Acc{}, api.Acc{Dims: []int{}, Data: []int32{}}) {
		t.Error("what is the same is not")
	}
	for i, other := range others {
		if tensor.Same(a, other) || tensor.Same(other, a) {
			t.Errorf("tensor %d is the same", i)
		}
		wide := api.Acc{Dims: other.Dims, Exp: other.Exp}
		for _, v := range other.Data {
			wide.Data = append(wide.Data, int32(v))
		}
		if tensor.SameAcc(b, wide) || tensor.SameAcc(wide, b) {
			t.Errorf("sums %d are the same", i)
		}
	}
}

// P8.1: Zero.
func TestZero(t *testing.T) {
	dims := []int{2, 3}
	for _, exp := range []int{-64, 0, 64} {
		x, e := tensor.Zero(dims, exp)
		if e != api.OK || !tensor.Same(x, small(exp, []int{2, 3}, 0, 0, 0, 0, 0, 0)) {
			t.Errorf("Zero at %d: %v %d", exp, x, e)
		}
		x.Dims[0] = 9
	}
	if dims[0] != 2 {
		t.Error("Dims are shared")
	}
	for _, exp := range []int{-65, 65, math.MinInt, math.MaxInt} {
		if x, e := tensor.Zero(dims, exp); e != api.ErrArg || !tensor.Same(x, api.Tensor{}) {
			t.Errorf("Zero at %d: %d", exp, e)
		}
	}
	for _, dims := range [][]int{nil, {0}, {4097}, {4096, 3}, {1, 1, 1, 1, 1}} {
		if x, e := tensor.Zero(dims, 0); e != api.ErrArg || !tensor.Same(x, api.Tensor{}) {
			t.Errorf("Zero of %v: %d", dims, e)
		}
	}
}

// P8.2: Width is the greatest number of bits, wherever it stands, below 0 too.
func TestWidth(t *testing.T) {
	known := map[int]api.Acc{
		0:  sums(0, []int{2}, 0, 0),
		1:  sums(0, []int{3}, 0, -1, 1),
		7:  sums(5, []int{3}, 3, 127, -2),
		8:  sums(0, []int{3}, -128, 5, 5),
		24: sums(-9, []int{1, 2}, 1, -(1<<24 - 1)),
		31: sums(0, []int{1}, math.MaxInt32),
		32: sums(0, []int{2}, 1, math.MinInt32),
	}
	for want, a := range known {
		if got := tensor.Width(a); got != want {
			t.Errorf("Width of %v: %d, want %d", a.Data, got, want)
		}
	}
}

// smallOf is Small, told by divisions.
func smallOf(a api.Acc, w int, seed, stream uint64) (api.Tensor, api.Errno) {
	greatest := int64(0)
	for _, v := range a.Data {
		greatest = max(greatest, int64(v), -int64(v))
	}
	most, s := int64(1)<<(w-1)-1, 0
	for greatest >= int64(1)<<(w-1+s) {
		s++
	}
	if a.Exp+s > 64 || a.Exp+s < -64 {
		return api.Tensor{}, api.ErrBound
	}
	x := api.Tensor{Dims: a.Dims, Exp: a.Exp + s}
	for i, v := range a.Data {
		step := int64(1) << s
		n := int64(v) + int64(prng.At(seed, stream, uint64(i))%uint64(step))
		quotient := n / step
		if n%step < 0 {
			quotient--
		}
		x.Data = append(x.Data, int8(max(-most, min(most, quotient))))
	}
	return x, api.OK
}

// P8.2: Small, number by number, by the seed, the stream and the number's place.
func TestSmall(t *testing.T) {
	dice := rand.New(rand.NewPCG(8, 8))
	for range 3000 {
		a := api.Acc{Dims: []int{2, 3}, Exp: dice.IntN(240) - 120}
		bits := dice.IntN(32)
		for range 6 {
			a.Data = append(a.Data, int32(dice.Uint32())>>bits)
		}
		kept := slices.Clone(a.Data)
		w, seed, stream := 2+dice.IntN(7), dice.Uint64(), dice.Uint64N(5000)
		got, e := tensor.Small(a, w, seed, stream)
		want, wantE := smallOf(a, w, seed, stream)
		if e != wantE || !tensor.Same(got, want) {
			t.Fatalf("Small of %v to %d bits: %v %d, want %v %d", a, w, got, e, want, wantE)
		}
		if e == api.OK && !tensor.May(got) {
			t.Fatalf("Small of %v may not be: %v", a, got)
		}
		if !slices.Equal(kept, a.Data) {
			t.Fatal("the sums were changed")
		}
	}
}

// P8.2: widths that may not be; exponents at the bound and one beyond it.
func TestSmallAtTheBounds(t *testing.T) {
	a := sums(0, []int{2}, 5, -3)
	for _, w := range []int{math.MinInt, -1, 0, 1, 9, 32, math.MaxInt} {
		if x, e := tensor.Small(a, w, 0, 0); e != api.ErrArg || !tensor.Same(x, api.Tensor{}) {
			t.Errorf("Small to %d bits: %d", w, e)
		}
	}
	known := []struct {
		exp  int
		v    int32
		w    int
		want int // the exponent, 99 of what is ErrBound
	}{
		{64, 127, 8, 64}, {64, 128, 8, 99}, {63, 128, 8, 64}, {63, 256, 8, 99}, {-64, 0, 8, -64}, {-65, 0, 8, 99}, {-65, 127, 8, 99}, {-65, 128, 8, -64},
		{-128, math.MinInt32, 2, 99}, {-95, math.MinInt32, 2, -64}, {-96, math.MinInt32, 2, 99}, {128, 0, 8, 99}, {63, 3, 2, 64}, {64, 1, 2, 64},
	}
	for _, k := range known {
		x, e := tensor.Small(sums(k.exp, []int{1}, k.v), k.w, 1, 1)
		if k.want == 99 {
			if e != api.ErrBound || !tensor.Same(x, api.Tensor{}) {
				t.Errorf("%d at %d: %v %d", k.v, k.exp, x, e)
			}
		} else if e != api.OK || x.Exp != k.want {
			t.Errorf("%d at %d: %v %d", k.v, k.exp, x, e)
		}
	}
	if _, e := tensor.Small(sums(128, []int{1}, 0), 9, 0, 0); e != api.ErrArg {
		t.Error("ErrArg does not come ahead of ErrBound")
	}
}

// P8.2: Text.
func TestText(t *testing.T) {
	known := map[string]api.Tensor{
		"2x3@-7:1,-2,3,0,127,-127": small(-7, []int{2, 3}, 1, -2, 3, 0, 127, -127),
		"1@64:5":                   small(64, []int{1}, 5),
		"1x1x2x1@0:0,9":            small(0, []int{1, 1, 2, 1}, 0, 9),
		"?":                        small(0, []int{1}, -128),
	}
	for want, x := range known {
		if got := tensor.Text(x); got != want {
			t.Errorf("Text: %q, want %q", got, want)
		}
	}
	for _, x := range []api.Tensor{{}, small(65, []int{1}, 1), small(0, []int{2}, 1)} {
		if tensor.Text(x) != "?" {
			t.Errorf("Text of what may not be: %q", tensor.Text(x))
		}
	}
}

// P8.3: what is Small already stays as it is.
func TestSmallOfSmallStays(t *testing.T) {
	for w := 2; w <= 8; w++ {
		most := int32(1)<<(w-1) - 1
		for v := -most; v <= most; v++ {
			x, e := tensor.Small(sums(-3, []int{2}, v, -v), w, uint64(v+200), 7)
			if e != api.OK || !tensor.Same(x, small(-3, []int{2}, int8(v), int8(-v))) {
				t.Errorf("%d, %d bits: %v %d", v, w, x, e)
			}
		}
	}
}

// P8.3: each number is off by less than one of its own steps, but where it is clamped.
func TestSmallIsNear(t *testing.T) {
	dice := rand.New(rand.NewPCG(8, 9))
	for range 2000 {
		a := sums(0, []int{4}, int32(dice.Uint32())>>dice.IntN(30), int32(dice.Uint32())>>8, int32(dice.Uint32())>>20, -1)
		w := 2 + dice.IntN(7)
		x, e := tensor.Small(a, w, dice.Uint64(), 1)
		if e != api.OK {
			t.Fatal(e)
		}
		most := int64(1)<<(w-1) - 1
		for i, v := range a.Data {
			n := int64(x.Data[i])
			off := n<<x.Exp - int64(v)
			if n != most && n != -most && (off >= 1<<x.Exp || off <= -1<<x.Exp) {
				t.Errorf("%d is %d at %d", v, n, x.Exp)
			}
		}
	}
}

// R2: what is told is the caller's own.
func TestSmallIsNew(t *testing.T) {
	a := sums(0, []int{2}, 1, 2)
	x, _ := tensor.Small(a, 8, 0, 0)
	x.Dims[0] = 5
	if a.Dims[0] != 2 {
		t.Error("Dims are shared")
	}
}
