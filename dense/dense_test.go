package dense_test

import (
	"math"
	"math/rand/v2"
	"testing"

	"pedagogue/api"
	"pedagogue/dense"
	"pedagogue/round"
	"pedagogue/sample"
	"pedagogue/tensor"
)

// P10.1: Fits.
func TestFits(t *testing.T) {
	for n := -3; n < 3000; n++ {
		if got := dense.Fits(n); got != (n >= 0 && n <= 959) {
			t.Errorf("Fits(%d): %t", n, got)
		}
	}
	for _, n := range []int{math.MinInt, math.MaxInt, 1 << 50, -1 << 50} {
		if dense.Fits(n) {
			t.Errorf("Fits(%d)", n)
		}
	}
}

// refused tells whether a call told an error, and nothing beside it.
func refused(t *testing.T, name string, want api.Errno, a api.Acc, e api.Errno) {
	t.Helper()
	if e != want || want != api.OK && !tensor.SameAcc(a, api.Acc{}) {
		t.Errorf("%s: %v %d, want %d", name, a.Dims, e, want)
	}
}

// bad are tensors that may not be.
func bad() []api.Tensor {
	return []api.Tensor{{}, sample.Full(-128, 0, 2, 2), sample.Full(1, 65, 2, 2), {Dims: []int{2, 2}, Data: make([]int8, 3)}, sample.Full(1, 0, 2, 0)}
}

// P10.2: a tensor that may not be is ErrArg, ahead of ErrShape.
func TestTensorsThatMayNotBe(t *testing.T) {
	x, w, b := sample.Full(1, 0, 2, 2), sample.Full(1, 0, 2, 2), sample.Full(1, 0, 2)
	odd := sample.Full(1, 0, 3)
	for _, no := range bad() {
		for _, other := range []api.Tensor{w, odd} {
			a, e := dense.Forward(no, other, b)
			refused(t, "Forward x", api.ErrArg, a, e)
			a, e = dense.Forward(other, no, b)
			refused(t, "Forward w", api.ErrArg, a, e)
			a, e = dense.Forward(x, other, no)
			refused(t, "Forward b", api.ErrArg, a, e)
			a, e = dense.Input(no, other)
			refused(t, "Input g", api.ErrArg, a, e)
			a, e = dense.Input(other, no)
			refused(t, "Input w", api.ErrArg, a, e)
			a, e = dense.Weight(no, other)
			refused(t, "Weight g", api.ErrArg, a, e)
			a, e = dense.Weight(other, no)
			refused(t, "Weight x", api.ErrArg, a, e)
		}
		a, e := dense.Bias(no)
		refused(t, "Bias g", api.ErrArg, a, e)
	}
}

// P10.2: another number of lengths, and lengths that do not go together, are ErrShape.
func TestShapesThatDoNotGoTogether(t *testing.T) {
	x, w, b := sample.Full(1, 0, 4, 2), sample.Full(1, 0, 3, 2), sample.Full(1, 0, 3)
	g := sample.Full(1, 0, 4, 3)
	a, e := dense.Forward(x, w, b)
	refused(t, "Forward", api.OK, a, e)
	for _, other := range []api.Tensor{sample.Full(1, 0, 8), sample.Full(1, 0, 4, 2, 1), sample.Full(1, 0, 1, 1, 4, 2)} {
		a, e = dense.Forward(other, w, b)
		refused(t, "Forward x", api.ErrShape, a, e)
		a, e = dense.Weight(g, other)
		refused(t, "Weight x", api.ErrShape, a, e)
		a, e = dense.Bias(other)
		refused(t, "Bias g", api.ErrShape, a, e)
	}
	for _, other := range []api.Tensor{sample.Full(1, 0, 3), sample.Full(1, 0, 3, 2, 1), sample.Full(1, 0, 1, 3, 2), sample.Full(1, 0, 2, 2), sample.Full(1, 0, 4, 2)} {
		a, e = dense.Forward(x, other, b)
		refused(t, "Forward w", api.ErrShape, a, e)
		a, e = dense.Input(g, other)
		refused(t, "Input w", api.ErrShape, a, e)
	}
	a, e = dense.Forward(x, sample.Full(1, 0, 3, 3), b)
	refused(t, "Forward w", api.ErrShape, a, e)
	for _, other := range []api.Tensor{sample.Full(1, 0, 2), sample.Full(1, 0, 4), sample.Full(1, 0, 3, 1), sample.Full(1, 0, 1, 3)} {
		a, e = dense.Forward(x, w, other)
		refused(t, "Forward b", api.ErrShape, a, e)
	}
	for _, other := range []api.Tensor{sample.Full(1, 0, 12), sample.Full(1, 0, 4, 3, 1), sample.Full(1, 0, 3, 4)} {
		a, e = dense.Input(other, w)
		refused(t, "Input g", api.ErrShape, a, e)
		a, e = dense.Weight(other, x)
		refused(t, "Weight g", api.ErrShape, a, e)
	}
}

// P10.2: more products than fit are ErrBound, ahead of what comes of it having too many elements.
func TestBounds(t *testing.T) {
	for n, want := range map[int]api.Errno{959: api.OK, 960: api.ErrBound, 1023: api.ErrBound, 4096: api.ErrBound} {
		a, e := dense.Forward(sample.Full(1, 0, 1, n), sample.Full(1, 0, 2, n), sample.Full(1, 0, 2))
		refused(t, "Forward", want, a, e)
		a, e = dense.Input(sample.Full(1, 0, 2, n), sample.Full(1, 0, n, 1))
		refused(t, "Input", want, a, e)
		a, e = dense.Weight(sample.Full(1, 0, n, 1), sample.Full(1, 0, n, 2))
		refused(t, "Weight", want, a, e)
		a, e = dense.Bias(sample.Full(1, 0, n, 2))
		refused(t, "Bias", want, a, e)
	}
	for n, want := range map[int]api.Errno{128: api.OK, 129: api.ErrArg} {
		a, e := dense.Forward(sample.Full(1, 0, n, 2), sample.Full(1, 0, 64, 2), sample.Full(1, 0, 64))
		refused(t, "Forward", want, a, e)
		a, e = dense.Input(sample.Full(1, 0, n, 2), sample.Full(1, 0, 2, 64))
		refused(t, "Input", want, a, e)
		a, e = dense.Weight(sample.Full(1, 0, 2, n), sample.Full(1, 0, 2, 64))
		refused(t, "Weight", want, a, e)
	}
	a, e := dense.Forward(sample.Full(1, 0, 8, 960), sample.Full(1, 0, 8, 960), sample.Full(1, 0, 8))
	refused(t, "Forward", api.ErrBound, a, e)
	a, e = dense.Weight(sample.Full(1, 0, 960, 8), sample.Full(1, 0, 960, 8))
	refused(t, "Weight", api.ErrBound, a, e)
	a, e = dense.Weight(sample.Full(1, 0, 1, 4096), sample.Full(1, 0, 1, 4096))
	refused(t, "Weight", api.ErrArg, a, e)
}

// sum adds the products of n pairs.
func sum(n int, pair func(i int) (int8, int8)) int32 {
	total := int64(0)
	for i := range n {
		a, b := pair(i)
		total += int64(a) * int64(b)
	}
	return int32(total)
}

func want(t *testing.T, name string, a api.Acc, e api.Errno, exp, rows, cols int, at func(r, c int) int32) {
	t.Helper()
	dims := []int{rows, cols}
	if rows == 0 {
		dims, rows = []int{cols}, 1
	}
	w := api.Acc{Dims: dims, Exp: exp}
	for r := range rows {
		for c := range cols {
			w.Data = append(w.Data, at(r, c))
		}
	}
	if e != api.OK || !tensor.SameAcc(a, w) {
		t.Fatalf("%s: %v %d, want %v", name, a, e, w)
	}
}

// P10.3: each call is the sum that the page says.
func TestSums(t *testing.T) {
	dice := rand.New(rand.NewPCG(10, 10))
	exps := []int{-64, -30, -7, 0, 1, 9, 20, 64}
	for range 300 {
		N, I, O := 1+dice.IntN(6), 1+dice.IntN(70), 1+dice.IntN(9)
		exp := func() int { return exps[dice.IntN(len(exps))] }
		x, w := sample.Tensor(dice.Uint64(), exp(), N, I), sample.Tensor(dice.Uint64(), exp(), O, I)
		b, g := sample.Tensor(dice.Uint64(), exp(), O), sample.Tensor(dice.Uint64(), exp(), N, O)
		a, e := dense.Forward(x, w, b)
		want(t, "Forward", a, e, x.Exp+w.Exp, N, O, func(n, o int) int32 {
			bias := round.Align(int64(b.Data[o]), b.Exp, x.Exp+w.Exp)
			return int32(bias) + sum(I, func(i int) (int8, int8) { return x.Data[n*I+i], w.Data[o*I+i] })
		})
		a, e = dense.Input(g, w)
		want(t, "Input", a, e, g.Exp+w.Exp, N, I, func(n, i int) int32 {
			return sum(O, func(o int) (int8, int8) { return g.Data[n*O+o], w.Data[o*I+i] })
		})
		a, e = dense.Weight(g, x)
		want(t, "Weight", a, e, g.Exp+x.Exp, O, I, func(o, i int) int32 {
			return sum(N, func(n int) (int8, int8) { return g.Data[n*O+o], x.Data[n*I+i] })
		})
		a, e = dense.Bias(g)
		want(t, "Bias", a, e, g.Exp, 0, O, func(_, o int) int32 {
			return sum(N, func(n int) (int8, int8) { return g.Data[n*O+o], 1 })
		})
	}
	a, e := dense.Forward(api.Tensor{Dims: []int{1, 2}, Data: []int8{1, 2}}, api.Tensor{Dims: []int{1, 2}, Data: []int8{3, 4}}, sample.Full(5, 0, 1))
	want(t, "the example", a, e, 0, 1, 1, func(_, _ int) int32 { return 16 })
}

// P10.4: the greatest sums that there are stay below Bound, there and back.
func TestTheGreatestSums(t *testing.T) {
	for _, sign := range []int8{1, -1} {
		a, e := dense.Forward(sample.Full(127, 0, 2, 959), sample.Full(127*sign, 0, 2, 959), sample.Full(127*sign, 64, 2))
		want(t, "Forward", a, e, 0, 2, 2, func(_, _ int) int32 { return int32(sign) * (959*127*127 + 1<<20) })
		if a.Data[0] >= api.Bound || a.Data[0] <= -api.Bound {
			t.Error("a sum reaches Bound")
		}
		a, e = dense.Input(sample.Full(127, 0, 2, 959), sample.Full(127*sign, 0, 959, 2))
		want(t, "Input", a, e, 0, 2, 2, func(_, _ int) int32 { return int32(sign) * 959 * 127 * 127 })
		a, e = dense.Weight(sample.Full(127, 0, 959, 2), sample.Full(127*sign, 0, 959, 2))
		want(t, "Weight", a, e, 0, 2, 2, func(_, _ int) int32 { return int32(sign) * 959 * 127 * 127 })
		a, e = dense.Bias(sample.Full(127*sign, 0, 959, 2))
		want(t, "Bias", a, e, 0, 0, 2, func(_, _ int) int32 { return int32(sign) * 959 * 127 })
	}
}

// P10.4: one more in x, or in w, moves the sum of all that g weighs by what Input, or Weight, tells.
func TestInputAndWeightAreDerivatives(t *testing.T) {
	const N, I, O = 3, 5, 4
	x, w, b, g := sample.Tensor(1, 0, N, I), sample.Tensor(2, 0, O, I), sample.Tensor(3, 0, O), sample.Tensor(4, 0, N, O)
	weighed := func() int32 {
		a, _ := dense.Forward(x, w, b)
		total := int32(0)
		for i, v := range a.Data {
			total += v * int32(g.Data[i])
		}
		return total
	}
	moves := func(data []int8, i int) int32 {
		if data[i] == 127 {
			data[i]--
		}
		was := weighed()
		data[i]++
		is := weighed()
		data[i]--
		return is - was
	}
	for i := range x.Data {
		moved := moves(x.Data, i)
		back, _ := dense.Input(g, w)
		if back.Data[i] != moved {
			t.Errorf("x %d moves by %d, Input tells %d", i, moved, back.Data[i])
		}
	}
	for i := range w.Data {
		moved := moves(w.Data, i)
		back, _ := dense.Weight(g, x)
		if back.Data[i] != moved {
			t.Errorf("w %d moves by %d, Weight tells %d", i, moved, back.Data[i])
		}
	}
	for i := range b.Data {
		moved := moves(b.Data, i)
		back, _ := dense.Bias(g)
		if back.Data[i] != moved {
			t.Errorf("b %d moves by %d, Bias tells %d", i, moved, back.Data[i])
		}
	}
}

// P10.4: Forward of a sum is the sum of Forwards.
func TestForwardOfSums(t *testing.T) {
	x, y, w := sample.Tensor(5, 0, 2, 6), sample.Tensor(6, 0, 2, 6), sample.Tensor(7, 0, 3, 6)
	both := sample.Full(0, 0, 2, 6)
	for i := range both.Data {
		x.Data[i] /= 2
		y.Data[i] /= 2
		both.Data[i] = x.Data[i] + y.Data[i]
	}
	none := sample.Full(0, 0, 3)
	a, _ := dense.Forward(x, w, none)
	b, _ := dense.Forward(y, w, none)
	c, _ := dense.Forward(both, w, none)
	for i := range c.Data {
		if a.Data[i]+b.Data[i] != c.Data[i] {
			t.Errorf("at %d: %d and %d is not %d", i, a.Data[i], b.Data[i], c.Data[i])
		}
	}
}
