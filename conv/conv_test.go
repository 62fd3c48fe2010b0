package conv_test

import (
	"math"
	"math/rand/v2"
	"testing"

	"pedagogue/api"
	"pedagogue/conv"
	"pedagogue/dense"
	"pedagogue/round"
	"pedagogue/sample"
	"pedagogue/tensor"
)

// told tells whether a call told an error, and nothing beside it.
func told(t *testing.T, name string, want api.Errno, a api.Acc, e api.Errno) {
	t.Helper()
	if e != want || want != api.OK && !tensor.SameAcc(a, api.Acc{}) {
		t.Errorf("%s: %v %d, want %d", name, a.Dims, e, want)
	}
}

func full(dims ...int) api.Tensor { return sample.Full(1, 0, dims...) }

// P11.1: a tensor that may not be is ErrArg, ahead of ErrShape.
func TestTensorsThatMayNotBe(t *testing.T) {
	good := full(1, 1, 2, 2)
	for _, no := range []api.Tensor{{}, sample.Full(-128, 0, 1, 1, 2, 2), sample.Full(1, 65, 1, 1, 2, 2), full(1, 1, 0, 2)} {
		for _, other := range []api.Tensor{good, full(3)} {
			a, e := conv.Forward(no, other, full(1), 1, 0)
			told(t, "Forward x", api.ErrArg, a, e)
			a, e = conv.Forward(other, no, full(1), 1, 0)
			told(t, "Forward w", api.ErrArg, a, e)
			a, e = conv.Forward(good, other, no, 9, 9)
			told(t, "Forward b", api.ErrArg, a, e)
			a, e = conv.Input(no, other, 2, 2, 1, 0)
			told(t, "Input g", api.ErrArg, a, e)
			a, e = conv.Input(other, no, 0, 2, 1, 0)
			told(t, "Input w", api.ErrArg, a, e)
			a, e = conv.Weight(no, other, 2, 1, 0)
			told(t, "Weight g", api.ErrArg, a, e)
			a, e = conv.Weight(other, no, 2, 0, 0)
			told(t, "Weight x", api.ErrArg, a, e)
		}
		a, e := conv.Bias(no)
		told(t, "Bias", api.ErrArg, a, e)
	}
}

// P11.1: what goes in has x 2 3 6 5, w 4 3 2 2, b 4, g 2 4 3 3 at stride 2, pad 1.
func TestShapesThatDoNotGoTogether(t *testing.T) {
	x, w, b, g := full(2, 3, 6, 5), full(4, 3, 2, 2), full(4), full(2, 4, 4, 3)
	a, e := conv.Forward(x, w, b, 2, 1)
	told(t, "Forward", api.OK, a, e)
	a, e = conv.Input(g, w, 6, 5, 2, 1)
	told(t, "Input", api.OK, a, e)
	a, e = conv.Weight(g, x, 2, 2, 1)
	told(t, "Weight", api.OK, a, e)
	for _, no := range []api.Tensor{full(180), full(6, 6, 5), full(2, 2, 6, 5), full(2, 3, 17, 5), full(2, 3, 6, 17)} {
		a, e = conv.Forward(no, w, b, 2, 1)
		told(t, "Forward x", api.ErrShape, a, e)
	}
	for _, no := range []api.Tensor{full(48), full(12, 2, 2), full(4, 2, 2, 2), full(4, 3, 2, 1), full(4, 3, 1, 2), full(5, 3, 2, 2), full(4, 3, 6, 6)} {
		a, e = conv.Forward(x, no, b, 2, 1)
		told(t, "Forward w", api.ErrShape, a, e)
	}
	for _, no := range []api.Tensor{full(5), full(3), full(4, 1), full(1, 4)} {
		a, e = conv.Forward(x, w, no, 2, 1)
		told(t, "Forward b", api.ErrShape, a, e)
	}
	for _, no := range []api.Tensor{full(96), full(8, 4, 3), full(2, 3, 4, 3), full(2, 4, 3, 3), full(2, 4, 4, 4), full(2, 4, 5, 3), full(2, 4, 4, 2)} {
		a, e = conv.Input(no, w, 6, 5, 2, 1)
		told(t, "Input g", api.ErrShape, a, e)
	}
	for _, no := range []api.Tensor{full(48), full(12, 2, 2), full(3, 3, 2, 2), full(4, 3, 2, 1), full(4, 3, 1, 2), full(4, 3, 3, 3)} {
		a, e = conv.Input(g, no, 6, 5, 2, 1)
		told(t, "Input w", api.ErrShape, a, e)
	}
	for _, no := range []api.Tensor{full(180), full(6, 6, 5), full(1, 3, 6, 5), full(2, 3, 8, 5), full(2, 3, 6, 7), full(2, 3, 17, 5)} {
		a, e = conv.Weight(g, no, 2, 2, 1)
		told(t, "Weight x", api.ErrShape, a, e)
	}
	for _, no := range []api.Tensor{full(96), full(8, 4, 3), full(1, 4, 4, 3), full(2, 4, 3, 3), full(2, 4, 4, 4)} {
		a, e = conv.Weight(no, x, 2, 2, 1)
		told(t, "Weight g", api.ErrShape, a, e)
	}
	for _, no := range []api.Tensor{full(4), full(2, 2), full(2, 2, 2)} {
		a, e = conv.Bias(no)
		told(t, "Bias g", api.ErrShape, a, e)
	}
}

// P11.1: strides, pads, sides and windows that may not be are ErrShape.
func TestWindowsThatMayNotBe(t *testing.T) {
	x, w, g := full(1, 1, 4, 4), full(1, 1, 2, 2), full(1, 1, 3, 3)
	for _, no := range []int{0, -1, 5, 6, math.MinInt, math.MaxInt} {
		a, e := conv.Forward(x, w, full(1), no, 0)
		told(t, "Forward stride", api.ErrShape, a, e)
		a, e = conv.Input(g, w, 4, 4, no, 0)
		told(t, "Input stride", api.ErrShape, a, e)
		a, e = conv.Weight(g, x, 2, no, 0)
		told(t, "Weight stride", api.ErrShape, a, e)
	}
	for _, no := range []int{-1, 2, 5, math.MinInt, math.MaxInt} {
		a, e := conv.Forward(x, w, full(1), 1, no)
		told(t, "Forward pad", api.ErrShape, a, e)
		a, e = conv.Input(g, w, 4, 4, 1, no)
		told(t, "Input pad", api.ErrShape, a, e)
		a, e = conv.Weight(g, x, 2, 1, no)
		told(t, "Weight pad", api.ErrShape, a, e)
	}
	for _, no := range []int{0, -1, 1, 3, 5, 17, 18, math.MinInt, math.MaxInt} {
		a, e := conv.Input(g, w, no, 4, 1, 0)
		told(t, "Input rows", api.ErrShape, a, e)
		a, e = conv.Input(g, w, 4, no, 1, 0)
		told(t, "Input cols", api.ErrShape, a, e)
		a, e = conv.Weight(g, x, no, 1, 0)
		told(t, "Weight k", api.ErrShape, a, e)
	}
	a, e := conv.Forward(full(1, 1, 16, 16), full(1, 1, 6, 6), full(1), 1, 0)
	told(t, "Forward k", api.ErrShape, a, e)
	a, e = conv.Forward(full(1, 1, 4, 1), w, full(1), 1, 0)
	told(t, "Forward with too few columns", api.ErrShape, a, e)
	a, e = conv.Forward(full(1, 1, 1, 4), w, full(1), 1, 0)
	told(t, "Forward with too few rows", api.ErrShape, a, e)
}

// P11.1: more products than fit are ErrBound, ahead of too many elements, which are ErrArg.
func TestBounds(t *testing.T) {
	for c, want := range map[int]api.Errno{59: api.OK, 60: api.ErrBound} {
		a, e := conv.Forward(full(1, c, 4, 4), full(2, c, 4, 4), full(2), 1, 0)
		told(t, "Forward", want, a, e)
		a, e = conv.Input(full(1, c, 1, 1), full(c, 2, 4, 4), 4, 4, 1, 0)
		told(t, "Input", want, a, e)
		a, e = conv.Weight(full(c, 1, 4, 4), full(c, 1, 7, 7), 4, 1, 0)
		told(t, "Weight", want, a, e)
		a, e = conv.Bias(full(c, 2, 8, 2))
		told(t, "Bias", want, a, e)
	}
	for n, want := range map[int]api.Errno{32: api.OK, 33: api.ErrArg} {
		a, e := conv.Forward(full(n, 1, 8, 8), full(4, 1, 1, 1), full(4), 1, 0)
		told(t, "Forward", want, a, e)
		a, e = conv.Input(full(n, 1, 8, 8), full(1, 4, 1, 1), 8, 8, 1, 0)
		told(t, "Input", want, a, e)
		a, e = conv.Weight(full(1, n, 1, 1), full(1, 64, 2, 2), 2, 1, 0)
		told(t, "Weight", want, a, e)
	}
	a, e := conv.Forward(full(1, 960, 2, 2), full(8, 960, 1, 1), full(8), 1, 0)
	told(t, "Forward", api.ErrBound, a, e)
	a, e = conv.Forward(full(2, 960, 2, 2), full(8, 960, 1, 1), full(8), 1, 0)
	told(t, "Forward", api.ErrBound, a, e)
	a, e = conv.Weight(full(4, 8, 16, 16), full(4, 8, 16, 16), 1, 1, 0)
	told(t, "Weight", api.ErrBound, a, e)
	a, e = conv.Bias(full(1, 1, 16, 16))
	told(t, "Bias", api.OK, a, e)
}

// net is one set of lengths and of tensors that go together.
type net struct {
	n, c, h, w, o, k, stride, pad, p, q int
	x, weights, bias, g                 api.Tensor
}

func side(n, k, stride, pad int) int { return (n+2*pad-k)/stride + 1 }

// nets are some that may be.
func nets(many int) []net {
	dice := rand.New(rand.NewPCG(11, 11))
	exps := []int{-64, -20, -7, 0, 3, 64}
	exp := func() int { return exps[dice.IntN(len(exps))] }
	var l []net
	for len(l) < many {
		m := net{n: 1 + dice.IntN(3), c: 1 + dice.IntN(3), h: 1 + dice.IntN(7), w: 1 + dice.IntN(7), o: 1 + dice.IntN(3), k: 1 + dice.IntN(5), stride: 1 + dice.IntN(4)}
		m.pad = dice.IntN(m.k)
		if m.k > m.h+2*m.pad || m.k > m.w+2*m.pad {
			continue
		}
		m.p, m.q = side(m.h, m.k, m.stride, m.pad), side(m.w, m.k, m.stride, m.pad)
		m.x = sample.Tensor(dice.Uint64(), exp(), m.n, m.c, m.h, m.w)
		m.weights = sample.Tensor(dice.Uint64(), exp(), m.o, m.c, m.k, m.k)
		m.bias = sample.Tensor(dice.Uint64(), exp(), m.o)
		m.g = sample.Tensor(dice.Uint64(), exp(), m.n, m.o, m.p, m.q)
		l = append(l, m)
	}
	return l
}

// each goes through all products: which element of g, of x and of w go together.
func (m net) each(do func(g, x, w int)) {
	for n := range m.n {
		for o := range m.o {
			for at := range m.p * m.q {
				for c := range m.c {
					for in := range m.k * m.k {
						row := at/m.q*m.stride - m.pad + in/m.k
						col := at%m.q*m.stride - m.pad + in%m.k
						if row >= 0 && row < m.h && col >= 0 && col < m.w {
							do((n*m.o+o)*m.p*m.q+at, ((n*m.c+c)*m.h+row)*m.w+col, (o*m.c+c)*m.k*m.k+in)
						}
					}
				}
			}
		}
	}
}

func equal(t *testing.T, name string, a api.Acc, e api.Errno, exp int, data []int32, dims ...int) {
	t.Helper()
	if e != api.OK || !tensor.SameAcc(a, api.Acc{Dims: dims, Exp: exp, Data: data}) {
		t.Fatalf("%s: %v %d, want %v at %d: %v", name, a, e, dims, exp, data)
	}
}

// P11.2: each call is the sum that the page says.
func TestSums(t *testing.T) {
	for _, m := range nets(300) {
		forward, input := make([]int32, len(m.g.Data)), make([]int32, len(m.x.Data))
		weight, bias := make([]int32, len(m.weights.Data)), make([]int32, m.o)
		m.each(func(g, x, w int) {
			forward[g] += int32(m.x.Data[x]) * int32(m.weights.Data[w])
			input[x] += int32(m.g.Data[g]) * int32(m.weights.Data[w])
			weight[w] += int32(m.g.Data[g]) * int32(m.x.Data[x])
		})
		exp := m.x.Exp + m.weights.Exp
		for i := range forward {
			o := i / (m.p * m.q) % m.o
			forward[i] += int32(round.Align(int64(m.bias.Data[o]), m.bias.Exp, exp))
			bias[o] += int32(m.g.Data[i])
		}
		a, e := conv.Forward(m.x, m.weights, m.bias, m.stride, m.pad)
		equal(t, "Forward", a, e, exp, forward, m.n, m.o, m.p, m.q)
		a, e = conv.Input(m.g, m.weights, m.h, m.w, m.stride, m.pad)
		equal(t, "Input", a, e, m.g.Exp+m.weights.Exp, input, m.n, m.c, m.h, m.w)
		a, e = conv.Weight(m.g, m.x, m.k, m.stride, m.pad)
		equal(t, "Weight", a, e, m.g.Exp+m.x.Exp, weight, m.o, m.c, m.k, m.k)
		a, e = conv.Bias(m.g)
		equal(t, "Bias", a, e, m.g.Exp, bias, m.o)
	}
	x := api.Tensor{Dims: []int{1, 1, 2, 2}, Data: []int8{1, 2, 3, 4}}
	w := api.Tensor{Dims: []int{1, 1, 2, 2}, Data: []int8{1, 0, 0, 1}}
	a, e := conv.Forward(x, w, sample.Full(0, 0, 1), 1, 0)
	equal(t, "the example", a, e, 0, []int32{5}, 1, 1, 1, 1)
}

// P11.2: the greatest planes and pads, where places stand beyond the greatest side.
func TestTheGreatestPlanes(t *testing.T) {
	a, e := conv.Forward(full(1, 1, 16, 16), full(1, 1, 5, 5), sample.Full(0, 0, 1), 1, 4)
	if e != api.OK || len(a.Data) != 400 || a.Data[0] != 1 || a.Data[399] != 1 || a.Data[210] != 25 || a.Data[19*20+18] != 2 {
		t.Errorf("Forward: %v %d", a, e)
	}
	a, e = conv.Input(full(1, 1, 20, 20), full(1, 1, 5, 5), 16, 16, 1, 4)
	if e != api.OK || len(a.Data) != 256 || a.Data[0] != 25 || a.Data[255] != 25 {
		t.Errorf("Input: %v %d", a, e)
	}
	a, e = conv.Weight(full(1, 1, 20, 20), full(1, 1, 16, 16), 5, 1, 4)
	if e != api.OK || len(a.Data) != 25 || a.Data[0] != 256 || a.Data[24] != 256 {
		t.Errorf("Weight: %v %d", a, e)
	}
}

// P11.3: no sum reaches Bound.
func TestTheGreatestSums(t *testing.T) {
	most := int32(959 * 127 * 127)
	for _, sign := range []int8{1, -1} {
		by := int32(sign)
		a, e := conv.Forward(sample.Full(127, 0, 1, 959, 1, 1), sample.Full(127*sign, 0, 1, 959, 1, 1), sample.Full(127*sign, 64, 1), 1, 0)
		equal(t, "Forward", a, e, 0, []int32{by * (most + 1<<20)}, 1, 1, 1, 1)
		if a.Data[0] >= api.Bound || a.Data[0] <= -api.Bound {
			t.Error("a sum reaches Bound")
		}
		a, e = conv.Input(sample.Full(127, 0, 1, 959, 1, 1), sample.Full(127*sign, 0, 959, 1, 1, 1), 1, 1, 1, 0)
		equal(t, "Input", a, e, 0, []int32{by * most}, 1, 1, 1, 1)
		a, e = conv.Weight(sample.Full(127, 0, 959, 1, 1, 1), sample.Full(127*sign, 0, 959, 1, 1, 1), 1, 1, 0)
		equal(t, "Weight", a, e, 0, []int32{by * most}, 1, 1, 1, 1)
	}
}

// P11.3: with k 1, stride 1, pad 0 it is dense at each place.
func TestOneByOneIsDense(t *testing.T) {
	const n, c, h, w, o = 2, 3, 4, 5, 6
	x, weights, bias := sample.Tensor(1, -3, n, c, h, w), sample.Tensor(2, 1, o, c, 1, 1), sample.Tensor(3, 0, o)
	got, e := conv.Forward(x, weights, bias, 1, 0)
	if e != api.OK {
		t.Fatal(e)
	}
	for at := range h * w {
		column := api.Tensor{Dims: []int{n, c}, Exp: x.Exp}
		for i := range n * c {
			column.Data = append(column.Data, x.Data[i*h*w+at])
		}
		want, e := dense.Forward(column, api.Tensor{Dims: []int{o, c}, Exp: 1, Data: weights.Data}, bias)
		if e != api.OK || want.Exp != got.Exp {
			t.Fatal(e)
		}
		for i := range n * o {
			if got.Data[i*h*w+at] != want.Data[i] {
				t.Errorf("at %d: %d, want %d", at, got.Data[i*h*w+at], want.Data[i])
			}
		}
	}
}
