package forward_test

import (
	"math"
	"math/rand/v2"
	"slices"
	"testing"

	"pedagogue/add"
	"pedagogue/api"
	"pedagogue/check"
	"pedagogue/conv"
	"pedagogue/dense"
	"pedagogue/forward"
	"pedagogue/params"
	"pedagogue/pool"
	"pedagogue/sample"
	"pedagogue/tensor"
	"pedagogue/unit"
)

// P18.1: Stream, 0 of what is no step, layer or thing.
func TestStream(t *testing.T) {
	for _, step := range []int{0, 1, 999, 1000000} {
		for layer := range 13 {
			for what := range 16 {
				if got := forward.Stream(step, layer, what); got != uint64(step)*1024+uint64(layer)*16+uint64(what) {
					t.Errorf("Stream(%d, %d, %d): %d", step, layer, what, got)
				}
			}
		}
	}
	for _, no := range [][3]int{{-1, 1, 1}, {1000001, 1, 1}, {1, -1, 1}, {1, 13, 1}, {1, 1, -1}, {1, 1, 16}, {math.MaxInt, 1, 1}, {math.MinInt, 1, 1}, {1, math.MaxInt, 1}, {1, 1, math.MinInt}} {
		if got := forward.Stream(no[0], no[1], no[2]); got != 0 {
			t.Errorf("Stream(%v): %d", no, got)
		}
	}
}

// whole is a net that has every kind of layer.
func whole() api.Model {
	return sample.Net("in 2 6 5; conv 3 3 1 1; relu; max 2 1; conv 3 1 1 0; add 3; add 4; avg 2 1; flat; dense 6; relu; add 9; dense 3")
}

func first(t *testing.T, m api.Model, seed uint64) []api.Param {
	t.Helper()
	p, e := params.Init(m, seed)
	if e != api.OK {
		t.Fatalf("Init: %d", e)
	}
	return p
}

// must is what a call told beside OK.
func must[T any](t *testing.T) func(T, api.Errno) T {
	return func(got T, e api.Errno) T {
		t.Helper()
		if e != api.OK {
			t.Fatal(e)
		}
		return got
	}
}

// expected is what Run tells of whole, layer by layer.
func expected(t *testing.T, p []api.Param, x api.Tensor, seed uint64, step int) forward.Acts {
	acc, gave := must[api.Acc](t), must[api.Tensor](t)
	T, From := []api.Tensor{x}, make([][]int, 13)
	last := func() api.Tensor { return T[len(T)-1] }
	small := func(a api.Acc) {
		T = append(T, gave(tensor.Small(a, 8, seed, uint64(step*1024+len(T)*16))))
	}
	small(acc(conv.Forward(last(), p[0].W, p[0].B, 1, 1)))
	T = append(T, gave(unit.Relu(last())))
	greatest, from, e := pool.Max(last(), 2, 1)
	T, From[3] = append(T, gave(greatest, e)), from
	small(acc(conv.Forward(last(), p[3].W, p[3].B, 1, 0)))
	small(acc(add.Add(last(), T[3])))
	small(acc(add.Add(last(), T[4])))
	small(acc(pool.Avg(last(), 2, 1)))
	T = append(T, gave(unit.Flat(last())))
	small(acc(dense.Forward(last(), p[8].W, p[8].B)))
	T = append(T, gave(unit.Relu(last())))
	small(acc(add.Add(last(), T[9])))
	small(acc(dense.Forward(last(), p[11].W, p[11].B)))
	return forward.Acts{T: T, From: From}
}

func same(a, b forward.Acts) bool {
	return slices.EqualFunc(a.T, b.T, tensor.Same) && slices.EqualFunc(a.From, b.From, slices.Equal[[]int])
}

// P18.2: layer by layer, made small by the seed and the layer's stream of the step.
func TestRun(t *testing.T) {
	m := whole()
	for seed := range uint64(30) {
		p := first(t, m, seed)
		for i := range p {
			for k := range p[i].B.Data {
				p[i].B.Data[k] = int8(17*k + i)
			}
		}
		x := sample.Tensor(seed, int(seed)-20, 1+int(seed%4), 2, 6, 5)
		step := int(seed * seed * 1000)
		got, number, e := forward.Run(m, p, x, seed+7, step)
		if e != api.OK || number != 0 || !same(got, expected(t, p, x, seed+7, step)) {
			t.Fatalf("Run with seed %d: layer %d, %d", seed, number, e)
		}
	}
}

// P18.2: the greatest step; one layer alone; a batch greater than one may learn with.
func TestRunAtTheEdges(t *testing.T) {
	m := sample.Net("in 1 1 2; flat")
	a, number, e := forward.Run(m, []api.Param{{}}, sample.Tensor(1, 5, 9, 1, 1, 2), 1, api.MaxSteps)
	if e != api.OK || number != 0 || len(a.T) != 2 || len(a.From) != 2 || !slices.Equal(a.T[1].Dims, []int{9, 2}) {
		t.Errorf("Run: %v, layer %d, %d", a, number, e)
	}
}

// told tells whether Run and Infer told an error, and nothing beside it.
func told(t *testing.T, name string, m api.Model, p []api.Param, x api.Tensor, step, wantNumber int, want api.Errno) {
	t.Helper()
	a, number, e := forward.Run(m, p, x, 1, step)
	if e != want || number != wantNumber || len(a.T) != 0 || len(a.From) != 0 {
		t.Errorf("%s: layer %d, %d; want layer %d, %d", name, number, e, wantNumber, want)
	}
	if step == 0 {
		y, number, e := forward.Infer(m, p, x)
		if e != want || number != wantNumber || !tensor.Same(y, api.Tensor{}) {
			t.Errorf("Infer, %s: layer %d, %d; want layer %d, %d", name, number, e, wantNumber, want)
		}
	}
}

// P18.2: what may not be is ErrArg, ahead of Dims that are not In's.
func TestRunOfWhatMayNotBe(t *testing.T) {
	m := sample.Net("in 2 3 4; flat; dense 2")
	p := first(t, m, 1)
	good, odd := sample.Full(1, 0, 2, 2, 3, 4), sample.Full(1, 0, 5)
	for _, step := range []int{-1, 1000001, math.MinInt, math.MaxInt} {
		told(t, "step", m, p, odd, step, 0, api.ErrArg)
	}
	told(t, "weights", m, p[:1], odd, 0, 0, api.ErrArg)
	told(t, "weights", m, nil, good, 0, 0, api.ErrArg)
	told(t, "net", sample.Net("in 2 3 4; dense 2"), p[1:], good, 0, 0, api.ErrArg)
	told(t, "net", api.Model{}, nil, good, 0, 0, api.ErrArg)
	for _, x := range []api.Tensor{{}, sample.Full(-128, 0, 1, 2, 3, 4), sample.Full(1, 65, 1, 2, 3, 4), sample.Full(1, 0, 0, 2, 3, 4)} {
		told(t, "x", m, p, x, 0, 0, api.ErrArg)
	}
	for _, x := range []api.Tensor{odd, sample.Full(1, 0, 2, 3, 4), sample.Full(1, 0, 24), sample.Full(1, 0, 1, 24), sample.Full(1, 0, 1, 1, 3, 4), sample.Full(1, 0, 1, 2, 4, 3), sample.Full(1, 0, 1, 2, 3, 5), sample.Full(1, 0, 2, 3, 4, 1)} {
		told(t, "x", m, p, x, 0, 0, api.ErrShape)
	}
}

// with has W's and B's numbers, and exponents, all alike.
func with(t *testing.T, m api.Model, n int8, exp int) []api.Param {
	p := first(t, m, 1)
	for i, l := range m.Layers {
		if l.Kind == api.LDense || l.Kind == api.LConv {
			p[i].W, p[i].B = sample.Full(n, exp, p[i].W.Dims...), sample.Full(n, exp, p[i].B.Dims...)
		}
	}
	return p
}

// P18.2: an error of a layer, with its number: a sum that might be too great, an exponent, too many elements.
func TestErrorsOfLayers(t *testing.T) {
	m := sample.Net("in 6 16 10; flat; dense 2")
	told(t, "too many products", m, with(t, m, 1, 0), sample.Full(1, 0, 1, 6, 16, 10), 0, 2, api.ErrBound)
	m = sample.Net("in 1 1 2; flat; relu; dense 2")
	told(t, "dense's Exp", m, with(t, m, 1, 64), sample.Full(1, 1, 1, 1, 1, 2), 0, 3, api.ErrBound)
	told(t, "dense's Exp", m, with(t, m, 1, -64), sample.Full(1, -1, 1, 1, 1, 2), 0, 3, api.ErrBound)
	m = sample.Net("in 1 1 2; conv 2 1 1 0")
	told(t, "conv's Exp", m, with(t, m, 1, 64), sample.Full(1, 1, 1, 1, 1, 2), 0, 1, api.ErrBound)
	m = sample.Net("in 1 2 2; relu; avg 2 1")
	told(t, "avg's Exp", m, make([]api.Param, 2), sample.Full(1, -63, 1, 1, 2, 2), 0, 2, api.ErrBound)
	m = sample.Net("in 1 2 2; relu; add 0")
	told(t, "add's Exp", m, make([]api.Param, 2), sample.Full(100, 64, 1, 1, 2, 2), 0, 2, api.ErrBound)
	m = sample.Net("in 1 2 2; relu; conv 8 1 1 0")
	told(t, "too many elements", m, with(t, m, 1, 0), sample.Full(1, 0, 300, 1, 2, 2), 0, 2, api.ErrArg)
	m = sample.Net("in 1 1 1; flat; dense 100")
	told(t, "too many elements", m, with(t, m, 1, 0), sample.Full(1, 0, 100, 1, 1, 1), 0, 2, api.ErrArg)
}

// P18.3: Infer is what the last layer gives, with seed 0 and step 0.
func TestInfer(t *testing.T) {
	m := whole()
	for seed := range uint64(10) {
		p := first(t, m, seed)
		x := sample.Tensor(seed, -3, 2, 2, 6, 5)
		a, _, _ := forward.Run(m, p, x, 0, 0)
		y, number, e := forward.Infer(m, p, x)
		if e != api.OK || number != 0 || !tensor.Same(y, a.T[12]) {
			t.Errorf("Infer: %v, layer %d, %d", y, number, e)
		}
	}
}

// R2: what is told is the caller's own.
func TestRunIsNew(t *testing.T) {
	m := sample.Net("in 1 2 2; relu; relu; max 1 1; flat; relu; add 4; dense 2")
	p := first(t, m, 1)
	x := sample.Full(3, 0, 1, 1, 2, 2)
	a, _, e := forward.Run(m, p, x, 1, 1)
	if e != api.OK {
		t.Fatal(e)
	}
	for i := range a.T {
		for k := range a.T[i].Dims {
			a.T[i].Dims[k] = 10*i + k
		}
		for k := range a.T[i].Data {
			a.T[i].Data[k] = int8(10*i + k)
		}
	}
	for i := range a.T {
		for k := range a.T[i].Dims {
			if a.T[i].Dims[k] != 10*i+k {
				t.Errorf("Dims of tensor %d are shared", i)
			}
		}
		for k := range a.T[i].Data {
			if a.T[i].Data[k] != int8(10*i+k) {
				t.Errorf("Data of tensor %d is shared", i)
			}
		}
	}
	if !tensor.Same(x, sample.Full(3, 0, 1, 1, 2, 2)) || !params.Same(p, first(t, m, 1)) {
		t.Error("what was handed in was changed")
	}
}

// P18.4: a net that check.Net lets has no sum that is too great, not with the greatest numbers.
func TestNoSumIsTooGreat(t *testing.T) {
	dice := rand.New(rand.NewPCG(18, 18))
	nets := []string{
		"in 1 1 2; flat; dense 959; dense 8", "in 8 5 5; conv 8 5 1 4; conv 8 5 1 0; flat; dense 2", "in 1 6 16; conv 1 2 1 1; flat; dense 2",
		"in 8 10 10; max 2 1; avg 3 3; conv 8 2 1 0; flat; dense 7", "in 4 4 4; relu; conv 4 3 1 1; add 1; add 0; flat; dense 5",
	}
	for _, text := range nets {
		m := sample.Net(text)
		classes := m.Layers[len(m.Layers)-1].Out
		if number, e := check.Net(m, classes, 8); e != api.OK {
			t.Fatalf("%q: layer %d, %d", text, number, e)
		}
		for _, n := range []int8{127, -127} {
			x := sample.Full(n, -20, append([]int{8}, m.In[:]...)...)
			_, number, e := forward.Run(m, with(t, m, 127, -10), x, dice.Uint64(), 1)
			if e != api.OK {
				t.Errorf("%q: layer %d, %d", text, number, e)
			}
		}
	}
}

// P18.4: what a layer gives hangs on what it takes, and on seed and step, alone.
func TestWhatItHangsOn(t *testing.T) {
	m := sample.Net("in 1 1 9; flat; dense 9; dense 4")
	p := first(t, m, 2)
	x := sample.Tensor(3, 0, 3, 1, 1, 9)
	a, _, _ := forward.Run(m, p, x, 5, 6)
	b, _, _ := forward.Run(m, p, x, 5, 6)
	if !same(a, b) {
		t.Error("twice is not the same")
	}
	otherSeed, _, _ := forward.Run(m, p, x, 6, 6)
	otherStep, _, _ := forward.Run(m, p, x, 5, 7)
	if same(a, otherSeed) || same(a, otherStep) {
		t.Error("another seed, or step, rounds the same")
	}
	p[2].W.Data[0]++
	c, _, _ := forward.Run(m, p, x, 5, 6)
	if !tensor.Same(a.T[2], c.T[2]) || tensor.Same(a.T[3], c.T[3]) {
		t.Error("the last layer's weights move another's numbers, or none")
	}
}
