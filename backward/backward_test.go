package backward_test

import (
	"math"
	"slices"
	"testing"

	"pedagogue/add"
	"pedagogue/api"
	"pedagogue/backward"
	"pedagogue/check"
	"pedagogue/conv"
	"pedagogue/dense"
	"pedagogue/forward"
	"pedagogue/params"
	"pedagogue/pool"
	"pedagogue/sample"
	"pedagogue/tensor"
	"pedagogue/unit"
)

func first(t *testing.T, m api.Model, seed uint64) []api.Param {
	t.Helper()
	p, e := params.Init(m, seed)
	if e != api.OK {
		t.Fatalf("Init: %d", e)
	}
	return p
}

// acts is what a net gives of x.
func acts(t *testing.T, m api.Model, p []api.Param, x api.Tensor) forward.Acts {
	t.Helper()
	a, number, e := forward.Run(m, p, x, 1, 1)
	if e != api.OK {
		t.Fatalf("forward: layer %d, %d", number, e)
	}
	return a
}

// must is what a call told beside OK.
func must[T any](t *testing.T) func(T, api.Errno) T {
	return func(got T, e api.Errno) T {
		t.Helper()
		if e != api.OK {
			t.Fatal(e)
		}
		return got
	}
}

const whole = "in 2 6 5; conv 3 3 1 1; relu; max 2 1; conv 3 1 1 0 frozen; add 3; add 4; avg 2 1; flat; dense 6; relu; add 9; dense 3"

// expected is what Run tells of whole, layer by layer from the last one.
func expected(t *testing.T, p []api.Param, a forward.Acts, g api.Tensor, seed uint64, step int) []api.Grad {
	acc, gave := must[api.Acc](t), must[api.Tensor](t)
	small := func(layer, what int) func(sums api.Acc, e api.Errno) api.Tensor {
		return func(sums api.Acc, e api.Errno) api.Tensor {
			t.Helper()
			return gave(tensor.Small(acc(sums, e), 8, seed, uint64(step*1024+layer*16+what)))
		}
	}
	grads := make([]api.Grad, 12)
	T := a.T
	grads[11] = api.Grad{Has: true, W: acc(dense.Weight(g, T[11])), B: acc(dense.Bias(g))}
	to11 := small(12, 2)(dense.Input(g, p[11].W))
	to9 := small(9, 1)(add.Add(to11, gave(unit.ReluBack(to11, T[9]))))
	grads[8] = api.Grad{Has: true, W: acc(dense.Weight(to9, T[8])), B: acc(dense.Bias(to9))}
	to8 := small(9, 2)(dense.Input(to9, p[8].W))
	to7 := gave(unit.Shape(to8, T[7].Dims))
	to6 := small(7, 2)(pool.AvgBack(to7, T[6].Dims, 2, 1))
	to5 := to6
	to4 := small(4, 1)(add.Add(to6, to5))
	to3 := small(3, 1)(add.Add(to5, small(4, 2)(conv.Input(to4, p[3].W, 5, 4, 1, 0))))
	to2 := small(3, 2)(pool.MaxBack(to3, a.From[3], T[2].Dims))
	to1 := gave(unit.ReluBack(to2, T[1]))
	grads[0] = api.Grad{Has: true, W: acc(conv.Weight(to1, T[0], 3, 1, 1)), B: acc(conv.Bias(to1))}
	return grads
}

func same(a, b []api.Grad) bool {
	return slices.EqualFunc(a, b, func(a, b api.Grad) bool {
		return a.Has == b.Has && tensor.SameAcc(a.W, b.W) && tensor.SameAcc(a.B, b.B)
	})
}

// P20.1: from the last layer to the first, each thing made small by its own stream.
func TestRun(t *testing.T) {
	m := sample.Net(whole)
	for seed := range uint64(30) {
		p := first(t, m, seed)
		n := 1 + int(seed%4)
		a := acts(t, m, p, sample.Tensor(seed, -3, n, 2, 6, 5))
		g := sample.Tensor(seed+5, -7, n, 3)
		step := int(seed * 31000)
		got, number, e := backward.Run(m, p, a, g, seed+3, step)
		if e != api.OK || number != 0 || !same(got, expected(t, p, a, g, seed+3, step)) {
			t.Fatalf("Run with seed %d: layer %d, %d", seed, number, e)
		}
	}
}

// P20.1, P20.2: only layers with weights that are not frozen have a Grad.
func TestWhoHasGrads(t *testing.T) {
	known := map[string][]bool{
		"in 1 1 2; flat; dense 2":                                  {false, true},
		"in 1 1 2; flat; dense 2 frozen":                           {false, false},
		"in 1 2 2; conv 1 1 1 0; flat; dense 3 frozen; dense 2":    {true, false, false, true},
		"in 1 2 2; conv 1 1 1 0 frozen; flat; dense 3; dense 2":    {false, false, true, true},
		"in 1 2 2; relu; max 1 1; avg 1 1; add 1; flat":            {false, false, false, false, false},
		"in 1 2 2; relu; conv 1 1 1 0; conv 1 1 1 0 frozen; add 2": {false, true, false, false},
	}
	for text, want := range known {
		m := sample.Net(text)
		p := first(t, m, 1)
		a := acts(t, m, p, sample.Tensor(1, 0, 2, m.In[0], m.In[1], m.In[2]))
		last := a.T[len(a.T)-1]
		grads, number, e := backward.Run(m, p, a, sample.Tensor(2, 0, last.Dims...), 1, api.MaxSteps)
		if e != api.OK || number != 0 || len(grads) != len(want) {
			t.Fatalf("%q: layer %d, %d", text, number, e)
		}
		for i, has := range want {
			none := api.Grad{Has: has}
			if grads[i].Has != has || !has && !same(grads[i:i+1], []api.Grad{none}) {
				t.Errorf("%q: layer %d has %t", text, i+1, grads[i].Has)
			}
			if has && (!slices.Equal(grads[i].W.Dims, p[i].W.Dims) || !slices.Equal(grads[i].B.Dims, p[i].B.Dims)) {
				t.Errorf("%q: layer %d: %v", text, i+1, grads[i].W.Dims)
			}
		}
	}
}

// given is what a Run takes.
type given struct {
	m    api.Model
	p    []api.Param
	a    forward.Acts
	g    api.Tensor
	step int
}

// someGiven is what goes well with a net.
func someGiven(t *testing.T, text string, n int) given {
	t.Helper()
	m := sample.Net(text)
	p := first(t, m, 1)
	a := acts(t, m, p, sample.Tensor(1, 0, n, m.In[0], m.In[1], m.In[2]))
	return given{m, p, a, sample.Tensor(2, 0, a.T[len(a.T)-1].Dims...), 1}
}

func (x given) told(t *testing.T, name string, wantNumber int, want api.Errno) {
	t.Helper()
	grads, number, e := backward.Run(x.m, x.p, x.a, x.g, 1, x.step)
	if e != want || number != wantNumber || want != api.OK && len(grads) != 0 {
		t.Errorf("%s: layer %d, %d; want layer %d, %d", name, number, e, wantNumber, want)
	}
}

// P20.1: what may not be is ErrArg, ahead of ErrShape.
func TestRunOfWhatMayNotBe(t *testing.T) {
	const net = "in 1 2 2; relu; max 1 1; flat; dense 2"
	changes := map[string]func(x *given){
		"step below":   func(x *given) { x.step = -1 },
		"step beyond":  func(x *given) { x.step = api.MaxSteps + 1 },
		"step far":     func(x *given) { x.step = math.MaxInt },
		"no weights":   func(x *given) { x.p = nil },
		"fewer":        func(x *given) { x.p = x.p[:3] },
		"a weight":     func(x *given) { x.p[3].W.Data[0] = -128 },
		"no net":       func(x *given) { x.m = api.Model{} },
		"T shorter":    func(x *given) { x.a.T = x.a.T[:4] },
		"T longer":     func(x *given) { x.a.T = append(x.a.T, x.a.T[0]) },
		"no T":         func(x *given) { x.a.T = nil },
		"first of T":   func(x *given) { x.a.T[0].Exp = 65 },
		"last of T":    func(x *given) { x.a.T[4].Data[0] = -128 },
		"middle of T":  func(x *given) { x.a.T[2] = api.Tensor{} },
		"g's Exp":      func(x *given) { x.g.Exp = -65 },
		"g is nothing": func(x *given) { x.g = api.Tensor{} },
	}
	for name, change := range changes {
		x := someGiven(t, net, 2)
		change(&x)
		x.told(t, name, 0, api.ErrArg)
		x.a.From = make([][]int, 1)
		x.told(t, name+", From too", 0, api.ErrArg)
	}
	someGiven(t, net, 2).told(t, "what goes well", 0, api.OK)
}

// P20.1: Dims that do not go together, and a From that is not T's, are ErrShape.
func TestRunOfWhatDoesNotGoTogether(t *testing.T) {
	const net = "in 1 2 2; relu; max 1 1; flat; dense 2"
	changes := map[string]func(x *given){
		"first of T, batch": func(x *given) { x.a.T[0] = sample.Full(1, 0, 1, 1, 2, 2) },
		"last of T, batch":  func(x *given) { x.a.T[4] = sample.Full(1, 0, 3, 2) },
		"middle of T":       func(x *given) { x.a.T[2] = sample.Full(1, 0, 2, 2, 2, 1) },
		"flat, not flat":    func(x *given) { x.a.T[3] = sample.Full(1, 0, 2, 1, 2, 2) },
		"the last of T":     func(x *given) { x.a.T[4] = sample.Full(1, 0, 2, 3) },
		"without a batch":   func(x *given) { x.a.T[1] = sample.Full(1, 0, 1, 2, 2) },
		"no From":           func(x *given) { x.a.From = nil },
		"From shorter":      func(x *given) { x.a.From = x.a.From[:4] },
		"From longer":       func(x *given) { x.a.From = append(x.a.From, nil) },
		"g's batch":         func(x *given) { x.g = sample.Full(1, 0, 1, 2) },
		"g's classes":       func(x *given) { x.g = sample.Full(1, 0, 2, 3) },
		"g's lengths":       func(x *given) { x.g = sample.Full(1, 0, 2, 2, 1) },
	}
	for name, change := range changes {
		x := someGiven(t, net, 2)
		change(&x)
		x.told(t, name, 0, api.ErrShape)
	}
}

// P20.1: without an LMax there need be no From; if there is one, it has as many rows as T.
func TestFromWithoutMax(t *testing.T) {
	for rows, want := range map[int]api.Errno{0: api.OK, 1: api.ErrShape, 3: api.ErrShape, 4: api.OK, 5: api.ErrShape} {
		x := someGiven(t, "in 1 2 2; relu; flat; dense 2", 2)
		x.a.From = make([][]int, rows)
		x.told(t, "From", 0, want)
	}
}

// P20.1: an error of a layer, with its number.
func TestErrorsOfLayers(t *testing.T) {
	x := someGiven(t, "in 1 2 2; relu; max 2 1; flat; dense 2", 2)
	x.a.From[2] = x.a.From[2][:1]
	x.told(t, "a From too short", 2, api.ErrShape)
	x = someGiven(t, "in 1 2 2; relu; max 2 1; flat; dense 2", 2)
	x.a.From[2][1] = 8
	x.told(t, "a From that is no element", 2, api.ErrArg)
	x = someGiven(t, "in 1 12 10; conv 1 1 1 0; flat", 8)
	x.told(t, "too many products", 1, api.ErrBound)
	x.m.Layers[0].Frozen = true
	x.told(t, "too many products of what is frozen", 0, api.OK)
	x = someGiven(t, "in 1 1 1; flat; dense 960", 1)
	x.told(t, "too many products", 2, api.ErrBound)
	x = someGiven(t, "in 1 1 1; flat; dense 2; dense 2", 960)
	x.told(t, "too many products", 3, api.ErrBound)
	x = someGiven(t, "in 1 1 2; flat; dense 2; relu", 1)
	x.p[1].W.Exp = 64
	x.g.Exp = 64
	x.a.T[2] = sample.Full(1, 0, 1, 2)
	x.told(t, "dense's Exp", 2, api.ErrBound)
	x = someGiven(t, "in 1 1 2; conv 2 1 1 0; relu", 1)
	x.p[0].W.Exp, x.g.Exp = -64, -64
	x.a.T[1] = sample.Full(1, 0, 1, 2, 1, 2)
	x.told(t, "conv's Exp", 1, api.ErrBound)
	x = someGiven(t, "in 1 2 2; avg 2 1", 1)
	x.g = sample.Full(1, -63, 1, 1, 1, 1)
	x.told(t, "avg's Exp", 1, api.ErrBound)
	x = someGiven(t, "in 1 1 3; relu; max 1 1; max 1 1", 1)
	x.a.From[3] = []int{1, 1, 1}
	x.g = sample.Full(127, 64, 1, 1, 1, 3)
	x.told(t, "max's Exp", 3, api.ErrBound)
}

// P20.1: what comes twice is added; an error of that is told with the layer that sends it.
func TestErrorsOfWhatComesTwice(t *testing.T) {
	known := map[string]int{
		"in 1 1 1; relu; add 0":                    1,
		"in 1 1 1; relu; relu; add 1":              2,
		"in 1 1 1; relu; relu; relu; add 1; add 1": 4,
		"in 1 1 1; relu; relu; add 1; add 2":       3,
		"in 1 1 1; relu; relu; add 0; add 0":       3,
		"in 1 1 1; relu; add 0; relu; relu; flat":  1,
	}
	for text, want := range known {
		x := someGiven(t, text, 1)
		for i := range x.a.T {
			x.a.T[i] = sample.Full(1, 0, x.a.T[i].Dims...)
		}
		x.g = sample.Full(127, 64, x.a.T[len(x.a.T)-1].Dims...)
		x.told(t, text, want, api.ErrBound)
		x.g.Exp = 50
		x.told(t, text, 0, api.OK)
	}
}

// R2: nothing that is handed in is changed, no two lists are shared.
func TestRunIsNew(t *testing.T) {
	x := someGiven(t, whole, 2)
	kept := someGiven(t, whole, 2)
	grads, _, e := backward.Run(x.m, x.p, x.a, x.g, 1, 1)
	if e != api.OK {
		t.Fatal(e)
	}
	for i := range grads {
		for _, a := range []api.Acc{grads[i].W, grads[i].B} {
			for k := range a.Dims {
				a.Dims[k] = -k
			}
			clear(a.Data)
		}
	}
	if !params.Same(x.p, kept.p) || !tensor.Same(x.g, kept.g) || !slices.EqualFunc(x.a.T, kept.a.T, tensor.Same) || !slices.Equal(x.a.From[3], kept.a.From[3]) {
		t.Error("what was handed in was changed")
	}
}

// P20.2: with check.Net's word no sum is too great, not with the greatest numbers.
func TestNoSumIsTooGreat(t *testing.T) {
	for _, text := range []string{
		"in 1 1 2; flat; dense 959; dense 8", "in 8 5 5; conv 8 5 1 4; conv 8 5 1 0; flat; dense 2", "in 1 6 16; conv 1 2 1 1; flat; dense 2",
		"in 8 10 10; max 2 1; avg 3 3; conv 8 2 1 0; flat; dense 7", "in 4 4 4; relu; conv 4 3 1 1; add 1; add 0; flat; dense 5", whole,
	} {
		m := sample.Net(text)
		classes := m.Layers[len(m.Layers)-1].Out
		if number, e := check.Net(m, classes, 8); e != api.OK {
			t.Fatalf("%q: layer %d, %d", text, number, e)
		}
		p := first(t, m, 1)
		for i := range p {
			for k := range p[i].W.Data {
				p[i].W.Data[k] = 127
			}
		}
		a := acts(t, m, p, sample.Full(127, -20, append([]int{8}, m.In[:]...)...))
		for _, n := range []int8{127, -127} {
			if _, number, e := backward.Run(m, p, a, sample.Full(n, -7, 8, classes), 1, 1); e != api.OK {
				t.Errorf("%q: layer %d, %d", text, number, e)
			}
		}
	}
}
