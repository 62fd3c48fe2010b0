package optim_test

import (
	"math"
	"math/rand/v2"
	"slices"
	"testing"

	"pedagogue/api"
	"pedagogue/optim"
	"pedagogue/params"
	"pedagogue/prng"
	"pedagogue/sample"
	"pedagogue/tensor"
)

// good may be.
var good = api.Hyper{Batch: 2, Width: 5, Rate: 2, Momentum: 3, Decay: 4, Every: 7}

// P21.1: each bound of each field.
func TestMay(t *testing.T) {
	fields := []struct {
		of          func(h *api.Hyper) *int
		least, most int
	}{
		{func(h *api.Hyper) *int { return &h.Batch }, 1, 8}, {func(h *api.Hyper) *int { return &h.Width }, 2, 8}, {func(h *api.Hyper) *int { return &h.Rate }, 0, 20},
		{func(h *api.Hyper) *int { return &h.Momentum }, 0, 20}, {func(h *api.Hyper) *int { return &h.Decay }, 0, 20}, {func(h *api.Hyper) *int { return &h.Every }, 0, 1000000},
	}
	for i, f := range fields {
		for _, n := range []int{math.MinInt, f.least - 1, f.least, f.least + 1, f.most, f.most + 1, math.MaxInt} {
			h := good
			*f.of(&h) = n
			if got := optim.May(h); got != (n >= f.least && n <= f.most) {
				t.Errorf("field %d at %d: %t", i, n, got)
			}
		}
	}
	if optim.May(api.Hyper{}) {
		t.Error("no hyper may be")
	}
}

// floor is v by 2 to the s, rounded to the whole number below.
func floor(v int64, s int) int64 {
	n := int64(1) << s
	q := v / n
	if v%n < 0 {
		q--
	}
	return q
}

// near is v by 2 to the s, rounded to the nearest.
func near(v int64, s int) int64 { return floor(v+1<<s/2, s) }

func clamp(v, most int64) int64 { return max(-most, min(most, v)) }

func streamOf(step, layer, what int) uint64 { return uint64(step*1024 + layer*16 + what) }

// stepped is Step, told by divisions.
func stepped(t *testing.T, p api.Param, g api.Grad, h api.Hyper, seed uint64, step, layer int) api.Param {
	t.Helper()
	u, e := tensor.Small(g.W, h.Width, seed, streamOf(step, layer, 3))
	v, eB := tensor.Small(g.B, h.Width, seed, streamOf(step, layer, 5))
	if e != api.OK || eB != api.OK {
		t.Fatal(e, eB)
	}
	chance := func(v int64, what, i int) int64 {
		return floor(v+int64(prng.At(seed, streamOf(step, layer, what), uint64(i))%(1<<h.Rate)), h.Rate)
	}
	next := api.Param{W: api.Tensor{Dims: p.W.Dims, Exp: p.W.Exp}, B: api.Tensor{Dims: p.B.Dims, Exp: p.B.Exp}}
	var numbers []int64
	grows := false
	for i, w := range p.W.Data {
		m := int64(p.M[i])
		if h.Momentum == 0 {
			m = 0
		} else {
			m -= floor(m, h.Momentum)
		}
		m = clamp(m+int64(u.Data[i]), 1<<20)
		next.M = append(next.M, int32(m))
		n := int64(w) - chance(m, 4, i)
		if h.Decay != 0 {
			n -= near(int64(w), h.Decay)
		}
		numbers = append(numbers, n)
		grows = grows || n > 127 || n < -127
	}
	grows = grows && p.W.Exp < 64
	if grows {
		next.W.Exp++
	}
	for _, n := range numbers {
		if grows {
			n = near(n, 1)
		}
		next.W.Data = append(next.W.Data, int8(clamp(n, 127)))
	}
	for i, b := range p.B.Data {
		next.B.Data = append(next.B.Data, int8(clamp(int64(b)-chance(int64(v.Data[i]), 6, i), 127)))
	}
	return next
}

func same(a, b api.Param) bool { return params.Same([]api.Param{a}, []api.Param{b}) }

// P21.2: a step, number by number.
func TestStep(t *testing.T) {
	dice := rand.New(rand.NewPCG(21, 21))
	grown, kept := 0, 0
	for range 4000 {
		h := api.Hyper{Batch: 1, Width: 2 + dice.IntN(7), Rate: dice.IntN(21), Momentum: dice.IntN(21), Decay: dice.IntN(21)}
		if dice.IntN(3) == 0 {
			h.Rate = dice.IntN(4)
		}
		if dice.IntN(3) == 0 {
			h.Momentum, h.Decay = dice.IntN(3), dice.IntN(3)
		}
		p := api.Param{W: sample.Tensor(dice.Uint64(), 58+dice.IntN(7), 3, 4), B: sample.Tensor(dice.Uint64(), 3, 3)}
		for i := range p.W.Data {
			p.M = append(p.M, int32(clamp(int64(int32(dice.Uint32()))>>(11+dice.IntN(20)), 1<<20)))
			if h.Rate > 3 {
				p.W.Data[i] /= 2
			}
		}
		g := api.Grad{Has: true, W: sample.Sums(dice.Uint64(), 1+dice.IntN(24), -9, 3, 4), B: sample.Sums(dice.Uint64(), 1+dice.IntN(24), 2, 3)}
		seed, step, layer := dice.Uint64(), dice.IntN(1000001), 1+dice.IntN(12)
		want := stepped(t, p, g, h, seed, step, layer)
		got, e := optim.Step(p, g, h, seed, step, layer)
		if e != api.OK || !same(got, want) {
			t.Fatalf("Step of %v by %v, %+v: %v %d, want %v", p, g, h, got, e, want)
		}
		if got.W.Exp > p.W.Exp {
			grown++
		} else {
			kept++
		}
	}
	if grown < 100 || kept < 100 {
		t.Errorf("the exponent grew %d times, and stayed %d times", grown, kept)
	}
}

// single is one weight, what moves it, a bias, and a gradient of both.
func single(w int8, m int32, b int8, u, v int32) (api.Param, api.Grad) {
	p := api.Param{W: sample.Full(w, 0, 1, 1), M: []int32{m}, B: sample.Full(b, 0, 1)}
	return p, api.Grad{Has: true, W: api.Acc{Dims: []int{1, 1}, Data: []int32{u}}, B: api.Acc{Dims: []int{1}, Data: []int32{v}}}
}

// P21.2: known steps, at the edges.
func TestKnownSteps(t *testing.T) {
	known := []struct {
		name                  string
		w                     int8
		m                     int32
		b                     int8
		u, v                  int32
		rate, momentum, decay int
		exp                   int
		wantW                 int8
		wantM                 int32
		wantB                 int8
		wantExp               int
	}{
		{"the example", 5, 9, 0, 2, 0, 0, 0, 0, 0, 3, 2, 0, 0},
		{"a momentum", 5, 9, 0, 2, 0, 0, 1, 0, 0, -2, 7, 0, 0},
		{"a momentum below 0", 5, -9, 0, 2, 0, 0, 2, 0, 0, 9, -4, 0, 0},
		{"a decay", 10, 0, 0, 0, 0, 0, 0, 1, 0, 5, 0, 0, 0},
		{"a decay, rounded", 5, 0, 0, 0, 0, 0, 0, 1, 0, 2, 0, 0, 0},
		{"a decay below 0", -5, 0, 0, 0, 0, 0, 0, 1, 0, -3, 0, 0, 0},
		{"a bias", 0, 0, 9, 0, 4, 0, 0, 0, 0, 0, 0, 5, 0},
		{"a bias at its bound", 0, 0, 120, 0, -127, 0, 0, 0, 0, 0, 0, 127, 0},
		{"a bias at its lower bound", 0, 0, -120, 0, 127, 0, 0, 0, 0, 0, 0, -127, 0},
		{"just at the bound", 100, 0, 0, -27, 0, 0, 0, 0, 3, 127, -27, 0, 3},
		{"just at the lower bound", -100, 0, 0, 27, 0, 0, 0, 0, 3, -127, 27, 0, 3},
		{"just beyond the bound", 100, 0, 0, -28, 0, 0, 0, 0, 3, 64, -28, 0, 4},
		{"just beyond the lower bound", -100, 0, 0, 28, 0, 0, 0, 0, 3, -64, 28, 0, 4},
		{"beyond, rounded", 100, 0, 0, -29, 0, 0, 0, 0, 3, 65, -29, 0, 4},
		{"beyond, rounded below 0", -100, 0, 0, 29, 0, 0, 0, 0, 3, -64, 29, 0, 4},
		{"beyond, with the greatest exponent", 100, 0, 0, -28, 0, 0, 0, 0, 64, 127, -28, 0, 64},
		{"beyond, with one below the greatest", -100, 0, 0, 28, 0, 0, 0, 0, 63, -64, 28, 0, 64},
		{"far beyond", 100, -1 << 20, 0, 0, 0, 0, 20, 0, 0, 127, 1 - 1<<20, 0, 1},
		{"M at its bound", 0, 1 << 20, 0, 127, 0, 20, 20, 0, 0, -1, 1 << 20, 0, 0},
		{"M at its lower bound", 0, -1 << 20, 0, -127, 0, 20, 20, 0, 0, 1, -1 << 20, 0, 0},
	}
	for _, k := range known {
		p, g := single(k.w, k.m, k.b, k.u, k.v)
		p.W.Exp, p.B.Exp = k.exp, -5
		h := api.Hyper{Batch: 1, Width: 8, Rate: k.rate, Momentum: k.momentum, Decay: k.decay}
		got, e := optim.Step(p, g, h, 1, 1, 1)
		want, _ := single(k.wantW, k.wantM, k.wantB, 0, 0)
		want.W.Exp, want.B.Exp = k.wantExp, -5
		if e != api.OK || !same(got, want) {
			t.Errorf("%s: %v %d, want %v", k.name, got, e, want)
		}
	}
}

// told tells whether a Step told an error, and nothing beside it.
func told(t *testing.T, name string, want api.Errno, p api.Param, e api.Errno) {
	t.Helper()
	if e != want || !same(p, api.Param{}) {
		t.Errorf("%s: %v %d, want %d", name, p, e, want)
	}
}

// P21.2: what may not be, with a Grad or without.
func TestStepOfNoPlace(t *testing.T) {
	for _, has := range []bool{true, false} {
		p, g := single(1, 2, 3, 4, 5)
		g.Has = has
		for _, no := range []int{-1, 1000001, math.MinInt, math.MaxInt} {
			got, e := optim.Step(p, g, good, 1, no, 1)
			told(t, "step", api.ErrArg, got, e)
		}
		for _, no := range []int{-1, 0, 13, math.MinInt, math.MaxInt} {
			got, e := optim.Step(p, g, good, 1, 1, no)
			told(t, "layer", api.ErrArg, got, e)
		}
		h := good
		h.Width = 9
		got, e := optim.Step(p, g, h, 1, 1, 1)
		told(t, "hyper", api.ErrArg, got, e)
	}
}

// P21.2: errors in their order.
func TestStepErrors(t *testing.T) {
	changes := []struct {
		name   string
		want   api.Errno
		change func(p *api.Param, g *api.Grad)
	}{
		{"W", api.ErrArg, func(p *api.Param, g *api.Grad) { p.W.Data[0] = -128 }},
		{"no W", api.ErrArg, func(p *api.Param, g *api.Grad) { p.W = api.Tensor{} }},
		{"B", api.ErrArg, func(p *api.Param, g *api.Grad) { p.B.Exp = 65 }},
		{"g's W", api.ErrArg, func(p *api.Param, g *api.Grad) { g.W.Exp = 129 }},
		{"g's B", api.ErrArg, func(p *api.Param, g *api.Grad) { g.B.Data = nil }},
		{"M longer", api.ErrArg, func(p *api.Param, g *api.Grad) { p.M = []int32{1, 2} }},
		{"M shorter", api.ErrArg, func(p *api.Param, g *api.Grad) { p.M = nil }},
		{"M too great", api.ErrArg, func(p *api.Param, g *api.Grad) { p.M[0] = 1<<20 + 1 }},
		{"M too small", api.ErrArg, func(p *api.Param, g *api.Grad) { p.M[0] = -1<<20 - 1 }},
		{"M least", api.ErrArg, func(p *api.Param, g *api.Grad) { p.M[0] = math.MinInt32 }},
		{"g's W's Dims", api.ErrShape, func(p *api.Param, g *api.Grad) { g.W.Dims = []int{1} }},
		{"g's B's Dims", api.ErrShape, func(p *api.Param, g *api.Grad) { g.B.Dims = []int{1, 1} }},
		{"g's W's number", api.ErrShape, func(p *api.Param, g *api.Grad) { g.W = sample.Sums(1, 4, 0, 1, 2) }},
		{"g's B's number", api.ErrShape, func(p *api.Param, g *api.Grad) { g.B = sample.Sums(1, 4, 0, 2) }},
		{"u's Exp", api.ErrBound, func(p *api.Param, g *api.Grad) { g.W.Exp = 65 }},
		{"v's Exp", api.ErrBound, func(p *api.Param, g *api.Grad) { g.B.Exp = -65 }},
	}
	for _, c := range changes {
		p, g := single(1, 2, 3, 4, 5)
		c.change(&p, &g)
		got, e := optim.Step(p, g, good, 1, 1, 1)
		told(t, c.name, c.want, got, e)
	}
	p, g := single(1, 2, 3, 4, 5)
	g.W.Dims, p.M = []int{1}, nil
	got, e := optim.Step(p, g, good, 1, 1, 1)
	told(t, "ErrArg and ErrShape", api.ErrArg, got, e)
	p, g = single(1, 2, 3, 4, 5)
	g.W.Exp, g.B.Dims = 65, []int{1, 1}
	got, e = optim.Step(p, g, good, 1, 1, 1)
	told(t, "ErrShape and ErrBound", api.ErrShape, got, e)
}

// P21.2, P21.4: without a Grad p is as it is, whatever it is; and new.
func TestStepWithoutGrad(t *testing.T) {
	full, _ := single(1, 2, 3, 4, 5)
	for _, p := range []api.Param{{}, full, {W: sample.Full(-128, 99, 2), M: []int32{1 << 30}, B: sample.Full(3, 0, 3)}} {
		got, e := optim.Step(p, api.Grad{W: sample.Sums(1, 9, 0, 9)}, good, 1, 1, 1)
		if e != api.OK || !same(got, p) {
			t.Errorf("%v became %v %d", p, got, e)
		}
		for i := range got.M {
			got.M[i]++
			got.W.Data[i]++
			got.W.Dims[i]++
			got.B.Data[i]++
			got.B.Dims[i]++
			if got.M[i] == p.M[i] || got.W.Data[i] == p.W.Data[i] || got.W.Dims[i] == p.W.Dims[i] || got.B.Data[i] == p.B.Data[i] || got.B.Dims[i] == p.B.Dims[i] {
				t.Error("memory is shared")
			}
		}
	}
}

// R2: what is handed in is neither changed nor kept.
func TestStepIsNew(t *testing.T) {
	p, g := single(1, 2, 3, 4, 5)
	got, _ := optim.Step(p, g, good, 1, 1, 1)
	got.W.Dims[0], got.B.Dims[0], got.M[0], got.W.Data[0], got.B.Data[0] = 9, 9, 9, 9, 9
	kept, keptG := single(1, 2, 3, 4, 5)
	if !same(p, kept) || !tensor.SameAcc(g.W, keptG.W) || !tensor.SameAcc(g.B, keptG.B) {
		t.Error("what was handed in was changed")
	}
}

// P21.3: a step of each, with its number as its layer.
func TestAll(t *testing.T) {
	dice := rand.New(rand.NewPCG(21, 22))
	var p []api.Param
	var g []api.Grad
	for i := range 12 {
		p = append(p, api.Param{W: sample.Tensor(dice.Uint64(), -7, 3, 4), M: make([]int32, 12), B: sample.Tensor(dice.Uint64(), -7, 3)})
		g = append(g, api.Grad{Has: i%3 != 1, W: sample.Sums(dice.Uint64(), 20, -9, 3, 4), B: sample.Sums(dice.Uint64(), 20, -9, 3)})
	}
	got, number, e := optim.All(p, g, good, 9, 77)
	if e != api.OK || number != 0 || len(got) != 12 {
		t.Fatalf("All: %d %d", number, e)
	}
	for i := range p {
		want, _ := optim.Step(p[i], g[i], good, 9, 77, i+1)
		if !same(got[i], want) {
			t.Errorf("layer %d: %v, want %v", i+1, got[i], want)
		}
	}
	if got, number, e := optim.All(nil, nil, good, 9, 77); e != api.OK || number != 0 || len(got) != 0 {
		t.Errorf("All of none: %d %d", number, e)
	}
}

// P21.3: errors, with the number.
func TestAllErrors(t *testing.T) {
	fresh := func(n int) (p []api.Param, g []api.Grad) {
		for range n {
			oneP, oneG := single(1, 2, 3, 4, 5)
			p, g = append(p, oneP), append(g, oneG)
		}
		return p, g
	}
	refused := func(name string, p []api.Param, g []api.Grad, h api.Hyper, step, wantNumber int, want api.Errno) {
		t.Helper()
		got, number, e := optim.All(p, g, h, 1, step)
		if e != want || number != wantNumber || len(got) != 0 {
			t.Errorf("%s: %d Params, %d, %d; want %d, %d", name, len(got), number, e, wantNumber, want)
		}
	}
	p, g := fresh(3)
	refused("hyper", p, g, api.Hyper{}, 1, 0, api.ErrArg)
	refused("hyper of none", nil, nil, api.Hyper{}, 1, 0, api.ErrArg)
	refused("fewer Grads", p, g[:2], good, 1, 0, api.ErrArg)
	refused("fewer Params", p[:2], g, good, 1, 0, api.ErrArg)
	refused("no Grads", p, nil, good, 1, 0, api.ErrArg)
	refused("step", p, g, good, -1, 1, api.ErrArg)
	refused("step", p, g, good, api.MaxSteps+1, 1, api.ErrArg)
	g[2].W.Exp = 65
	refused("the third", p, g, good, 1, 3, api.ErrBound)
	g[1].B.Dims = []int{1, 1}
	refused("the second", p, g, good, 1, 2, api.ErrShape)
	p, g = fresh(13)
	refused("too many", p, g, good, 1, 13, api.ErrArg)
}

// P21.4: with no gradient and no decay W stays, M fades.
func TestWithNoGradient(t *testing.T) {
	p, g := single(50, 1000, 7, 0, 0)
	h := api.Hyper{Batch: 1, Width: 8, Rate: 20, Momentum: 2}
	last := p.M[0]
	for step := range 40 {
		next, e := optim.Step(p, g, h, 1, step, 1)
		if e != api.OK || next.M[0] > last || next.M[0] > 0 && next.M[0] == last && last > 3 {
			t.Fatalf("M goes from %d to %d", last, next.M[0])
		}
		last = next.M[0]
		p.M = next.M
	}
	if last > 3 {
		t.Errorf("M is still %d", last)
	}
	p, g = single(50, 0, 7, 0, 0)
	for step := range 20 {
		next, e := optim.Step(p, g, api.Hyper{Batch: 1, Width: 2, Momentum: step}, uint64(step), step, 1)
		if e != api.OK || !same(next, p) {
			t.Fatalf("with no gradient %v becomes %v", p, next)
		}
	}
	if !slices.Equal(p.W.Data, []int8{50}) {
		t.Error("W was changed")
	}
}
