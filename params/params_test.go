package params_test

import (
	"math"
	"slices"
	"testing"

	"pedagogue/api"
	"pedagogue/params"
	"pedagogue/prng"
	"pedagogue/sample"
	"pedagogue/tensor"
)

func first(t *testing.T, m api.Model, seed uint64) []api.Param {
	t.Helper()
	p, e := params.Init(m, seed)
	if e != api.OK {
		t.Fatalf("Init: %d", e)
	}
	return p
}

// P17.1: Dims of each kind, of no layer, of what has no shapes, and of what is too great.
func TestDims(t *testing.T) {
	m := sample.Net("in 2 5 4; conv 3 2 1 1; dense 4")
	if dims, biases := params.Dims(m, 1); len(dims) != 0 || biases != 0 {
		t.Error("a net without shapes has Dims")
	}
	m = sample.Net("in 2 5 4; conv 3 2 1 1 frozen; relu; max 2 2; avg 1 1; conv 2 1 1 0; flat; dense 4; relu; add 7; dense 3")
	known := map[int][]int{1: {3, 2, 2, 2}, 5: {2, 3, 1, 1}, 7: {4, 12}, 10: {3, 4}}
	for layer := -1; layer <= 12; layer++ {
		dims, biases := params.Dims(m, layer)
		want, wantBiases := known[layer], 0
		if want != nil {
			wantBiases = want[0]
		}
		if !slices.Equal(dims, want) || biases != wantBiases {
			t.Errorf("Dims of layer %d: %v, %d; want %v, %d", layer, dims, biases, want, wantBiases)
		}
	}
	for _, layer := range []int{math.MinInt, math.MaxInt} {
		if dims, biases := params.Dims(m, layer); len(dims) != 0 || biases != 0 {
			t.Errorf("Dims of layer %d: %v", layer, dims)
		}
	}
	if dims, biases := params.Dims(api.Model{}, 1); len(dims) != 0 || biases != 0 {
		t.Error("no net has Dims")
	}
	m = sample.Net("in 1 1 2; flat; dense 4096; dense 2; dense 3")
	for layer, want := range map[int]int{2: 4096, 3: 2, 4: 3} {
		if dims, biases := params.Dims(m, layer); biases != want || len(dims) != 2 || dims[0] != want {
			t.Errorf("Dims of layer %d: %v, %d", layer, dims, biases)
		}
	}
	m = sample.Net("in 1 1 3; flat; dense 2731; dense 3; dense 4")
	for layer, want := range map[int]int{2: 0, 3: 0, 4: 4} {
		if dims, biases := params.Dims(m, layer); biases != want || len(dims) != min(want, 2) {
			t.Errorf("Dims of layer %d: %v, %d", layer, dims, biases)
		}
	}
}

// P17.2: each weight by its place, in the layer's stream; the rest is 0.
func TestInit(t *testing.T) {
	m := sample.Net("in 2 5 4; conv 3 2 1 1 frozen; relu; flat; dense 4; dense 3")
	for _, seed := range []uint64{0, 1, 99, math.MaxUint64} {
		p := first(t, m, seed)
		if len(p) != 5 {
			t.Fatalf("%d Params", len(p))
		}
		for i, dims := range [][]int{{3, 2, 2, 2}, nil, nil, {4, 90}, {3, 4}} {
			if dims == nil {
				if !params.Same(p[i:i+1], []api.Param{{}}) {
					t.Errorf("layer %d has weights", i+1)
				}
				continue
			}
			size := 1
			for _, n := range dims {
				size *= n
			}
			w := api.Tensor{Dims: dims, Exp: -7}
			for k := range size {
				w.Data = append(w.Data, int8(prng.Below(seed, uint64(i+1), uint64(k), 63)-31))
			}
			want := api.Param{W: w, M: make([]int32, size), B: api.Tensor{Dims: dims[:1], Exp: -7, Data: make([]int8, dims[0])}}
			if !params.Same(p[i:i+1], []api.Param{want}) {
				t.Errorf("layer %d: %v, want %v", i+1, p[i], want)
			}
		}
	}
}

// P17.2: Shapes' error, and weights that are too many.
func TestInitErrors(t *testing.T) {
	known := map[string]api.Errno{
		"in 1 1 2; dense 3":                   api.ErrShape,
		"in 1 1 2; flat; dense 4096; dense 2": api.OK,
		"in 1 1 2; flat; dense 4096; dense 3": api.ErrArg,
		"in 1 1 3; flat; dense 2731; dense 2": api.ErrArg,
		"in 1 1 3; flat; dense 2730; dense 2": api.OK,
		"in 8 16 16; conv 8 5 1 4; flat":      api.OK,
	}
	for text, want := range known {
		p, e := params.Init(sample.Net(text), 1)
		if e != want || (e != api.OK) != (len(p) == 0) {
			t.Errorf("Init of %q: %d Params, %d; want %d", text, len(p), e, want)
		}
	}
	if p, e := params.Init(api.Model{}, 1); e != api.ErrArg || len(p) != 0 {
		t.Errorf("Init of no net: %d", e)
	}
}

// P17.1: what may be the weights of a net.
func TestMay(t *testing.T) {
	m := sample.Net("in 2 2 2; conv 3 2 1 1; relu; flat; dense 4")
	changes := map[string]func(p []api.Param) []api.Param{
		"fewer":              func(p []api.Param) []api.Param { return p[:3] },
		"more":               func(p []api.Param) []api.Param { return append(p, api.Param{}) },
		"none":               func(p []api.Param) []api.Param { return nil },
		"W at -128":          func(p []api.Param) []api.Param { p[0].W.Data[3] = -128; return p },
		"B at -128":          func(p []api.Param) []api.Param { p[3].B.Data[3] = -128; return p },
		"W's Exp":            func(p []api.Param) []api.Param { p[3].W.Exp = 65; return p },
		"B's Exp":            func(p []api.Param) []api.Param { p[3].B.Exp = -65; return p },
		"W's Dims":           func(p []api.Param) []api.Param { p[3].W.Dims = []int{27, 4}; return p },
		"W's Dims, flat":     func(p []api.Param) []api.Param { p[0].W.Dims = []int{3, 8}; return p },
		"B's Dims":           func(p []api.Param) []api.Param { p[3].B.Dims = []int{4, 1}; return p },
		"B's number":         func(p []api.Param) []api.Param { p[3].B = api.Tensor{Dims: []int{3}, Data: make([]int8, 3)}; return p },
		"M shorter":          func(p []api.Param) []api.Param { p[0].M = p[0].M[1:]; return p },
		"M longer":           func(p []api.Param) []api.Param { p[0].M = append(p[0].M, 0); return p },
		"M too great":        func(p []api.Param) []api.Param { p[0].M[0] = 1<<20 + 1; return p },
		"M too small":        func(p []api.Param) []api.Param { p[3].M[7] = -1<<20 - 1; return p },
		"M least":            func(p []api.Param) []api.Param { p[3].M[7] = math.MinInt32; return p },
		"no W":               func(p []api.Param) []api.Param { p[3] = api.Param{}; return p },
		"relu with W":        func(p []api.Param) []api.Param { p[1] = p[0]; return p },
		"flat with an Exp":   func(p []api.Param) []api.Param { p[2].W.Exp = 1; return p },
		"flat with B's Exp":  func(p []api.Param) []api.Param { p[2].B.Exp = -1; return p },
		"flat with M":        func(p []api.Param) []api.Param { p[2].M = []int32{0}; return p },
		"flat with Dims":     func(p []api.Param) []api.Param { p[2].B.Dims = []int{1}; return p },
		"two in other order": func(p []api.Param) []api.Param { p[0], p[3] = p[3], p[0]; return p },
	}
	for name, change := range changes {
		if params.May(m, change(first(t, m, 3))) {
			t.Errorf("%s: may be", name)
		}
	}
	p := first(t, m, 3)
	p[0].M[0], p[0].M[1], p[3].W.Exp, p[3].B.Exp, p[0].W.Data[0] = 1<<20, -1<<20, 64, -64, -127
	p[1] = api.Param{W: api.Tensor{Dims: []int{}}, M: []int32{}, B: api.Tensor{Data: []int8{}}}
	if !params.May(m, p) {
		t.Error("what may be may not be")
	}
}

// P17.1: no weights may be those of a net without shapes, or with weights that are too many.
func TestMayOfNoNet(t *testing.T) {
	good := first(t, sample.Net("in 1 1 2; flat; dense 3"), 1)
	if params.May(sample.Net("in 1 1 2; relu; dense 3"), good) || params.May(api.Model{}, nil) {
		t.Error("weights of a net without shapes")
	}
	m := sample.Net("in 1 1 3; flat; dense 2731")
	for _, w := range []api.Tensor{{}, {Dims: []int{2731, 3}, Data: make([]int8, 3*2731)}} {
		p := []api.Param{{}, {W: w, M: make([]int32, len(w.Data)), B: api.Tensor{Dims: []int{2731}, Data: make([]int8, 2731)}}}
		if params.May(m, p) {
			t.Error("weights that are too many")
		}
		p[1] = api.Param{}
		if params.May(m, p) {
			t.Error("a dense without weights")
		}
	}
}

// P17.1: Same is alike in all.
func TestSame(t *testing.T) {
	m := sample.Net("in 2 2 2; conv 3 2 1 1; relu; flat; dense 4")
	a := first(t, m, 5)
	if !params.Same(a, first(t, m, 5)) || !params.Same(nil, []api.Param{}) || !params.Same([]api.Param{{}}, []api.Param{{M: []int32{}}}) {
		t.Error("what is alike is not the same")
	}
	for i, change := range []func(p *api.Param){
		func(p *api.Param) { p.W.Exp++ }, func(p *api.Param) { p.W.Data[2]++ }, func(p *api.Param) { p.W.Dims[0]++ }, func(p *api.Param) { p.M[1]++ }, func(p *api.Param) { p.M = p.M[1:] },
		func(p *api.Param) { p.B.Exp++ }, func(p *api.Param) { p.B.Data[0]++ }, func(p *api.Param) { p.B.Dims[0]++ }, func(p *api.Param) { *p = api.Param{} },
	} {
		for _, layer := range []int{0, 3} {
			b := first(t, m, 5)
			change(&b[layer])
			if params.Same(a, b) || params.Same(b, a) {
				t.Errorf("change %d of layer %d: the same", i, layer+1)
			}
		}
	}
	if params.Same(a, a[:3]) || params.Same(a[:3], a) || params.Same(nil, a) {
		t.Error("with fewer Params the same")
	}
}

// P17.3: what is Init may be, and hangs on the seed alone.
func TestInitMayBe(t *testing.T) {
	m := sample.Net("in 2 5 4; conv 3 2 1 1; relu; flat; dense 4; relu; add 4; dense 3")
	for seed := range uint64(20) {
		p := first(t, m, seed)
		if !params.May(m, p) || !params.Same(p, first(t, m, seed)) {
			t.Errorf("seed %d", seed)
		}
		if params.Same(p, first(t, m, seed+1)) || tensor.Same(p[0].W, p[3].W) {
			t.Errorf("seed %d and the next are the same", seed)
		}
	}
}

// R2: no two lists share memory.
func TestInitIsNew(t *testing.T) {
	p := first(t, sample.Net("in 1 1 2; flat; dense 3"), 1)
	p[1].W.Dims[0], p[1].B.Dims[0] = 8, 9
	if p[1].W.Dims[0] != 8 {
		t.Error("Dims are shared")
	}
}
