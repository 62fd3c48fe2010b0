package check_test

import (
	"math"
	"math/rand/v2"
	"slices"
	"strconv"
	"strings"
	"testing"

	"pedagogue/api"
	"pedagogue/check"
	"pedagogue/sample"
)

// dims tells shapes as a text.
func dims(shapes [][]int) string {
	var l []string
	for _, d := range shapes {
		var words []string
		for _, n := range d {
			words = append(words, strconv.Itoa(n))
		}
		l = append(l, strings.Join(words, " "))
	}
	return strings.Join(l, "; ")
}

// P16.1: what each layer gives.
func TestShapes(t *testing.T) {
	known := map[string]string{
		"in 1 1 2; flat; dense 3":                              "1 1 2; 2; 3",
		"in 2 6 5; conv 4 3 2 1; relu; max 2 1; avg 1 1; flat": "2 6 5; 4 3 3; 4 3 3; 4 2 2; 4 2 2; 16",
		"in 3 7 9; max 3 2; relu; add 1; flat; relu; add 4":    "3 7 9; 3 3 4; 3 3 4; 3 3 4; 36; 36; 36",
		"in 1 4 4; relu; add 0":                                "1 4 4; 1 4 4; 1 4 4",
		"in 8 16 16; conv 8 5 1 4; flat; dense 4096":           "8 16 16; 8 20 20; 3200; 4096",
		"in 2 5 8; avg 2 3; conv 1 1 4 0; flat; dense 2":       "2 5 8; 2 2 3; 1 1 1; 1; 2",
		"in 1 1 4; flat; dense 4; add 1; dense 9; dense 1":     "1 1 4; 4; 4; 4; 9; 1",
	}
	for text, want := range known {
		shapes, number, e := check.Shapes(sample.Net(text))
		if e != api.OK || number != 0 || dims(shapes) != want {
			t.Errorf("%q: %s, %d, %d; want %s", text, dims(shapes), number, e, want)
		}
	}
}

// P16.1: shapes that do not go together, with the layer.
func TestShapesThatDoNotGoTogether(t *testing.T) {
	known := map[string]int{
		"in 1 1 2; dense 3":                           1,
		"in 2 2 2; relu; dense 3":                     2,
		"in 1 4 4; flat; conv 1 1 1 0":                2,
		"in 1 4 4; flat; max 1 1":                     2,
		"in 1 4 4; flat; avg 1 1":                     2,
		"in 1 3 4; conv 1 4 1 0":                      1,
		"in 1 4 3; conv 1 4 1 0":                      1,
		"in 1 3 4; relu; max 4 1":                     2,
		"in 1 4 3; relu; avg 4 1":                     2,
		"in 1 16 16; conv 1 5 1 4; conv 1 1 1 0":      2,
		"in 1 16 16; conv 1 5 1 4; max 1 1":           2,
		"in 1 16 4; conv 1 5 1 4; avg 1 1":            2,
		"in 1 4 4; flat; add 0":                       2,
		"in 1 4 4; conv 2 1 1 0; add 0":               2,
		"in 1 4 5; max 2 1; relu; add 0; dense 1":     3,
		"in 1 1 4; flat; dense 4; dense 3; add 1":     4,
		"in 1 2 4; conv 1 2 2 1; add 0; flat; flat":   2,
		"in 1 1 4; flat; dense 4; relu; add 1; add 0": 5,
	}
	for text, want := range known {
		m := sample.Net(text)
		shapes, number, e := check.Shapes(m)
		if e != api.ErrShape || number != want || len(shapes) != 0 {
			t.Errorf("%q: %s, %d, %d; want layer %d", text, dims(shapes), number, e, want)
		}
		if number, e := check.Net(m, 99, 99); e != api.ErrShape || number != want {
			t.Errorf("Net of %q: %d, %d; want layer %d", text, number, e, want)
		}
		if check.Longest(m, 1) != 0 {
			t.Errorf("Longest of %q: %d", text, check.Longest(m, 1))
		}
	}
}

// P16.1: what model.May refuses is ErrArg, of no layer.
func TestNoModel(t *testing.T) {
	for _, m := range []api.Model{
		{}, {In: [3]int{1, 1, 1}}, {In: [3]int{9, 1, 1}, Layers: []api.Layer{{Kind: api.LFlat}}}, {In: [3]int{1, 1, 2}, Layers: []api.Layer{{Kind: api.LFlat}, {Kind: api.LDense}}},
		{In: [3]int{1, 1, 2}, Layers: []api.Layer{{Kind: api.LFlat}, {Kind: api.LAdd, From: 1}}}, {In: [3]int{1, 1, 2}, Layers: make([]api.Layer, 13)},
	} {
		shapes, number, e := check.Shapes(m)
		if e != api.ErrArg || number != 0 || len(shapes) != 0 {
			t.Errorf("%+v: %d %d", m, number, e)
		}
		if number, e := check.Net(m, 2, 1); e != api.ErrArg || number != 0 || check.Longest(m, 1) != 0 {
			t.Errorf("Net of %+v: %d %d", m, number, e)
		}
	}
}

// R2: no two shapes share memory.
func TestShapesAreNew(t *testing.T) {
	m := sample.Net("in 1 4 4; relu; add 0; relu; flat; relu; add 4; dense 4")
	shapes, _, _ := check.Shapes(m)
	for i := range shapes {
		for k := range shapes[i] {
			shapes[i][k] = 100*i + k
		}
	}
	for i := range shapes {
		for k := range shapes[i] {
			if shapes[i][k] != 100*i+k {
				t.Errorf("shape %d shares memory", i)
			}
		}
	}
	if m.In != [3]int{1, 4, 4} {
		t.Error("In was changed")
	}
}

// verdict is what Net and Longest tell of a net with so many classes and such a batch.
type verdict struct {
	text           string
	classes, batch int
	number         int
	e              api.Errno
	longest        int
}

// verdicts are known ones, each at an edge.
func verdicts() []verdict {
	return []verdict{
		{"in 1 1 2; flat; dense 3", 3, 1, 0, api.OK, 3},
		{"in 1 1 2; flat; dense 3", 3, 8, 0, api.OK, 8},
		{"in 1 1 9; flat; dense 3", 3, 8, 0, api.OK, 9},
		{"in 1 1 2; flat", 2, 8, 0, api.OK, 0},
		{"in 1 1 2; flat; dense 10", 10, 8, 0, api.OK, 10},
		{"in 1 1 2; flat; dense 3", 1, 1, 0, api.ErrArg, 3},
		{"in 1 1 2; flat; dense 11", 11, 1, 0, api.ErrArg, 0},
		{"in 1 1 2; flat; dense 1", 1, 1, 0, api.ErrArg, 0},
		{"in 1 1 2; flat; dense 3", 3, 0, 0, api.ErrArg, 0},
		{"in 1 1 2; flat; dense 3", 3, 9, 0, api.ErrArg, 0},
		{"in 1 1 2; flat; dense 3", 4, -1, 0, api.ErrArg, 0},
		{"in 1 1 2; flat; dense 3; relu", 4, 1, 3, api.ErrShape, 3},
		{"in 1 1 2; conv 3 1 1 0", 3, 1, 1, api.ErrShape, 0},
		{"in 1 1 2; relu; max 1 1", 2, 1, 2, api.ErrShape, 0},
		{"in 8 16 16; avg 4 4; flat; dense 2", 2, 4, 0, api.OK, 128},
		{"in 8 16 16; avg 4 4; flat; dense 2", 2, 5, 1, api.ErrArg, 0},
		{"in 1 16 16; relu; conv 8 1 1 0; avg 4 4; flat; dense 2", 2, 3, 0, api.OK, 768},
		{"in 1 16 16; relu; conv 8 1 1 0; avg 4 4; flat; dense 2", 2, 5, 2, api.ErrArg, 0},
		{"in 1 1 2; flat; dense 959; dense 2", 2, 8, 0, api.OK, 959},
		{"in 1 1 2; flat; dense 960; dense 2", 2, 8, 2, api.ErrBound, 960},
		{"in 1 1 2; flat; dense 1024; dense 2", 2, 8, 2, api.ErrBound, 1024},
		{"in 1 1 2; flat; dense 1025; dense 2", 2, 8, 2, api.ErrArg, 0},
		{"in 1 1 2; flat; dense 1025; dense 2", 2, 7, 2, api.ErrBound, 1025},
		{"in 1 1 8; flat; dense 1024; dense 2", 2, 1, 2, api.ErrBound, 1024},
		{"in 1 1 8; flat; dense 1025; dense 2", 2, 1, 2, api.ErrArg, 0},
		{"in 1 3 3; flat; dense 910; dense 2", 2, 1, 0, api.OK, 910},
		{"in 1 3 3; flat; dense 911; dense 2", 2, 1, 2, api.ErrArg, 0},
		{"in 6 16 10; flat; dense 2", 2, 1, 2, api.ErrBound, 960},
		{"in 1 12 10; conv 1 1 1 0; flat; dense 2", 2, 7, 0, api.OK, 840},
		{"in 1 12 10; conv 1 1 1 0; flat; dense 2", 2, 8, 1, api.ErrBound, 960},
		{"in 1 6 16; conv 1 2 1 1; flat; dense 2", 2, 8, 0, api.OK, 952},
		{"in 8 5 5; conv 1 5 1 0; flat; dense 2", 2, 1, 0, api.OK, 200},
		{"in 1 5 5; conv 8 5 1 0; flat; dense 2", 2, 1, 0, api.OK, 200},
		{"in 3 5 5; conv 4 4 1 0; flat; dense 2", 2, 1, 0, api.OK, 64},
		{"in 4 5 5; conv 3 4 1 0; flat; dense 2", 2, 1, 0, api.OK, 64},
		{"in 1 4 4; max 2 2; flat; relu; add 2; dense 2; dense 5", 5, 3, 0, api.OK, 5},
		{"in 1 1 2; flat; dense 960; dense 9; dense 2", 2, 1, 2, api.ErrBound, 0},
		{"in 1 1 2; flat; dense 8; dense 1024; dense 2; dense 3", 3, 1, 3, api.ErrBound, 1024},
		{"in 1 1 2; flat; dense 960; dense 2; dense 4096", 2, 1, 4, api.ErrShape, 0},
		{"in 1 1 2; flat; dense 960; dense 2; dense 2", 2, 2, 2, api.ErrBound, 960},
		{"in 1 16 16; conv 8 1 1 0; relu; max 4 4; flat; dense 2", 2, 8, 1, api.ErrArg, 0},
	}
}

// P16.2, P16.3: Net's errors in their order, with the layer; Longest.
func TestNetAndLongest(t *testing.T) {
	for _, v := range verdicts() {
		m := sample.Net(v.text)
		if number, e := check.Net(m, v.classes, v.batch); number != v.number || e != v.e {
			t.Errorf("Net(%q, %d, %d): layer %d, %d; want layer %d, %d", v.text, v.classes, v.batch, number, e, v.number, v.e)
		}
		if longest := check.Longest(m, v.batch); longest != v.longest {
			t.Errorf("Longest(%q, %d): %d, want %d", v.text, v.batch, longest, v.longest)
		}
	}
	m := sample.Net("in 1 1 2; flat; dense 3")
	for _, far := range []int{math.MinInt, math.MaxInt} {
		if _, e := check.Net(m, far, 1); e != api.ErrArg {
			t.Errorf("%d classes: %d", far, e)
		}
		if _, e := check.Net(m, 3, far); e != api.ErrArg || check.Longest(m, far) != 0 {
			t.Errorf("a batch of %d: %d", far, e)
		}
	}
}

// someNet is one by chance that model.May lets.
func someNet(dice *rand.Rand) api.Model {
	m := api.Model{In: [3]int{1 + dice.IntN(8), 1 + dice.IntN(16), 1 + dice.IntN(16)}}
	for range dice.IntN(6) {
		l := api.Layer{Kind: 2 + dice.IntN(4)}
		if l.Kind != api.LRelu {
			l.K, l.Stride = 1+dice.IntN(3), 1+dice.IntN(3)
		}
		if l.Kind == api.LConv {
			l.Out, l.Pad = 1+dice.IntN(8), dice.IntN(l.K)
		}
		m.Layers = append(m.Layers, l)
	}
	m.Layers = append(m.Layers, api.Layer{Kind: api.LFlat})
	for range dice.IntN(3) {
		m.Layers = append(m.Layers, api.Layer{Kind: api.LDense, Out: 1 + dice.IntN(1<<dice.IntN(12))})
	}
	m.Layers = append(m.Layers, api.Layer{Kind: api.LDense, Out: 2 + dice.IntN(9)})
	return m
}

// length is the greatest number of products of a layer, and whether its tensors may be.
func length(l api.Layer, takes, gives []int, batch int) (int, bool) {
	count := func(d []int) int {
		n := 1
		for _, x := range d {
			n *= x
		}
		return n
	}
	fits := batch*count(takes) <= 8192 && batch*count(gives) <= 8192
	switch l.Kind {
	case api.LDense:
		return slices.Max([]int{takes[0], l.Out, batch}), fits && takes[0]*l.Out <= 8192
	case api.LConv:
		return slices.Max([]int{takes[0] * l.K * l.K, l.Out * l.K * l.K, batch * gives[1] * gives[2]}), fits && takes[0]*l.Out*l.K*l.K <= 8192
	}
	return 0, fits
}

// P16.4: Net lets just the nets whose Longest is at most 959.
func TestNetLetsWhatFits(t *testing.T) {
	dice := rand.New(rand.NewPCG(16, 16))
	met := map[api.Errno]int{}
	for range 4000 {
		m := someNet(dice)
		batch := 1 + dice.IntN(8)
		classes := m.Layers[len(m.Layers)-1].Out
		shapes, _, e := check.Shapes(m)
		if e != api.OK {
			continue
		}
		longest, all, number, want := 0, true, 0, api.OK
		for i, l := range m.Layers {
			n, fits := length(l, shapes[i], shapes[i+1], batch)
			longest, all = max(longest, n), all && fits
			if want == api.OK && !fits {
				number, want = i+1, api.ErrArg
			}
			if want == api.OK && n > 959 {
				number, want = i+1, api.ErrBound
			}
		}
		if !all {
			longest = 0
		}
		met[want]++
		gotNumber, got := check.Net(m, classes, batch)
		if gotNumber != number || got != want || check.Longest(m, batch) != longest {
			t.Fatalf("%+v, batch %d: layer %d, %d, longest %d; want layer %d, %d, longest %d", m, batch, gotNumber, got, check.Longest(m, batch), number, want, longest)
		}
	}
	if met[api.OK] < 100 || met[api.ErrArg] < 100 || met[api.ErrBound] < 30 {
		t.Errorf("met %v", met)
	}
}
