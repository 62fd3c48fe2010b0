package model_test

import (
	"math"
	"strconv"
	"strings"
	"testing"

	"pedagogue/api"
	"pedagogue/model"
)

// good is a net that has every kind of layer.
func good() api.Model {
	return api.Model{In: [3]int{8, 16, 9}, Layers: []api.Layer{
		{Kind: api.LConv, Out: 8, K: 5, Stride: 4, Pad: 4},
		{Kind: api.LConv, Out: 3, K: 1, Stride: 1, Frozen: true},
		{Kind: api.LMax, K: 2, Stride: 3},
		{Kind: api.LAvg, K: 5, Stride: 4},
		{Kind: api.LRelu},
		{Kind: api.LAdd, From: 4},
		{Kind: api.LAdd},
		{Kind: api.LFlat},
		{Kind: api.LDense, Out: 4096},
		{Kind: api.LDense, Out: 10, Frozen: true},
	}}
}

const goodText = "in 8 16 9\nconv 8 5 4 4\nconv 3 1 1 0 frozen\nmax 2 3\navg 5 4\nrelu\nadd 4\nadd 0\nflat\ndense 4096\ndense 10 frozen\n"

// behind is a net of so many relus and then a layer.
func behind(ahead int, l api.Layer) api.Model {
	m := api.Model{In: [3]int{1, 1, 1}}
	for range ahead {
		m.Layers = append(m.Layers, api.Layer{Kind: api.LRelu})
	}
	m.Layers = append(m.Layers, l)
	return m
}

// noLayers are layers that may not be, wherever they stand.
func noLayers() []api.Layer {
	l := []api.Layer{{}, {Kind: -1}, {Kind: 8}, {Kind: math.MaxInt}}
	for _, n := range []int{0, -1, 4097, math.MinInt, math.MaxInt} {
		l = append(l, api.Layer{Kind: api.LDense, Out: n})
	}
	for _, n := range []int{0, -1, 9, math.MaxInt} {
		l = append(l, api.Layer{Kind: api.LConv, Out: n, K: 2, Stride: 1})
	}
	for _, kind := range []int{api.LConv, api.LMax, api.LAvg} {
		out := 0
		if kind == api.LConv {
			out = 1
		}
		for _, n := range []int{0, -1, 6, math.MinInt, math.MaxInt} {
			l = append(l, api.Layer{Kind: kind, Out: out, K: n, Stride: 1})
		}
		for _, n := range []int{0, -1, 5, math.MinInt, math.MaxInt} {
			l = append(l, api.Layer{Kind: kind, Out: out, K: 2, Stride: n})
		}
	}
	for _, n := range []int{-1, 2, 3, math.MinInt, math.MaxInt} {
		l = append(l, api.Layer{Kind: api.LConv, Out: 1, K: 2, Stride: 1, Pad: n})
	}
	return append(l, alien()...)
}

// alien are layers that have what their kind has not.
func alien() []api.Layer {
	var l []api.Layer
	for _, ok := range []api.Layer{{Kind: api.LDense, Out: 1}, {Kind: api.LConv, Out: 1, K: 2, Stride: 1}, {Kind: api.LMax, K: 1, Stride: 1}, {Kind: api.LAvg, K: 1, Stride: 1}, {Kind: api.LRelu}, {Kind: api.LFlat}, {Kind: api.LAdd}} {
		weighty := ok.Kind == api.LDense || ok.Kind == api.LConv
		for field := range 6 {
			no := ok
			switch {
			case field == 0 && !weighty:
				no.Out = 1
			case field == 1 && ok.K == 0:
				no.K = 1
			case field == 2 && ok.Stride == 0:
				no.Stride = 1
			case field == 3 && ok.Kind != api.LConv:
				no.Pad = 1
			case field == 4 && ok.Kind != api.LAdd:
				no.From = 1
			case field == 5 && !weighty:
				no.Frozen = true
			default:
				continue
			}
			l = append(l, no)
		}
	}
	return l
}

// P15.1: what goes in, and how many layers there are.
func TestMay(t *testing.T) {
	if !model.May(good()) {
		t.Error("a good net may not be")
	}
	bounds := [3]int{8, 16, 16}
	for i, most := range bounds {
		for _, n := range []int{math.MinInt, -1, 0, 1, most, most + 1, math.MaxInt} {
			m := good()
			m.In[i] = n
			if got := model.May(m); got != (n >= 1 && n <= most) {
				t.Errorf("In %v: %t", m.In, got)
			}
		}
	}
	for n := range 20 {
		m := behind(n, api.Layer{Kind: api.LRelu})
		m.Layers = m.Layers[:n]
		if got := model.May(m); got != (n >= 1 && n <= 12) {
			t.Errorf("%d layers: %t", n, got)
		}
	}
	if model.May(api.Model{}) {
		t.Error("no net may be")
	}
}

// P15.1: each layer, by its kind.
func TestMayLayer(t *testing.T) {
	for _, l := range noLayers() {
		for _, ahead := range []int{0, 3, 11} {
			if model.May(behind(ahead, l)) {
				t.Errorf("%+v may be", l)
			}
			if text, e := model.Text(behind(ahead, l)); text != "" || e != api.ErrArg {
				t.Errorf("Text of %+v: %q %d", l, text, e)
			}
		}
		m := behind(0, l)
		m.Layers = append(m.Layers, api.Layer{Kind: api.LRelu})
		if model.May(m) {
			t.Errorf("%+v may be the first", l)
		}
	}
	for ahead := range 12 {
		for from := -2; from <= 12; from++ {
			if got := model.May(behind(ahead, api.Layer{Kind: api.LAdd, From: from})); got != (from >= 0 && from < ahead) {
				t.Errorf("add %d behind %d layers: %t", from, ahead, got)
			}
		}
	}
	for out := -1; out <= 9; out++ {
		for k := -1; k <= 6; k++ {
			for stride := -1; stride <= 5; stride++ {
				for pad := -1; pad <= 6; pad++ {
					window := k >= 1 && k <= 5 && stride >= 1 && stride <= 4
					conv := window && out >= 1 && out <= 8 && pad >= 0 && pad < k
					if got := model.May(behind(0, api.Layer{Kind: api.LConv, Out: out, K: k, Stride: stride, Pad: pad})); got != conv {
						t.Errorf("conv %d %d %d %d: %t", out, k, stride, pad, got)
					}
					pools := window && out == 0 && pad == 0
					if got := model.May(behind(0, api.Layer{Kind: api.LMax + k%2, Out: out, K: k, Stride: stride, Pad: pad})); got != pools && k >= 0 {
						t.Errorf("max or avg %d %d, with %d and %d: %t", k, stride, out, pad, got)
					}
				}
			}
		}
	}
	for _, n := range []int{1, 2, 4095, 4096} {
		if !model.May(behind(0, api.Layer{Kind: api.LDense, Out: n})) {
			t.Errorf("dense %d may not be", n)
		}
	}
}

// P15.1: Same.
func TestSame(t *testing.T) {
	a := good()
	if !model.Same(a, good()) || !model.Same(api.Model{}, api.Model{Layers: []api.Layer{}}) {
		t.Error("what is alike is not the same")
	}
	for i := range 3 {
		b := good()
		b.In[i]++
		if model.Same(a, b) {
			t.Errorf("In %v is the same", b.In)
		}
	}
	for i := range a.Layers {
		for field := range 7 {
			b := good()
			l := &b.Layers[i]
			*[]*int{&l.Kind, &l.Out, &l.K, &l.Stride, &l.Pad, &l.From, new(int)}[field]++
			if field == 6 {
				l.Frozen = !l.Frozen
			}
			if model.Same(a, b) || model.Same(b, a) {
				t.Errorf("layer %d, field %d: the same", i, field)
			}
		}
	}
	b := good()
	b.Layers = b.Layers[:9]
	if model.Same(a, b) || model.Same(b, a) {
		t.Error("with fewer layers the same")
	}
}

func parses(t *testing.T, text string, want api.Model) {
	t.Helper()
	got, line, e := model.Parse(text)
	if e != api.OK || line != 0 || !model.Same(got, want) {
		t.Errorf("Parse of %q: %+v %d %d", text, got, line, e)
	}
}

func refuses(t *testing.T, text string, wantLine int, want api.Errno) {
	t.Helper()
	got, line, e := model.Parse(text)
	if e != want || line != wantLine || !model.Same(got, api.Model{}) {
		t.Errorf("Parse of %q: %+v, line %d, %d; want line %d, %d", text, got, line, e, wantLine, want)
	}
}

// P15.2, P15.3: Text of each kind, and Parse of it.
func TestTextAndParse(t *testing.T) {
	if text, e := model.Text(good()); text != goodText || e != api.OK {
		t.Errorf("Text: %q %d", text, e)
	}
	parses(t, goodText, good())
	parses(t, "in 1 1 2\ndense 3\n", api.Model{In: [3]int{1, 1, 2}, Layers: []api.Layer{{Kind: api.LDense, Out: 3}}})
	for ahead := range 12 {
		for _, l := range good().Layers {
			m := behind(ahead, l)
			text, e := model.Text(m)
			if l.From >= max(ahead, 1) || l.Kind == api.LAdd && ahead == 0 {
				if e != api.ErrArg {
					t.Errorf("Text of %+v: %d", m, e)
				}
				continue
			}
			if e != api.OK {
				t.Errorf("Text of %+v: %d", m, e)
			}
			parses(t, text, m)
		}
	}
}

// P15.2: a line that is no such line, with its number.
func TestParseOfWrongLines(t *testing.T) {
	wrong := []string{
		"", " ", "dense", "dense ", "dense  3", "dense 3 ", " dense 3", "dense 03", "dense +3", "dense -3", "dense 3.0", "dense 3 4", "dense three", "Dense 3",
		"dense 0", "dense 00", "dense -0", "dense 4097", "dense 9999", "dense 10000", "dense 99999999999999999999", "dense 3 Frozen", "dense 3  frozen",
		"dense 3 frozen ", "dense frozen", "dense frozen 3", "dense 3 frozen frozen", "dense\t3", "dense 3\r", "frozen", " frozen", "dense 3\x00",
		"conv 1 1 1", "conv 1 1 1 0 0", "conv 9 1 1 0", "conv 0 1 1 0", "conv 1 6 1 0", "conv 1 0 1 0", "conv 1 1 5 0", "conv 1 1 0 0", "conv 1 1 1 1", "conv 1 2 1 2",
		"conv 1 2 1 00", "conv 1 2 1 -1", "max 1", "max 1 1 1", "max 0 1", "max 6 1", "max 1 0", "max 1 5", "max 1 1 frozen", "avg 1", "avg 6 1", "avg 1 1 frozen", "avg",
		"relu 1", "relu ", "relu frozen", "flat 1", "flat frozen", "flats", "add", "add 3", "add -1", "add 0 0", "add 0 frozen", "add 10", "in 1 1 1", "net",
	}
	for _, line := range wrong {
		refuses(t, "in 1 1 1\nrelu\nrelu\nrelu\n"+line+"\nnonsense\n", 5, api.ErrForm)
		if line != "" {
			refuses(t, "in 1 1 1\n"+strings.Repeat("relu\n", 3)+line, 5, api.ErrForm)
		}
	}
	refuses(t, "in 1 1 1\n"+strings.Repeat("relu\n", 3)+"add 2\nadd 5\n", 6, api.ErrForm)
	heads := []string{
		"", " ", "in", "in 1 1", "in 1 1 1 1", "in 0 1 1", "in 1 0 1", "in 1 1 0", "in 9 1 1", "in 1 17 1", "in 1 1 17", "in 01 1 1", "in 1 1 -1", "in  1 1 1", "in 1 1 1 ",
		" in 1 1 1", "In 1 1 1", "dense 3", "in 1 1 10000", "in 1 1 1 frozen", "in a b c", "inn 1 1 1", "on 1 1 1",
	}
	for _, line := range heads {
		refuses(t, line+"\nnonsense\n", 1, api.ErrForm)
	}
	refuses(t, "in 1 1 1", 1, api.ErrForm)
	refuses(t, "in 1 1 1\nrelu", 2, api.ErrForm)
	refuses(t, "in 1 1 1\nrelu\nrelu\n\n", 4, api.ErrForm)
}

// P15.2: no layer yet, or no line at all.
func TestParseOfTooFewLines(t *testing.T) {
	refuses(t, "", 1, api.ErrForm)
	refuses(t, "in 1 1 1\n", 2, api.ErrForm)
}

// P15.2: a layer behind the last that there may be; what is no line there is ErrForm.
func TestParseOfTooManyLayers(t *testing.T) {
	most := "in 1 1 1\n" + strings.Repeat("relu\n", 12)
	parses(t, most, behind(11, api.Layer{Kind: api.LRelu}))
	refuses(t, most+"relu\n", 14, api.ErrLong)
	refuses(t, most+"add 11\nnonsense\n", 14, api.ErrLong)
	refuses(t, most+"add 12\n", 14, api.ErrForm)
	refuses(t, most+"nonsense\n", 14, api.ErrForm)
	refuses(t, most+"relu", 14, api.ErrForm)
	refuses(t, most+"\n", 14, api.ErrForm)
}

// P15.2: more bytes than there may be, whatever they are.
func TestParseOfTooManyBytes(t *testing.T) {
	for _, first := range []string{"x", "\n", "in 1 1 1\nrelu\n"} {
		refuses(t, first+strings.Repeat(" ", 2001-len(first)), 0, api.ErrLong)
	}
	refuses(t, strings.Repeat("x", 100000), 0, api.ErrLong)
	refuses(t, strings.Repeat("x", 2000), 1, api.ErrForm)
	refuses(t, "in 1 1 1\nrelu\n"+strings.Repeat(" ", 2000-14), 3, api.ErrForm)
}

// P15.3: a text that is parsed is the Text of what it is.
func TestTextOfParse(t *testing.T) {
	for n := range 30 {
		digits := strconv.Itoa(n)
		for _, line := range []string{"dense " + digits, "conv " + digits + " 3 1 2", "conv 2 " + digits + " 2 0", "conv 2 5 1 " + digits, "max 2 " + digits, "avg " + digits + " 1 ", "add " + digits} {
			text := "in 1 2 3\nrelu\nflat\n" + line + "\n"
			m, _, e := model.Parse(text)
			if e != api.OK {
				continue
			}
			if back, e := model.Text(m); e != api.OK || back != text {
				t.Errorf("%q is %q %d", text, back, e)
			}
		}
	}
}
