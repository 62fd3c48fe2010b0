package dataset_test

import (
	"bytes"
	"math"
	"math/rand/v2"
	"testing"

	"pedagogue/api"
	"pedagogue/dataset"
)

// good is a dataset of two examples.
func good() api.Dataset {
	return api.Dataset{In: [3]int{1, 2, 3}, Exp: -5, Classes: 3, Examples: []api.Example{{Data: []int8{1, -1, 127, -127, 0, 9}, Label: 2}, {Data: []int8{0, 1, 2, 3, 4, 5}}}}
}

// goodBytes are good's.
func goodBytes() []byte {
	return []byte{'p', 'd', 'd', 's', 1, 2, 3, 0xfb, 3, 0, 2, 2, 1, 0xff, 0x7f, 0x81, 0, 9, 0, 0, 1, 2, 3, 4, 5}
}

// plain is a dataset of so many examples of noughts.
func plain(channels, rows, cols, examples int) api.Dataset {
	d := api.Dataset{In: [3]int{channels, rows, cols}, Classes: 10}
	for i := range examples {
		d.Examples = append(d.Examples, api.Example{Data: make([]int8, channels*rows*cols), Label: i % 10})
	}
	return d
}

// mays tells whether May, and Encode, let d.
func mays(t *testing.T, name string, d api.Dataset, want bool) {
	t.Helper()
	b, e := dataset.Encode(d)
	if dataset.May(d) != want || (e == api.OK) != want || !want && (e != api.ErrArg || len(b) != 0) {
		t.Errorf("%s: %t, Encode %d", name, dataset.May(d), e)
	}
}

// P22.1: each bound of each field.
func TestMay(t *testing.T) {
	mays(t, "good", good(), true)
	mays(t, "none", api.Dataset{}, false)
	mays(t, "the greatest", plain(8, 16, 16, 64), true)
	for _, n := range []int{0, 65} {
		mays(t, "number of examples", plain(1, 1, 1, n), false)
	}
	for _, in := range [][3]int{{9, 1, 1}, {1, 17, 1}, {1, 1, 17}, {8, 1, 1}, {1, 16, 1}, {1, 1, 16}, {1, 0, 1}, {0, 1, 1}, {1, 1, 0}} {
		mays(t, "In", plain(in[0], in[1], in[2], 1), max(in[0]-8, in[1]-16, in[2]-16) <= 0 && min(in[0], in[1], in[2]) > 0)
	}
	for _, in := range [][3]int{{-1, -2, 3}, {math.MinInt, 2, 3}, {math.MaxInt, 2, 3}, {1, math.MaxInt, 3}} {
		d := good()
		d.In = in
		mays(t, "In", d, false)
	}
	for exp, want := range map[int]bool{-65: false, -64: true, 64: true, 65: false, math.MinInt: false, math.MaxInt: false} {
		d := good()
		d.Exp = exp
		mays(t, "Exp", d, want)
	}
	for classes, want := range map[int]bool{-1: false, 0: false, 1: false, 2: false, 3: true, 10: true, 11: false, math.MaxInt: false} {
		d := good()
		d.Classes = classes
		mays(t, "Classes", d, want)
	}
	for label, want := range map[int]bool{-1: false, 0: true, 2: true, 3: false, math.MinInt: false, math.MaxInt: false} {
		d := good()
		d.Examples[1].Label = label
		mays(t, "Label", d, want)
	}
	for _, data := range [][]int8{nil, make([]int8, 5), make([]int8, 7), {0, 0, 0, 0, 0, -128}} {
		d := good()
		d.Examples[1].Data = data
		mays(t, "Data", d, false)
	}
	two := good()
	two.Classes, two.Examples[0].Label = 2, 1
	mays(t, "two classes", two, true)
	one := plain(1, 1, 1, 1)
	one.Classes = 1
	mays(t, "one class", one, false)
}

// P22.1: Same is alike in all.
func TestSame(t *testing.T) {
	if !dataset.Same(good(), good()) || !dataset.Same(api.Dataset{}, api.Dataset{Examples: []api.Example{}}) || !dataset.Same(api.Dataset{Examples: []api.Example{{}}}, api.Dataset{Examples: []api.Example{{Data: []int8{}}}}) {
		t.Error("what is alike is not the same")
	}
	for i, change := range []func(d *api.Dataset){
		func(d *api.Dataset) { d.In[0]++ }, func(d *api.Dataset) { d.In[1]++ }, func(d *api.Dataset) { d.In[2]++ }, func(d *api.Dataset) { d.Exp++ }, func(d *api.Dataset) { d.Classes++ },
		func(d *api.Dataset) { d.Examples[0].Data[5]++ }, func(d *api.Dataset) { d.Examples[1].Label++ }, func(d *api.Dataset) { d.Examples = d.Examples[:1] },
		func(d *api.Dataset) { d.Examples[1].Data = d.Examples[1].Data[:5] }, func(d *api.Dataset) { d.Examples = append(d.Examples, api.Example{}) },
	} {
		d := good()
		change(&d)
		if dataset.Same(d, good()) || dataset.Same(good(), d) {
			t.Errorf("change %d: the same", i)
		}
	}
}

// P22.2: Encode's bytes.
func TestEncode(t *testing.T) {
	b, e := dataset.Encode(good())
	if e != api.OK || !bytes.Equal(b, goodBytes()) {
		t.Errorf("Encode: % x %d", b, e)
	}
	b, e = dataset.Encode(plain(1, 1, 2, 1))
	if e != api.OK || len(b) != 14 {
		t.Errorf("the example: %d bytes, %d", len(b), e)
	}
}

func refuses(t *testing.T, name string, b []byte, want api.Errno) {
	t.Helper()
	d, e := dataset.Decode(b)
	if e != want || !dataset.Same(d, api.Dataset{}) {
		t.Errorf("%s: %v %d, want %d", name, d, e, want)
	}
}

// P22.2: what ends too soon is ErrShort, at every byte; what is left is ErrForm.
func TestDecodeOfLessAndMore(t *testing.T) {
	b := goodBytes()
	for n := range b {
		refuses(t, "cut", b[:n], api.ErrShort)
	}
	refuses(t, "nil", nil, api.ErrShort)
	refuses(t, "more", append(goodBytes(), 0), api.ErrForm)
	refuses(t, "more", append(goodBytes(), goodBytes()...), api.ErrForm)
	refuses(t, "fewer than 4", []byte("xyz"), api.ErrShort)
}

// P22.2: what may not be is ErrForm: the head when it is read whole, each example when it is.
func TestDecodeOfWrongBytes(t *testing.T) {
	for i := range 4 {
		b := goodBytes()
		b[i] ^= 0x20
		refuses(t, "mark", b, api.ErrForm)
		refuses(t, "mark", b[:4], api.ErrForm)
	}
	heads := map[int][]byte{4: {0, 9, 255}, 5: {0, 17, 255}, 6: {0, 17, 255}, 7: {65, 0x80, 0xbf, 0x7f}, 8: {0, 1, 11, 255}, 9: {1}, 10: {0, 65, 255}}
	for i, values := range heads {
		for _, value := range values {
			b := goodBytes()
			b[i] = value
			refuses(t, "head", b, api.ErrForm)
			refuses(t, "head alone", b[:11], api.ErrForm)
			refuses(t, "head, cut", b[:10], api.ErrShort)
		}
	}
	for _, at := range []int{11, 18} {
		for _, label := range []byte{3, 10, 255} {
			b := goodBytes()
			b[at] = label
			refuses(t, "label", b, api.ErrForm)
			refuses(t, "label, the example whole", b[:at+7], api.ErrForm)
			refuses(t, "label, the example cut", b[:at+6], api.ErrShort)
		}
		for k := range 6 {
			b := goodBytes()
			b[at+1+k] = 0x80
			refuses(t, "number", b, api.ErrForm)
			refuses(t, "number, the example whole", b[:at+7], api.ErrForm)
			refuses(t, "number, the example cut", b[:at+6], api.ErrShort)
		}
	}
}

// P22.3: Decode of Encode is the dataset; the greatest one, too.
func TestDecodeOfEncode(t *testing.T) {
	dice := rand.New(rand.NewPCG(22, 22))
	for i := range 200 {
		d := plain(1+dice.IntN(3), 1+dice.IntN(4), 1+dice.IntN(4), 1+dice.IntN(5))
		if i == 0 {
			d = plain(8, 16, 16, 64)
		}
		d.Exp, d.Classes = dice.IntN(129)-64, 2+dice.IntN(9)
		for k := range d.Examples {
			d.Examples[k].Label = dice.IntN(d.Classes)
			for n := range d.Examples[k].Data {
				d.Examples[k].Data[n] = int8(dice.IntN(255) - 127)
			}
		}
		b, e := dataset.Encode(d)
		kept := bytes.Clone(b)
		got, eBack := dataset.Decode(b)
		if e != api.OK || eBack != api.OK || !dataset.Same(got, d) || !bytes.Equal(b, kept) {
			t.Fatalf("%v became %v, %d %d", d, got, e, eBack)
		}
	}
}

// P22.3: whatever bytes come: an error, or what may be, whose bytes they are.
func TestDecodeOfAnything(t *testing.T) {
	dice := rand.New(rand.NewPCG(22, 23))
	decoded := 0
	for range 20000 {
		b := goodBytes()
		for range 1 + dice.IntN(3) {
			b[dice.IntN(len(b))] = byte(dice.Uint32())
		}
		d, e := dataset.Decode(b)
		if e != api.OK {
			if e != api.ErrForm && e != api.ErrShort || !dataset.Same(d, api.Dataset{}) {
				t.Fatalf("% x: %d", b, e)
			}
			continue
		}
		decoded++
		back, e := dataset.Encode(d)
		if e != api.OK || !bytes.Equal(b, back) {
			t.Fatalf("% x became % x, %d", b, back, e)
		}
	}
	if decoded < 1000 {
		t.Errorf("%d decoded", decoded)
	}
}
