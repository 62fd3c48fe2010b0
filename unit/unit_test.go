package unit_test

import (
	"slices"
	"testing"

	"pedagogue/api"
	"pedagogue/sample"
	"pedagogue/tensor"
	"pedagogue/unit"
)

func told(t *testing.T, name string, want api.Errno, x api.Tensor, e api.Errno) {
	t.Helper()
	if e != want || want != api.OK && !tensor.Same(x, api.Tensor{}) {
		t.Errorf("%s: %v %d, want %d", name, x.Dims, e, want)
	}
}

// noTensors may not be.
func noTensors() []api.Tensor {
	return []api.Tensor{{}, sample.Full(-128, 0, 3), sample.Full(1, 65, 3), sample.Full(1, 0, 0), {Dims: []int{3}, Data: make([]int8, 2)}}
}

// P13.1, P13.2: what may not be is ErrArg, ahead of ErrShape.
func TestTensorsThatMayNotBe(t *testing.T) {
	good := sample.Full(1, 0, 3)
	for _, no := range noTensors() {
		x, e := unit.Relu(no)
		told(t, "Relu", api.ErrArg, x, e)
		for _, other := range []api.Tensor{good, sample.Full(1, 0, 4)} {
			x, e = unit.ReluBack(no, other)
			told(t, "ReluBack g", api.ErrArg, x, e)
			x, e = unit.ReluBack(other, no)
			told(t, "ReluBack x", api.ErrArg, x, e)
		}
		x, e = unit.Flat(no)
		told(t, "Flat", api.ErrArg, x, e)
		x, e = unit.Shape(no, []int{3})
		told(t, "Shape", api.ErrArg, x, e)
		x, e = unit.Shape(no, []int{7})
		told(t, "Shape", api.ErrArg, x, e)
	}
	for _, no := range [][]int{nil, {0}, {-3}, {3, 0}, {4097}, {4096, 3}, {1, 1, 1, 1, 3}} {
		x, e := unit.Shape(good, no)
		told(t, "Shape", api.ErrArg, x, e)
	}
}

// P13.1: what is below 0 is 0.
func TestRelu(t *testing.T) {
	x := api.Tensor{Dims: []int{1, 3}, Exp: 5, Data: []int8{-1, 0, 2}}
	got, e := unit.Relu(x)
	if e != api.OK || !tensor.Same(got, api.Tensor{Dims: []int{1, 3}, Exp: 5, Data: []int8{0, 0, 2}}) {
		t.Errorf("Relu: %v %d", got, e)
	}
	got.Dims[0], got.Data[2] = 9, 9
	if !slices.Equal(x.Dims, []int{1, 3}) || !slices.Equal(x.Data, []int8{-1, 0, 2}) {
		t.Errorf("x became %v", x)
	}
	all := api.Tensor{Dims: []int{255}, Exp: -64}
	want := api.Tensor{Dims: []int{255}, Exp: -64}
	for v := -127; v <= 127; v++ {
		all.Data = append(all.Data, int8(v))
		want.Data = append(want.Data, int8(max(v, 0)))
	}
	got, e = unit.Relu(all)
	if e != api.OK || !tensor.Same(got, want) {
		t.Errorf("Relu: %v %d", got, e)
	}
}

// P13.1: g where x is above 0, else 0.
func TestReluBack(t *testing.T) {
	g := api.Tensor{Dims: []int{2, 3}, Exp: 5, Data: []int8{1, 2, 3, -4, -5, -6}}
	x := api.Tensor{Dims: []int{2, 3}, Exp: -7, Data: []int8{-1, 0, 1, 127, -127, 0}}
	got, e := unit.ReluBack(g, x)
	if e != api.OK || !tensor.Same(got, api.Tensor{Dims: []int{2, 3}, Exp: 5, Data: []int8{0, 0, 3, -4, 0, 0}}) {
		t.Errorf("ReluBack: %v %d", got, e)
	}
	got.Dims[0], got.Data[2] = 9, 9
	if g.Dims[0] != 2 || x.Dims[0] != 2 || g.Data[2] != 3 || x.Data[2] != 1 {
		t.Error("memory is shared")
	}
	for _, dims := range [][]int{{6}, {3, 2}, {2, 3, 1}, {1, 2, 3}, {2, 2}} {
		got, e = unit.ReluBack(g, sample.Full(1, 0, dims...))
		told(t, "ReluBack", api.ErrShape, got, e)
	}
}

// P13.2: two lengths: the first one, and the product of the others.
func TestFlat(t *testing.T) {
	known := map[[2]int][][]int{{2, 60}: {{2, 60}, {2, 3, 20}, {2, 3, 4, 5}}, {7, 1}: {{7}, {7, 1}, {7, 1, 1, 1}}, {1, 4096}: {{1, 4096}, {1, 64, 64}}, {4096, 2}: {{4096, 2}, {4096, 1, 2}}}
	for want, l := range known {
		for _, dims := range l {
			x := sample.Tensor(3, -4, dims...)
			got, e := unit.Flat(x)
			if e != api.OK || !tensor.Same(got, api.Tensor{Dims: want[:], Exp: -4, Data: x.Data}) {
				t.Errorf("Flat of %v: %v %d", dims, got.Dims, e)
			}
			got.Data[0]++
			if got.Data[0] == x.Data[0] {
				t.Error("memory is shared")
			}
		}
	}
	for _, dims := range [][]int{{1, 4096, 2}, {1, 2, 4096}, {1, 91, 90}, {1, 16, 16, 17}} {
		x, e := unit.Flat(sample.Full(1, 0, dims...))
		told(t, "Flat of what is too long", api.ErrArg, x, e)
	}
}

// P13.2: the same numbers with other lengths.
func TestShape(t *testing.T) {
	x := sample.Tensor(4, 9, 2, 6)
	for _, dims := range [][]int{{12}, {2, 6}, {3, 4}, {1, 2, 3, 2}, {12, 1}} {
		kept := slices.Clone(dims)
		got, e := unit.Shape(x, dims)
		if e != api.OK || !tensor.Same(got, api.Tensor{Dims: kept, Exp: 9, Data: x.Data}) {
			t.Errorf("Shape to %v: %v %d", dims, got.Dims, e)
		}
		got.Dims[0], got.Data[0] = 99, got.Data[0]+1
		if !slices.Equal(dims, kept) || got.Data[0] == x.Data[0] {
			t.Error("memory is shared")
		}
	}
	for _, dims := range [][]int{{11}, {13}, {2, 5}, {1}, {3, 3, 3}} {
		got, e := unit.Shape(x, dims)
		told(t, "Shape", api.ErrShape, got, e)
	}
}

// P13.3: Relu twice is Relu; Flat and Shape change no number, so that they can be taken back.
func TestWhatFollows(t *testing.T) {
	for seed := range uint64(20) {
		x := sample.Tensor(seed, 3, 2, 3, 4)
		once, _ := unit.Relu(x)
		twice, e := unit.Relu(once)
		if e != api.OK || !tensor.Same(once, twice) {
			t.Error("Relu twice is not Relu")
		}
		flat, _ := unit.Flat(x)
		back, e := unit.Shape(flat, x.Dims)
		if e != api.OK || !tensor.Same(back, x) {
			t.Error("Shape does not take Flat back")
		}
	}
}
