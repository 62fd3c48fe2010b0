package shape_test

import (
	"math"
	"slices"
	"testing"

	"pedagogue/shape"
)

// shapes that may be, with their sizes.
func shapes() map[int][][]int {
	return map[int][][]int{
		1:    {{1}, {1, 1}, {1, 1, 1, 1}},
		5:    {{5}, {1, 5}, {5, 1}},
		24:   {{2, 3, 4}, {4, 3, 2}, {1, 2, 3, 4}, {2, 1, 12}},
		4096: {{4096}, {4096, 1}, {1, 1, 1, 4096}, {8, 8, 8, 8}},
		8192: {{4096, 2}, {2, 4096}, {2, 1, 4096, 1}, {16, 16, 16, 2}},
		8190: {{2, 4095}, {90, 91}},
	}
}

// noShapes may not be.
func noShapes() [][]int {
	return [][]int{
		nil, {}, {0}, {-1}, {math.MinInt}, {4097}, {8192}, {math.MaxInt}, {3, 0}, {0, 3}, {2, -2, 2}, {-2, -2}, {4097, 1},
		{4096, 3}, {2, 4097}, {91, 91}, {4096, 4096, 4096, 4096}, {1, 1, 1, 1, 1}, {2, 2, 2, 2, 2}, {math.MaxInt, math.MaxInt},
		{1, 1, 1, 0}, {16, 16, 16, 3}, {8193},
	}
}

// P7.1: May, Size.
func TestMayAndSize(t *testing.T) {
	for size, l := range shapes() {
		for _, d := range l {
			if !shape.May(d) || shape.Size(d) != size {
				t.Errorf("%v: %t, %d", d, shape.May(d), shape.Size(d))
			}
		}
	}
	for _, d := range noShapes() {
		if shape.May(d) || shape.Size(d) != 0 || len(shape.Strides(d)) != 0 {
			t.Errorf("%v may be: %d, %v", d, shape.Size(d), shape.Strides(d))
		}
		if shape.Index(d, d) != -1 || shape.Index(d, make([]int, len(d))) != -1 || len(shape.At(d, 0)) != 0 {
			t.Errorf("%v has places", d)
		}
	}
}

// P7.1: of each length the product of those behind it.
func TestStrides(t *testing.T) {
	known := [][2][]int{{{7}, {1}}, {{2, 3}, {3, 1}}, {{2, 3, 4}, {12, 4, 1}}, {{2, 1, 3, 5}, {15, 15, 5, 1}}, {{2, 4096}, {4096, 1}}}
	for _, k := range known {
		d := slices.Clone(k[0])
		got := shape.Strides(d)
		if !slices.Equal(got, k[1]) {
			t.Errorf("Strides of %v: %v, want %v", d, got, k[1])
		}
		clear(got)
		if !slices.Equal(d, k[0]) {
			t.Errorf("%v was changed", k[0])
		}
	}
}

// P7.1: the same row, be it a shape or not.
func TestSame(t *testing.T) {
	rows := [][]int{nil, {0}, {1}, {1, 1}, {2, 3}, {3, 2}, {2, 3, 1}, {2, 4}, {1, 1, 1, 1, 1}, {-1}}
	for i, a := range rows {
		for k, b := range rows {
			if got := shape.Same(a, slices.Clone(b)); got != (i == k) {
				t.Errorf("Same(%v, %v): %t", a, b, got)
			}
		}
	}
	if !shape.Same(nil, []int{}) {
		t.Error("nil is not the empty row")
	}
}

// P7.2: Index is the sum of each place times its stride, -1 of what is no place.
func TestIndex(t *testing.T) {
	if shape.Index([]int{2, 3}, []int{1, 2}) != 5 || shape.Index([]int{2, 3, 4, 5}, []int{1, 2, 3, 4}) != 119 || shape.Index([]int{2, 3, 4}, []int{1, 0, 2}) != 14 {
		t.Error("Index of the known places")
	}
	d := []int{2, 3, 4}
	for _, at := range [][]int{nil, {0}, {0, 0}, {0, 0, 0, 0}, {2, 0, 0}, {0, 3, 0}, {0, 0, 4}, {-1, 0, 0}, {0, -1, 3}, {1, 1, -1}, {math.MaxInt, 0, 0}, {0, math.MinInt, 0}} {
		if got := shape.Index(d, at); got != -1 {
			t.Errorf("Index of %v: %d", at, got)
		}
	}
}

// P7.2: At is nothing of what is no number of an element.
func TestAtOfNoElement(t *testing.T) {
	for _, i := range []int{-1, 24, 25, math.MinInt, math.MaxInt} {
		if got := shape.At([]int{2, 3, 4}, i); len(got) != 0 {
			t.Errorf("At %d: %v", i, got)
		}
	}
}

// P7.4: Index of At is the number; numbers rise as places do, so that each is at one place.
func TestIndexOfAt(t *testing.T) {
	for size, l := range shapes() {
		for _, d := range l {
			var before []int
			for i := range size {
				at := shape.At(d, i)
				if len(at) != len(d) || shape.Index(d, at) != i {
					t.Fatalf("%v: element %d is at %v", d, i, at)
				}
				if i > 0 && slices.Compare(before, at) >= 0 {
					t.Fatalf("%v: %v stands behind %v", d, at, before)
				}
				before = at
			}
		}
	}
}

// windows counts the windows that fit, one by one.
func windows(n, k, stride, pad int) int {
	count := 0
	for at := -pad; at+k <= n+pad; at += stride {
		count++
	}
	return count
}

// P7.3: Out counts the windows; 0 of what may not be.
func TestOut(t *testing.T) {
	for n := -1; n <= 18; n++ {
		for k := -1; k <= 7; k++ {
			for stride := -1; stride <= 6; stride++ {
				for pad := -2; pad <= 7; pad++ {
					want := 0
					if n >= 1 && n <= 16 && k >= 1 && k <= 5 && stride >= 1 && stride <= 4 && pad >= 0 && pad < k {
						want = windows(n, k, stride, pad)
					}
					if got := shape.Out(n, k, stride, pad); got != want {
						t.Errorf("Out(%d, %d, %d, %d): %d, want %d", n, k, stride, pad, got, want)
					}
				}
			}
		}
	}
	far := []int{math.MinInt, math.MaxInt}
	for _, f := range far {
		if shape.Out(f, 1, 1, 0) != 0 || shape.Out(4, f, 1, 0) != 0 || shape.Out(4, 1, f, 0) != 0 || shape.Out(4, 2, 1, f) != 0 {
			t.Errorf("Out with %d", f)
		}
	}
}
