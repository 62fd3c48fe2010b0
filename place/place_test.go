package place_test

import (
	"math"
	"slices"
	"testing"

	"pedagogue/api"
	"pedagogue/place"
)

// P9.1: Of, 0 of what is too far.
func TestOf(t *testing.T) {
	for _, n := range [][2]int{{0, 0}, {1, 2}, {-3, 4}, {1000, -1000}, {-1000, 1000}, {999, 0}} {
		if got := place.Of(n[0], n[1]); got != complex(float64(n[0]), float64(n[1])) {
			t.Errorf("Of(%v): %v", n, got)
		}
	}
	for _, n := range []int{1001, -1001, math.MinInt, math.MaxInt} {
		if place.Of(n, 1) != 0 || place.Of(1, n) != 0 || place.Of(n, n) != 0 {
			t.Errorf("Of %d", n)
		}
	}
}

// P9.1: To is back, of whole parts that are not too far.
func TestTo(t *testing.T) {
	for _, r := range []int{-1000, -999, -1, 0, 1, 2, 999, 1000} {
		for _, c := range []int{-1000, -7, 0, 3, 1000} {
			gotR, gotC, ok := place.To(place.Of(r, c))
			if gotR != r || gotC != c || !ok {
				t.Errorf("To of Of(%d, %d): %d, %d, %t", r, c, gotR, gotC, ok)
			}
		}
	}
	negative := math.Copysign(0, -1)
	if r, c, ok := place.To(complex(negative, negative)); r != 0 || c != 0 || !ok {
		t.Error("To of a nought below 0")
	}
	for _, x := range []float64{0.5, -0.5, 999.5, 1e-300, 1000.0001, -1000.5, 1001, -1001, 1e18, 1e300, math.Inf(1), math.Inf(-1), math.NaN()} {
		for _, z := range []complex128{complex(x, 1), complex(1, x), complex(x, x)} {
			if r, c, ok := place.To(z); r != 0 || c != 0 || ok {
				t.Errorf("To(%v): %d, %d, %t", z, r, c, ok)
			}
		}
	}
}

// P9.1: Corner, within its own bounds.
func TestCorner(t *testing.T) {
	for r := -1; r <= 17; r++ {
		for c := -1; c <= 17; c++ {
			for stride := -1; stride <= 5; stride++ {
				for pad := -1; pad <= 6; pad++ {
					want := complex128(0)
					if r >= 0 && r <= 16 && c >= 0 && c <= 16 && stride >= 1 && stride <= 4 && pad >= 0 && pad <= 5 {
						want = complex(float64(stride*r-pad), float64(stride*c-pad))
					}
					if got := place.Corner(r, c, stride, pad); got != want {
						t.Fatalf("Corner(%d, %d, %d, %d): %v, want %v", r, c, stride, pad, got, want)
					}
				}
			}
		}
	}
	for _, far := range []int{math.MinInt, math.MaxInt} {
		if place.Corner(far, 1, 1, 1) != 0 || place.Corner(1, far, 1, 1) != 0 || place.Corner(1, 1, far, 1) != 0 || place.Corner(1, 1, 1, far) != 0 {
			t.Errorf("Corner with %d", far)
		}
	}
}

// plane is one of some size, and the windows over it.
type plane struct{ rows, cols, k, stride, pad int }

// side is how many windows fit into n.
func (p plane) side(n int) int {
	if n < 1 || n > 16 || p.k < 1 || p.k > 5 || p.stride < 1 || p.stride > 4 || p.pad < 0 || p.pad >= p.k || n+2*p.pad < p.k {
		return 0
	}
	return (n+2*p.pad-p.k)/p.stride + 1
}

// window is Window, told without complex numbers.
func (p plane) window(r, c int) []api.Window {
	var l []api.Window
	if r < 0 || c < 0 || r >= p.side(p.rows) || c >= p.side(p.cols) {
		return nil
	}
	for down := range p.k {
		for right := range p.k {
			row, col := r*p.stride-p.pad+down, c*p.stride-p.pad+right
			if row >= 0 && row < p.rows && col >= 0 && col < p.cols {
				l = append(l, api.Window{At: row*p.cols + col, R: down, C: right})
			}
		}
	}
	return l
}

// planes are many that may be.
func planes() []plane {
	var l []plane
	for _, size := range [][2]int{{1, 1}, {1, 4}, {3, 3}, {5, 2}, {6, 7}, {16, 16}, {16, 3}} {
		for k := 1; k <= 5; k++ {
			for stride := 1; stride <= 4; stride++ {
				for pad := range k {
					l = append(l, plane{size[0], size[1], k, stride, pad})
				}
			}
		}
	}
	return l
}

// P9.2: Window, row by row, of what is in the plane, at every place of the windows' plane and beyond it.
func TestWindow(t *testing.T) {
	one := place.Window(3, 3, 0, 0, 2, 1, 1)
	if !slices.Equal(one, []api.Window{{At: 0, R: 1, C: 1}}) {
		t.Errorf("the window of the corner: %v", one)
	}
	for _, p := range planes() {
		for r := -1; r <= p.side(p.rows); r++ {
			for c := -1; c <= p.side(p.cols); c++ {
				got := place.Window(p.rows, p.cols, r, c, p.k, p.stride, p.pad)
				if !slices.Equal(got, p.window(r, c)) {
					t.Fatalf("%v: window of %d, %d: %v, want %v", p, r, c, got, p.window(r, c))
				}
			}
		}
	}
}

// P9.2: places beyond Corner's bounds have windows, too.
func TestWindowBeyondCorner(t *testing.T) {
	p := plane{16, 16, 5, 1, 4}
	got := place.Window(16, 16, 19, 19, 5, 1, 4)
	if !slices.Equal(got, p.window(19, 19)) || len(got) != 1 || got[0] != (api.Window{At: 255}) {
		t.Errorf("the last window: %v", got)
	}
	if len(place.Window(16, 16, 20, 19, 5, 1, 4)) != 0 || len(place.Window(16, 16, 19, 20, 5, 1, 4)) != 0 {
		t.Error("behind the last window there is one")
	}
}

// P9.2, P9.3: what may not be has no windows and no lookers.
func TestWhatMayNotBe(t *testing.T) {
	good := [7]int{4, 4, 1, 1, 3, 2, 1}
	if len(place.Window(4, 4, 1, 1, 3, 2, 1)) == 0 || len(place.Lookers(4, 4, 1, 1, 3, 2, 1)) == 0 {
		t.Fatal("what may be has none")
	}
	bad := [7][]int{{0, -1, 17}, {0, -1, 17}, {-1, 4}, {-1, 4}, {0, -1, 6, 7}, {0, -1, 5}, {-1, 3, 4}}
	for i, values := range bad {
		for _, value := range append(values, math.MinInt, math.MaxInt) {
			a := good
			a[i] = value
			if l := place.Window(a[0], a[1], a[2], a[3], a[4], a[5], a[6]); len(l) != 0 {
				t.Errorf("Window(%v): %v", a, l)
			}
			if l := place.Lookers(a[0], a[1], a[2], a[3], a[4], a[5], a[6]); len(l) != 0 {
				t.Errorf("Lookers(%v): %v", a, l)
			}
		}
	}
	if len(place.Window(2, 2, 0, 0, 3, 1, 0)) != 0 || len(place.Lookers(2, 2, 0, 0, 3, 1, 0)) != 0 || len(place.Lookers(5, 2, 0, 0, 3, 1, 0)) != 0 {
		t.Error("a window that is greater than the plane looks at something")
	}
}

// P9.3, P9.4: Lookers are those in whose Window the place is, by their number, rising, with the same R, C.
func TestLookersAreThoseWhoLook(t *testing.T) {
	for _, p := range planes() {
		want := make([][]api.Window, p.rows*p.cols)
		outRows, outCols := p.side(p.rows), p.side(p.cols)
		for r := range outRows {
			for c := range outCols {
				for _, w := range p.window(r, c) {
					want[w.At] = append(want[w.At], api.Window{At: r*outCols + c, R: w.R, C: w.C})
				}
			}
		}
		for r := range p.rows {
			for c := range p.cols {
				got := place.Lookers(p.rows, p.cols, r, c, p.k, p.stride, p.pad)
				if !slices.Equal(got, want[r*p.cols+c]) {
					t.Fatalf("%v: lookers at %d, %d: %v, want %v", p, r, c, got, want[r*p.cols+c])
				}
			}
		}
		for _, at := range [][2]int{{-1, 0}, {0, -1}, {p.rows, 0}, {0, p.cols}} {
			if l := place.Lookers(p.rows, p.cols, at[0], at[1], p.k, p.stride, p.pad); len(l) != 0 {
				t.Fatalf("%v: lookers at %v, which is in no plane: %v", p, at, l)
			}
		}
	}
}
