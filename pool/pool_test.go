package pool_test

import (
	"math"
	"math/rand/v2"
	"slices"
	"testing"

	"pedagogue/api"
	"pedagogue/pool"
	"pedagogue/sample"
	"pedagogue/tensor"
)

func full(dims ...int) api.Tensor { return sample.Full(1, 0, dims...) }

// both asks Max and Avg.
func both(t *testing.T, name string, want api.Errno, x api.Tensor, k, stride int) {
	t.Helper()
	m, from, e := pool.Max(x, k, stride)
	if e != want || want != api.OK && (!tensor.Same(m, api.Tensor{}) || len(from) != 0) {
		t.Errorf("Max %s: %v %d, want %d", name, m.Dims, e, want)
	}
	a, e := pool.Avg(x, k, stride)
	told(t, "Avg "+name, want, a, e)
}

func told(t *testing.T, name string, want api.Errno, a api.Acc, e api.Errno) {
	t.Helper()
	if e != want || want != api.OK && !tensor.SameAcc(a, api.Acc{}) {
		t.Errorf("%s: %v %d, want %d", name, a.Dims, e, want)
	}
}

// noTensors may not be.
func noTensors() []api.Tensor {
	return []api.Tensor{{}, sample.Full(-128, 0, 1, 1, 2, 2), sample.Full(1, -65, 1, 1, 2, 2), full(1, 0, 2, 2), full(1, 1, 1, 2, 2)}
}

// P12.1: what may not be is ErrArg, what has no windows is ErrShape.
func TestErrors(t *testing.T) {
	for _, no := range noTensors() {
		both(t, "of what may not be", api.ErrArg, no, 1, 1)
		both(t, "of what may not be", api.ErrArg, no, 9, 9)
	}
	for _, no := range []api.Tensor{full(4), full(2, 2), full(2, 2, 2), full(1, 1, 17, 4), full(1, 1, 4, 17), full(1, 1, 1, 4), full(1, 1, 4, 1)} {
		both(t, "of a shape", api.ErrShape, no, 2, 1)
	}
	x := full(1, 2, 8, 8)
	for _, k := range []int{0, -1, 6, 9, math.MinInt, math.MaxInt} {
		both(t, "by k", api.ErrShape, x, k, 1)
	}
	for _, stride := range []int{0, -1, 5, math.MinInt, math.MaxInt} {
		both(t, "by stride", api.ErrShape, x, 2, stride)
	}
	both(t, "of the greatest", api.OK, full(1, 1, 16, 16), 5, 4)
	both(t, "of one place", api.OK, full(1, 1, 1, 1), 1, 1)
}

// planes are x, k and stride that go together, with the sides of what comes of them.
type planes struct {
	x                     api.Tensor
	n, c, h, w, k, stride int
	p, q                  int
}

func some(many int) []planes {
	dice := rand.New(rand.NewPCG(12, 12))
	var l []planes
	for len(l) < many {
		s := planes{n: 1 + dice.IntN(3), c: 1 + dice.IntN(3), h: 1 + dice.IntN(9), w: 1 + dice.IntN(9), k: 1 + dice.IntN(5), stride: 1 + dice.IntN(4)}
		if s.k > s.h || s.k > s.w {
			continue
		}
		s.p, s.q = (s.h-s.k)/s.stride+1, (s.w-s.k)/s.stride+1
		s.x = sample.Tensor(dice.Uint64(), dice.IntN(129)-64, s.n, s.c, s.h, s.w)
		for i := range s.x.Data {
			s.x.Data[i] >>= dice.IntN(8) // many alike
		}
		l = append(l, s)
	}
	return l
}

// element is the number of the element that the window of number to has at row r, column c.
func (s planes) element(to, r, c int) int {
	plane, at := to/(s.p*s.q), to%(s.p*s.q)
	return plane*s.h*s.w + (at/s.q*s.stride+r)*s.w + at%s.q*s.stride + c
}

// P12.2: the greatest of each window; of several the first.
func TestMax(t *testing.T) {
	for _, s := range some(300) {
		got, from, e := pool.Max(s.x, s.k, s.stride)
		want := api.Tensor{Dims: []int{s.n, s.c, s.p, s.q}, Exp: s.x.Exp}
		var wantFrom []int
		for to := range s.n * s.c * s.p * s.q {
			best := s.element(to, 0, 0)
			for r := range s.k {
				for c := range s.k {
					if i := s.element(to, r, c); s.x.Data[i] > s.x.Data[best] {
						best = i
					}
				}
			}
			want.Data = append(want.Data, s.x.Data[best])
			wantFrom = append(wantFrom, best)
		}
		if e != api.OK || !tensor.Same(got, want) || !slices.Equal(from, wantFrom) {
			t.Fatalf("Max: %v %v %d, want %v %v", got, from, e, want, wantFrom)
		}
	}
	got, from, _ := pool.Max(api.Tensor{Dims: []int{1, 1, 2, 2}, Data: []int8{1, 2, 3, 3}}, 2, 1)
	if got.Data[0] != 3 || from[0] != 2 {
		t.Error("the example", got, from)
	}
	got, from, _ = pool.Max(api.Tensor{Dims: []int{1, 1, 2, 2}, Data: []int8{-127, -5, -9, -5}}, 2, 1)
	if got.Data[0] != -5 || from[0] != 1 {
		t.Error("below 0", got, from)
	}
}

// P12.2: MaxBack's errors, in their order.
func TestMaxBackErrors(t *testing.T) {
	g := full(1, 1, 1, 2)
	for _, no := range noTensors() {
		a, e := pool.MaxBack(no, []int{9}, []int{2})
		told(t, "g", api.ErrArg, a, e)
	}
	for _, no := range [][]int{nil, {0}, {4097}, {1, 1, 1, 1, 1}, {4096, 3}} {
		a, e := pool.MaxBack(g, []int{0}, no)
		told(t, "dims", api.ErrArg, a, e)
	}
	for _, no := range [][]int{nil, {0}, {0, 0, 0}, {-1, -1, 99}} {
		a, e := pool.MaxBack(g, no, []int{4})
		told(t, "from", api.ErrShape, a, e)
	}
	for _, no := range [][]int{{-1, 0}, {0, 4}, {4, 0}, {0, math.MinInt}, {math.MaxInt, 0}} {
		a, e := pool.MaxBack(g, no, []int{2, 2})
		told(t, "from", api.ErrArg, a, e)
	}
}

// P12.2, P12.4: at each element all g's whose from it is; they add up to g.
func TestMaxBack(t *testing.T) {
	dims := []int{2, 3}
	g := api.Tensor{Dims: []int{5}, Exp: -9, Data: []int8{1, -2, 127, 4, 127}}
	a, e := pool.MaxBack(g, []int{5, 0, 2, 5, 2}, dims)
	if e != api.OK || !tensor.SameAcc(a, api.Acc{Dims: []int{2, 3}, Exp: -9, Data: []int32{-2, 0, 254, 0, 0, 5}}) {
		t.Errorf("MaxBack: %v %d", a, e)
	}
	a.Dims[0] = 7
	if dims[0] != 2 {
		t.Error("Dims are shared")
	}
	for _, s := range some(50) {
		m, from, _ := pool.Max(s.x, s.k, s.stride)
		g := sample.Tensor(5, 7, m.Dims...)
		a, e := pool.MaxBack(g, from, s.x.Dims)
		want := api.Acc{Dims: s.x.Dims, Exp: 7, Data: make([]int32, len(s.x.Data))}
		sum := int32(0)
		for i, at := range from {
			want.Data[at] += int32(g.Data[i])
			sum += int32(g.Data[i])
		}
		for _, v := range a.Data {
			sum -= v
		}
		if e != api.OK || !tensor.SameAcc(a, want) || sum != 0 {
			t.Fatalf("MaxBack: %v %d, want %v", a, e, want)
		}
	}
}

// less is by how much Exp falls.
var less = [6]int{0, 0, 2, 2, 4, 4}

// P12.3: Avg is the sums of the windows; the exponent falls with k.
func TestAvg(t *testing.T) {
	for _, s := range some(300) {
		got, e := pool.Avg(s.x, s.k, s.stride)
		want := api.Acc{Dims: []int{s.n, s.c, s.p, s.q}, Exp: s.x.Exp - less[s.k]}
		for to := range s.n * s.c * s.p * s.q {
			sum := int32(0)
			for r := range s.k {
				for c := range s.k {
					sum += int32(s.x.Data[s.element(to, r, c)])
				}
			}
			want.Data = append(want.Data, sum)
		}
		if e != api.OK || !tensor.SameAcc(got, want) {
			t.Fatalf("Avg: %v %d, want %v", got, e, want)
		}
	}
}

// P12.3: AvgBack's errors, in their order.
func TestAvgBackErrors(t *testing.T) {
	g, dims := full(2, 3, 2, 3), []int{2, 3, 4, 6}
	a, e := pool.AvgBack(g, dims, 2, 2)
	told(t, "AvgBack", api.OK, a, e)
	for _, no := range noTensors() {
		a, e = pool.AvgBack(no, []int{3}, 2, 2)
		told(t, "g", api.ErrArg, a, e)
	}
	for _, no := range [][]int{nil, {0}, {2, 3, 0, 6}, {1, 1, 1, 1, 1}, {4096, 3, 4, 6}} {
		a, e = pool.AvgBack(full(1), no, 2, 2)
		told(t, "dims", api.ErrArg, a, e)
	}
	for _, no := range [][]int{{144}, {6, 4, 6}, {1, 3, 4, 6}, {2, 2, 4, 6}, {2, 3, 6, 6}, {2, 3, 4, 8}, {2, 3, 1, 6}, {2, 3, 4, 1}, {2, 3, 17, 6}} {
		a, e = pool.AvgBack(g, no, 2, 2)
		told(t, "dims", api.ErrShape, a, e)
	}
	for _, no := range []api.Tensor{full(36), full(6, 2, 3), full(1, 3, 2, 3), full(2, 1, 2, 3), full(2, 3, 1, 3), full(2, 3, 2, 2)} {
		a, e = pool.AvgBack(no, dims, 2, 2)
		told(t, "g", api.ErrShape, a, e)
	}
	for _, no := range [][2]int{{0, 2}, {6, 2}, {2, 0}, {2, 5}, {2, 1}, {3, 2}, {-1, 2}, {math.MaxInt, 2}, {2, math.MinInt}} {
		a, e = pool.AvgBack(g, dims, no[0], no[1])
		told(t, "k, stride", api.ErrShape, a, e)
	}
}

// P12.3: AvgBack is at each element the g's of all that look at it.
func TestAvgBack(t *testing.T) {
	for i, s := range some(300) {
		g := sample.Tensor(uint64(i), s.x.Exp, s.n, s.c, s.p, s.q)
		dims := slices.Clone(s.x.Dims)
		got, e := pool.AvgBack(g, dims, s.k, s.stride)
		want := api.Acc{Dims: s.x.Dims, Exp: g.Exp - less[s.k], Data: make([]int32, len(s.x.Data))}
		for to, v := range g.Data {
			for r := range s.k {
				for c := range s.k {
					want.Data[s.element(to, r, c)] += int32(v)
				}
			}
		}
		if e != api.OK || !tensor.SameAcc(got, want) {
			t.Fatalf("AvgBack: %v %d, want %v", got, e, want)
		}
		got.Dims[0] = 99
		if dims[0] == 99 {
			t.Fatal("Dims are shared")
		}
	}
}

// P12.3, P12.4: the least exponent; the greatest sums stay below Bound.
func TestTheGreatestSums(t *testing.T) {
	a, e := pool.Avg(sample.Full(-127, -64, 1, 1, 5, 5), 5, 1)
	if e != api.OK || a.Exp != -68 || a.Data[0] != -127*25 || !tensor.MayAcc(a) {
		t.Errorf("Avg: %v %d", a, e)
	}
	a, e = pool.AvgBack(sample.Full(127, -64, 1, 1, 12, 12), []int{1, 1, 16, 16}, 5, 1)
	if e != api.OK || a.Exp != -68 || a.Data[8*16+8] != 127*25 || a.Data[0] != 127 {
		t.Errorf("AvgBack: %v %d", a, e)
	}
	a, e = pool.MaxBack(sample.Full(-127, 0, 8192/4, 4), make([]int, 8192), []int{1})
	if e != api.OK || a.Data[0] != -127*8192 || a.Data[0] <= -api.Bound {
		t.Errorf("MaxBack: %v %d", a, e)
	}
}

// P12.4: what is the greatest of a window is one of it, and at least all.
func TestTheGreatestIsOneOfItsWindow(t *testing.T) {
	for _, s := range some(60) {
		m, from, _ := pool.Max(s.x, s.k, s.stride)
		for to, at := range from {
			met := false
			for in := range s.k * s.k {
				i := s.element(to, in/s.k, in%s.k)
				met = met || i == at
				if s.x.Data[i] > m.Data[to] {
					t.Fatalf("%d is greater than %d", s.x.Data[i], m.Data[to])
				}
			}
			if !met || s.x.Data[at] != m.Data[to] {
				t.Fatalf("element %d is not of the window, or is not the greatest", at)
			}
		}
	}
}
