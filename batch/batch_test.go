package batch_test

import (
	"math"
	"slices"
	"testing"

	"pedagogue/api"
	"pedagogue/batch"
	"pedagogue/dataset"
	"pedagogue/prng"
	"pedagogue/tensor"
)

// P23.1: Steps.
func TestSteps(t *testing.T) {
	for n := -1; n <= 66; n++ {
		for size := -1; size <= 10; size++ {
			want := 0
			if n >= 1 && n <= 64 && size >= 1 && size <= 8 {
				want = int(math.Ceil(float64(n) / float64(size)))
			}
			if got := batch.Steps(n, size); got != want {
				t.Errorf("Steps(%d, %d): %d, want %d", n, size, got, want)
			}
		}
	}
	for _, far := range []int{math.MinInt, math.MaxInt} {
		if batch.Steps(far, 2) != 0 || batch.Steps(2, far) != 0 {
			t.Errorf("Steps with %d", far)
		}
	}
}

// P23.1: Which is a piece of the epoch's order.
func TestWhich(t *testing.T) {
	for _, n := range []int{1, 2, 5, 8, 9, 64} {
		for size := 1; size <= 8; size++ {
			steps := (n + size - 1) / size
			for _, step := range []int{0, 1, steps - 1, steps, steps + 1, 3*steps - 1, 17, 999983, 1000000} {
				order := prng.Perm(6, 1<<40+uint64(step/steps), n)
				want := order[step%steps*size:]
				want = want[:min(size, len(want))]
				if got := batch.Which(6, n, size, step); !slices.Equal(got, want) {
					t.Errorf("Which(6, %d, %d, %d): %v, want %v", n, size, step, got, want)
				}
			}
		}
	}
}

// P23.1: nothing of what has no steps, and of no step.
func TestWhichOfWhatMayNotBe(t *testing.T) {
	for _, no := range [][3]int{{0, 2, 1}, {65, 2, 1}, {5, 0, 1}, {5, 9, 1}, {5, 2, -1}, {5, 2, 1000001}, {5, 2, math.MaxInt}, {5, 2, math.MinInt}, {math.MinInt, 2, 1}} {
		if got := batch.Which(1, no[0], no[1], no[2]); len(got) != 0 {
			t.Errorf("Which(%v): %v", no, got)
		}
	}
}

// P23.3: in each epoch each comes once; epochs, and seeds, have orders of their own.
func TestEachOnce(t *testing.T) {
	epoch := func(seed uint64, n, size, number int) []int {
		var l []int
		steps := batch.Steps(n, size)
		for step := number * steps; step < (number+1)*steps; step++ {
			l = append(l, batch.Which(seed, n, size, step)...)
		}
		return l
	}
	for _, n := range []int{1, 5, 7, 40, 64} {
		for size := 1; size <= 8; size++ {
			for number := range 6 {
				l := epoch(3, n, size, number)
				slices.Sort(l)
				for i, id := range l {
					if i != id || len(l) != n {
						t.Fatalf("%d by %d, epoch %d: %v", n, size, number, l)
					}
				}
			}
		}
	}
	if slices.Equal(epoch(3, 40, 4, 0), epoch(3, 40, 4, 1)) || slices.Equal(epoch(3, 40, 4, 0), epoch(4, 40, 4, 0)) {
		t.Error("two epochs, or seeds, have the same order")
	}
}

// data is a dataset of so many examples, each of numbers of its own.
func data(in [3]int, examples int) api.Dataset {
	d := api.Dataset{In: in, Exp: -9, Classes: 7}
	for i := range examples {
		x := api.Example{Label: i % 7}
		for k := range in[0] * in[1] * in[2] {
			x.Data = append(x.Data, int8((i*31+k)%255-127))
		}
		d.Examples = append(d.Examples, x)
	}
	return d
}

// P23.2: a tensor of the examples, in the order of ids, and their labels.
func TestOf(t *testing.T) {
	d := data([3]int{2, 3, 4}, 20)
	for _, ids := range [][]int{{0}, {19}, {3, 1, 2}, {5, 5, 5}, slices.Repeat([]int{7, 8}, 32)} {
		kept := slices.Clone(ids)
		want := api.Tensor{Dims: []int{len(ids), 2, 3, 4}, Exp: -9}
		var wantLabels []int
		for _, id := range ids {
			want.Data = append(want.Data, d.Examples[id].Data...)
			wantLabels = append(wantLabels, d.Examples[id].Label)
		}
		got, labels, e := batch.Of(d, ids)
		if e != api.OK || !tensor.Same(got, want) || !slices.Equal(labels, wantLabels) || !slices.Equal(ids, kept) {
			t.Errorf("Of %v: %v %v %d", ids, got.Dims, labels, e)
		}
		got.Data[0]++
		if !dataset.Same(d, data([3]int{2, 3, 4}, 20)) {
			t.Fatal("memory is shared")
		}
	}
}

func refuses(t *testing.T, name string, d api.Dataset, ids []int) {
	t.Helper()
	got, labels, e := batch.Of(d, ids)
	if e != api.ErrArg || !tensor.Same(got, api.Tensor{}) || len(labels) != 0 {
		t.Errorf("%s: %v %v %d", name, got.Dims, labels, e)
	}
}

// P23.2: what may not be, no example, too many of them, too many elements.
func TestOfErrors(t *testing.T) {
	d := data([3]int{1, 1, 2}, 3)
	for _, ids := range [][]int{nil, {}, {-1}, {3}, {0, 1, 3}, {math.MinInt}, {math.MaxInt}, make([]int, 65)} {
		refuses(t, "ids", d, ids)
	}
	d.Classes = 11
	refuses(t, "no dataset", d, []int{0})
	refuses(t, "no dataset", api.Dataset{}, []int{0})
	large := data([3]int{8, 16, 16}, 2)
	refuses(t, "too many elements", large, make([]int, 5))
	if got, _, e := batch.Of(large, make([]int, 4)); e != api.OK || len(got.Data) != 8192 {
		t.Errorf("the greatest batch: %d", e)
	}
	if got, labels, e := batch.Of(data([3]int{1, 1, 2}, 3), make([]int, 64)); e != api.OK || len(got.Data) != 128 || len(labels) != 64 {
		t.Errorf("the greatest number: %d", e)
	}
}
