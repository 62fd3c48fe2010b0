package loss_test

import (
	"math"
	"math/big"
	"math/rand/v2"
	"slices"
	"testing"

	"pedagogue/api"
	"pedagogue/loss"
	"pedagogue/sample"
	"pedagogue/tensor"
)

// softOf is Soft, told with numbers that know no bound.
func softOf(l []int8, exp int) []int {
	exp = max(-64, min(64, exp))
	sum := 0
	var parts []int
	for _, v := range l {
		far := big.NewInt(int64(slices.Max(l)) - int64(v))
		if exp >= 0 {
			far.Lsh(far, uint(exp))
		} else {
			far.Rsh(far, uint(-exp))
		}
		d := 15
		if far.Cmp(big.NewInt(15)) < 0 {
			d = int(far.Int64())
		}
		part := 1
		for range 15 - d {
			part *= 2
		}
		parts = append(parts, part)
		sum += part
	}
	for i := range parts {
		parts[i] = parts[i] * 127 / sum
	}
	return parts
}

// P19.1: Soft, at every exponent.
func TestSoft(t *testing.T) {
	rows := [][]int8{{0}, {-128}, {0, 0}, {0, -1}, {1, 0, 0, 0, 0, 0, 0, 0, 0, 0}, {2, 0, 0, 0, 0, 0, 0, 0, 0, 0}, {-3, -3, -3, -3, 0, -3, -3, -3, -3, -3}, {127, -128}, {5, 4, 3}, {3, 4, 5, 5}, {-127, -100, -90, -89, -88, 100}, {0, 15, 16, 14, 1}, {1, 2, 3, 4, 5, 6, 7, 8, 9, 10}, {127, 127, 126, 0, 0, 0, 0, 0, 0, -128}}
	for _, row := range rows {
		for _, exp := range []int{math.MinInt, -1000, -65, -64, -63, -8, -7, -6, -5, -4, -3, -2, -1, 0, 1, 2, 3, 4, 5, 31, 56, 63, 64, 65, 1000, math.MaxInt} {
			kept := slices.Clone(row)
			if got, want := loss.Soft(row, exp), softOf(row, exp); !slices.Equal(got, want) {
				t.Errorf("Soft of %v at %d: %v, want %v", row, exp, got, want)
			}
			if !slices.Equal(kept, row) {
				t.Fatal("the numbers were changed")
			}
		}
	}
	known := map[int][]int{0: {84, 42}, 1: {101, 25}, 3: {126, 0}, -1: {63, 63}}
	for exp, want := range known {
		if got := loss.Soft([]int8{1, 0}, exp); !slices.Equal(got, want) {
			t.Errorf("Soft of 1 0 at %d: %v, want %v", exp, got, want)
		}
	}
}

// P19.1: nothing of no numbers, and of more than there are classes.
func TestSoftOfWhatMayNotBe(t *testing.T) {
	for _, n := range []int{0, 11, 12, 1000} {
		if got := loss.Soft(make([]int8, n), 0); len(got) != 0 {
			t.Errorf("Soft of %d numbers: %v", n, got)
		}
	}
	for n := 1; n <= 10; n++ {
		if got := loss.Soft(make([]int8, n), 0); len(got) != n || got[n-1] != 127/n {
			t.Errorf("Soft of %d numbers: %v", n, got)
		}
	}
}

// all asks Grad, Top and Right of what tells an error.
func all(t *testing.T, name string, want api.Errno, y api.Tensor, labels []int) {
	t.Helper()
	g, e := loss.Grad(y, labels)
	if e != want || !tensor.Same(g, api.Tensor{}) {
		t.Errorf("Grad, %s: %v %d, want %d", name, g, e, want)
	}
	right, e := loss.Right(y, labels)
	if e != want || right != 0 {
		t.Errorf("Right, %s: %d %d, want %d", name, right, e, want)
	}
}

// P19.2, P19.3: errors in their order.
func TestErrors(t *testing.T) {
	for _, no := range []api.Tensor{{}, sample.Full(-128, 0, 2, 3), sample.Full(1, 65, 2, 3), sample.Full(1, 0, 2, 0), sample.Full(-128, 0, 2, 11)} {
		all(t, "y may not be", api.ErrArg, no, []int{9})
		if top, e := loss.Top(no); e != api.ErrArg || len(top) != 0 {
			t.Errorf("Top: %v %d", top, e)
		}
	}
	for _, no := range []api.Tensor{sample.Full(1, 0, 2), sample.Full(1, 0, 2, 1), sample.Full(1, 0, 2, 11), sample.Full(1, 0, 2, 3, 1), sample.Full(1, 0, 1, 1, 2, 3), sample.Full(1, 0, 1, 4096)} {
		all(t, "y's shape", api.ErrShape, no, []int{0, 99})
		if top, e := loss.Top(no); e != api.ErrShape || len(top) != 0 {
			t.Errorf("Top: %v %d", top, e)
		}
	}
	y := sample.Full(1, 0, 2, 3)
	for _, labels := range [][]int{nil, {0}, {99}, {0, 1, 2}, {-1, -1, -1}} {
		all(t, "another number of labels", api.ErrShape, y, labels)
	}
	for _, labels := range [][]int{{0, 3}, {3, 0}, {-1, 0}, {0, -1}, {math.MinInt, 0}, {0, math.MaxInt}} {
		all(t, "a label", api.ErrArg, y, labels)
	}
}

// P19.2: Grad is Soft of each row, but 127 less at its label.
func TestGrad(t *testing.T) {
	dice := rand.New(rand.NewPCG(19, 19))
	for range 1000 {
		n, c := 1+dice.IntN(5), 2+dice.IntN(9)
		y := sample.Tensor(dice.Uint64(), dice.IntN(20)-12, n, c)
		want := api.Tensor{Dims: []int{n, c}, Exp: -7}
		var labels []int
		for i := range n {
			labels = append(labels, dice.IntN(c))
			for k, part := range softOf(y.Data[i*c:i*c+c], y.Exp) {
				if k == labels[i] {
					part -= 127
				}
				want.Data = append(want.Data, int8(part))
			}
		}
		g, e := loss.Grad(y, labels)
		if e != api.OK || !tensor.Same(g, want) {
			t.Fatalf("Grad of %v, %v: %v %d, want %v", y, labels, g, e, want)
		}
		g.Dims[0] = 99
		if y.Dims[0] != n {
			t.Fatal("Dims are shared")
		}
	}
	g, e := loss.Grad(sample.Full(0, 0, 1, 2), []int{1})
	if e != api.OK || !slices.Equal(g.Data, []int8{63, -64}) {
		t.Errorf("the example: %v %d", g, e)
	}
	g, e = loss.Grad(api.Tensor{Dims: []int{1, 2}, Exp: 64, Data: []int8{-127, 127}}, []int{0})
	if e != api.OK || !slices.Equal(g.Data, []int8{-127, 126}) {
		t.Errorf("wholly wrong: %v %d", g, e)
	}
}

// P19.3: the greatest of each row, of several the first; how many are the label.
func TestTopAndRight(t *testing.T) {
	y := api.Tensor{Dims: []int{5, 3}, Exp: -20, Data: []int8{1, 2, 3, 3, 3, 1, -5, -4, -4, 0, 0, 0, -127, -126, 127}}
	top, e := loss.Top(y)
	if e != api.OK || !slices.Equal(top, []int{2, 0, 1, 0, 2}) {
		t.Errorf("Top: %v %d", top, e)
	}
	for _, k := range []struct {
		labels []int
		want   int
	}{{[]int{2, 0, 1, 0, 2}, 5}, {[]int{2, 1, 2, 1, 2}, 2}, {[]int{0, 1, 2, 2, 0}, 0}} {
		if right, e := loss.Right(y, k.labels); e != api.OK || right != k.want {
			t.Errorf("Right of %v: %d %d, want %d", k.labels, right, e, k.want)
		}
	}
}

// P19.4: the parts are 0 to 127, together at most 127; a greater number has not less; Grad adds up to at most 0, to more than - C.
func TestWhatFollows(t *testing.T) {
	dice := rand.New(rand.NewPCG(19, 20))
	for range 3000 {
		c := 2 + dice.IntN(9)
		y := sample.Tensor(dice.Uint64(), dice.IntN(20)-12, 1, c)
		parts := loss.Soft(y.Data, y.Exp)
		sum := 0
		for i, part := range parts {
			sum += part
			for k, other := range parts {
				if y.Data[i] > y.Data[k] && part < other {
					t.Fatalf("%v: %v", y.Data, parts)
				}
			}
			if part < 0 {
				t.Fatalf("%v: %v", y.Data, parts)
			}
		}
		if sum > 127 {
			t.Fatalf("%v: %v", y.Data, parts)
		}
		g, _ := loss.Grad(y, []int{dice.IntN(c)})
		total := 0
		for _, v := range g.Data {
			total += int(v)
		}
		if total > 0 || total <= -c {
			t.Fatalf("Grad adds up to %d: %v", total, g.Data)
		}
	}
}
