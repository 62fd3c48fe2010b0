package add_test

import (
	"math"
	"math/rand/v2"
	"slices"
	"testing"

	"pedagogue/add"
	"pedagogue/api"
	"pedagogue/round"
	"pedagogue/sample"
	"pedagogue/tensor"
)

func told(t *testing.T, name string, want api.Errno, a api.Acc, e api.Errno) {
	t.Helper()
	if e != want || want != api.OK && !tensor.SameAcc(a, api.Acc{}) {
		t.Errorf("%s: %v %d, want %d", name, a, e, want)
	}
}

// P14.1: what may not be is ErrArg, ahead of other Dims, which are ErrShape.
func TestAddErrors(t *testing.T) {
	good := sample.Full(1, 0, 2, 3)
	for _, no := range []api.Tensor{{}, sample.Full(-128, 0, 2, 3), sample.Full(1, 65, 2, 3), sample.Full(1, 0, 2, 0)} {
		for _, other := range []api.Tensor{good, sample.Full(1, 0, 6)} {
			a, e := add.Add(no, other)
			told(t, "Add a", api.ErrArg, a, e)
			a, e = add.Add(other, no)
			told(t, "Add b", api.ErrArg, a, e)
		}
	}
	for _, dims := range [][]int{{6}, {3, 2}, {2, 3, 1}, {1, 2, 3}, {2, 4}} {
		a, e := add.Add(good, sample.Full(1, 0, dims...))
		told(t, "Add", api.ErrShape, a, e)
		a, e = add.Add(sample.Full(1, 0, dims...), good)
		told(t, "Add", api.ErrShape, a, e)
	}
}

// P14.1, P14.3: number by number, at the lesser exponent, at most 12 below the greater; the order makes no difference.
func TestAdd(t *testing.T) {
	dice := rand.New(rand.NewPCG(14, 14))
	for range 2000 {
		a := sample.Tensor(dice.Uint64(), dice.IntN(129)-64, 2, 3)
		b := sample.Tensor(dice.Uint64(), max(-64, min(64, a.Exp+dice.IntN(40)-20)), 2, 3)
		exp := max(min(a.Exp, b.Exp), max(a.Exp, b.Exp)-12)
		want := api.Acc{Dims: []int{2, 3}, Exp: exp}
		for i := range a.Data {
			want.Data = append(want.Data, int32(round.Align(int64(a.Data[i]), a.Exp, exp)+round.Align(int64(b.Data[i]), b.Exp, exp)))
		}
		got, e := add.Add(a, b)
		other, otherE := add.Add(b, a)
		if e != api.OK || !tensor.SameAcc(got, want) {
			t.Fatalf("Add(%v, %v): %v %d, want %v", a, b, got, e, want)
		}
		if otherE != api.OK || !tensor.SameAcc(got, other) {
			t.Fatalf("Add(%v, %v) and the other way: %v, %v", a, b, got, other)
		}
	}
	got, e := add.Add(sample.Full(3, 1, 1), sample.Full(1, 0, 1))
	if e != api.OK || !tensor.SameAcc(got, api.Acc{Dims: []int{1}, Data: []int32{7}}) {
		t.Errorf("the example: %v %d", got, e)
	}
}

// P14.3: Add is the sum, exactly, where the exponents are at most 12 apart; beyond, what is lost goes down.
func TestAddIsExact(t *testing.T) {
	for _, first := range []int{-64, -3, 0, 52} {
		for apart := range 13 {
			for _, v := range []int8{-127, -1, 0, 1, 127} {
				other := v/2 - 60
				got, e := add.Add(sample.Full(v, first, 1), sample.Full(other, first+apart, 1))
				want := int32(v) + int32(other)<<apart
				if e != api.OK || got.Exp != first || got.Data[0] != want {
					t.Errorf("%d at %d, %d apart: %v %d, want %d", v, first, apart, got, e, want)
				}
			}
		}
	}
	for _, apart := range []int{13, 20, 128} {
		got, e := add.Add(sample.Full(-1, 64-apart, 1), sample.Full(127, 64, 1))
		if e != api.OK || got.Exp != 52 || got.Data[0] != 127<<12-1 {
			t.Errorf("%d apart: %v %d", apart, got, e)
		}
	}
}

// R2: what is told is the caller's own.
func TestAddIsNew(t *testing.T) {
	x := sample.Full(1, 0, 2, 3)
	got, _ := add.Add(x, x)
	got.Dims[0] = 9
	a := api.Acc{Dims: []int{2}, Data: []int32{1, 2}}
	sum, _ := add.AddAcc(a, a)
	sum.Dims[0], sum.Data[0] = 9, 9
	if x.Dims[0] != 2 || a.Dims[0] != 2 || a.Data[0] != 1 {
		t.Error("memory is shared")
	}
}

// P14.2: what may not be, and what has reached Bound, is ErrArg, ahead of ErrShape, ahead of ErrBound.
func TestAddAccErrors(t *testing.T) {
	good := api.Acc{Dims: []int{2}, Exp: 3, Data: []int32{1, -1}}
	odd := api.Acc{Dims: []int{1, 2}, Exp: 4, Data: []int32{1, -1}}
	bad := []api.Acc{
		{}, {Dims: []int{2}, Exp: 3, Data: []int32{1}}, {Dims: []int{2}, Exp: 129, Data: []int32{1, 1}}, {Dims: []int{2}, Exp: -129, Data: []int32{1, 1}},
		{Dims: []int{2}, Exp: 3, Data: []int32{1, api.Bound}}, {Dims: []int{2}, Exp: 3, Data: []int32{-api.Bound, 1}},
		{Dims: []int{2}, Exp: 3, Data: []int32{math.MaxInt32, 0}}, {Dims: []int{2}, Exp: 3, Data: []int32{0, math.MinInt32}},
	}
	for _, no := range bad {
		for _, other := range []api.Acc{good, odd} {
			a, e := add.AddAcc(no, other)
			told(t, "AddAcc a", api.ErrArg, a, e)
			a, e = add.AddAcc(other, no)
			told(t, "AddAcc b", api.ErrArg, a, e)
		}
	}
	most := api.Acc{Dims: []int{2}, Exp: 3, Data: []int32{api.Bound - 1, 1 - api.Bound}}
	for _, no := range []api.Acc{
		{Dims: []int{1, 2}, Exp: 3, Data: []int32{api.Bound - 1, 1}}, {Dims: []int{2}, Exp: 4, Data: []int32{api.Bound - 1, 1}},
		{Dims: []int{2}, Exp: 2, Data: []int32{1, 1}}, {Dims: []int{1}, Exp: 3, Data: []int32{1}}, {Dims: []int{3}, Exp: 3, Data: []int32{1, 1, 1}},
	} {
		a, e := add.AddAcc(most, no)
		told(t, "AddAcc", api.ErrShape, a, e)
		a, e = add.AddAcc(no, most)
		told(t, "AddAcc", api.ErrShape, a, e)
	}
	for _, no := range []api.Acc{{Dims: []int{2}, Exp: 3, Data: []int32{1, 0}}, {Dims: []int{2}, Exp: 3, Data: []int32{0, -1}}} {
		a, e := add.AddAcc(most, no)
		told(t, "AddAcc", api.ErrBound, a, e)
		a, e = add.AddAcc(no, most)
		told(t, "AddAcc", api.ErrBound, a, e)
	}
}

// P14.2: number by number, up to Bound.
func TestAddAcc(t *testing.T) {
	for seed := range uint64(50) {
		a, b := sample.Sums(seed, 23, -128, 3, 4), sample.Sums(seed+99, 23, -128, 3, 4)
		kept := slices.Clone(a.Data)
		want := api.Acc{Dims: []int{3, 4}, Exp: -128}
		for i := range a.Data {
			want.Data = append(want.Data, a.Data[i]+b.Data[i])
		}
		got, e := add.AddAcc(a, b)
		if e != api.OK || !tensor.SameAcc(got, want) || !slices.Equal(kept, a.Data) {
			t.Fatalf("AddAcc: %v %d, want %v", got, e, want)
		}
	}
	most := api.Acc{Dims: []int{2}, Exp: 128, Data: []int32{api.Bound - 2, 2 - api.Bound}}
	got, e := add.AddAcc(most, api.Acc{Dims: []int{2}, Exp: 128, Data: []int32{1, -1}})
	if e != api.OK || got.Data[0] != api.Bound-1 || got.Data[1] != 1-api.Bound {
		t.Errorf("AddAcc at Bound: %v %d", got, e)
	}
	got, e = add.AddAcc(most, api.Acc{Dims: []int{2}, Exp: 128, Data: []int32{1 - api.Bound, api.Bound - 1}})
	if e != api.OK || got.Data[0] != -1 || got.Data[1] != 1 {
		t.Errorf("AddAcc of what is unlike: %v %d", got, e)
	}
}
