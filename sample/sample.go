// Package sample: tensors and nets for the tests of the layers.
package sample

import (
	"strings"

	"pedagogue/api"
	"pedagogue/model"
	"pedagogue/prng"
)

// size is the product of dims, whether they may be or not.
func size(dims []int) int {
	n := 1
	for _, d := range dims {
		n *= d
	}
	return n
}

// Tensor has numbers from -127 to 127 by chance.
func Tensor(seed uint64, exp int, dims ...int) api.Tensor {
	t := api.Tensor{Dims: dims, Exp: exp, Data: make([]int8, size(dims))}
	for i := range t.Data {
		t.Data[i] = int8(prng.Below(seed, 77, uint64(i), 255) - 127)
	}
	return t
}

// Full has the same number everywhere.
func Full(n int8, exp int, dims ...int) api.Tensor {
	t := api.Tensor{Dims: dims, Exp: exp, Data: make([]int8, size(dims))}
	for i := range t.Data {
		t.Data[i] = n
	}
	return t
}

// Sums has numbers of so many bits, above and below 0, by chance.
func Sums(seed uint64, bits, exp int, dims ...int) api.Acc {
	a := api.Acc{Dims: dims, Exp: exp, Data: make([]int32, size(dims))}
	for i := range a.Data {
		drawn := int64(prng.At(seed, 78, uint64(i))) >> (63 - bits)
		a.Data[i] = int32(drawn)
	}
	return a
}

// Net is the net of a text whose lines have "; " between.
func Net(text string) api.Model {
	m, _, _ := model.Parse(strings.ReplaceAll(text, "; ", "\n") + "\n")
	return m
}
