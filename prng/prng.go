// Package prng: chance by seed and place: see ../../shared/doc/01-prng.md.
package prng

// most is the greatest number of draws that one Below asks for.
const most = 100

// Mix turns every bit of x into a change of about half of all bits.
func Mix(x uint64) uint64 {
	x += 0x9e3779b97f4a7c15
	x = (x ^ x>>30) * 0xbf58476d1ce4e5b9
	x = (x ^ x>>27) * 0x94d049bb133111eb
	return x ^ x>>31
}

// At is the chance at a place of a stream of a seed.
func At(seed, stream, index uint64) uint64 {
	return Mix(Mix(Mix(seed)^stream) ^ index)
}

// Below is chance from 0 to n - 1, each as likely as any other.
func Below(seed, stream, index uint64, n int) int {
	if n < 1 || n > 1<<31 {
		return 0
	}
	size := uint64(n)
	// What is below 2^64 modulo n would make the small remainders likelier.
	uneven := -size % size
	x := At(seed, stream, index)
	asked := 1
again:
	if x >= uneven {
		return int(x % size)
	}
	if asked == most {
		return 0
	}
	x = Mix(x)
	asked++
	goto again
}

// Perm is 0 to n - 1 in an order by chance.
func Perm(seed, stream uint64, n int) []int {
	if n < 1 || n > 65536 {
		return nil
	}
	order := make([]int, n)
	for i := range order {
		order[i] = i
	}
	for i := n - 1; i >= 1; i-- {
		j := Below(seed, stream, uint64(i), i+1)
		order[i], order[j] = order[j], order[i]
	}
	return order
}
