package sponge

import (
	"math/bits"
	"math/rand"
	"testing"
)

// toldPermutation is P3's permutation word by word, with no table: what permute is held against.
func toldPermutation(lanes state) state {
	var a [5][5]uint64 // by x, then y
	for i, lane := range lanes {
		a[i%5][i/5] = lane
	}
	r := 1
	for range 24 {
		a = toldStep3(toldStep2(toldStep1(a)))
		for j := range 7 {
			a[0][0] ^= uint64(r&1) << (1<<j - 1)
			if r *= 2; r > 255 {
				r ^= 0x171
			}
		}
	}
	for i := range lanes {
		lanes[i] = a[i%5][i/5]
	}
	return lanes
}

func toldStep1(a [5][5]uint64) [5][5]uint64 {
	var c [5]uint64
	for x := range 5 {
		for y := range 5 {
			c[x] ^= a[x][y]
		}
	}
	for x := range 5 {
		for y := range 5 {
			a[x][y] ^= c[(x+4)%5] ^ bits.RotateLeft64(c[(x+1)%5], 1)
		}
	}
	return a
}

func toldStep2(a [5][5]uint64) [5][5]uint64 {
	to := a
	x, y := 1, 0
	for t := range 24 {
		was := a[x][y]
		x, y = y, (2*x+3*y)%5
		to[x][y] = bits.RotateLeft64(was, (t+1)*(t+2)/2)
	}
	return to
}

func toldStep3(a [5][5]uint64) [5][5]uint64 {
	to := a
	for x := range 5 {
		for y := range 5 {
			to[x][y] ^= ^a[(x+1)%5][y] & a[(x+2)%5][y]
		}
	}
	return to
}

func TestP3PermutationIsAsTold(t *testing.T) {
	r := rand.New(rand.NewSource(3))
	for range 200 {
		var a state
		for i := range a {
			a[i] = r.Uint64()
		}
		want := toldPermutation(a)
		if a.permute(); a != want {
			t.Fatalf("P3: the permutation gives %x, want %x", a, want)
		}
	}
}

func TestP3PermutationOfNoughts(t *testing.T) {
	var a state
	a.permute()
	if a[0] != 0xf1258f7940e1dde7 || a[24] != 0xeaf1ff7b5ceca249 {
		t.Errorf("P3: noughts, permuted, are %x", a)
	}
}

func TestP3PermutationOfOneBit(t *testing.T) {
	for bit := range laneCount * 64 {
		var a state
		a[bit/64] = 1 << (bit % 64)
		want := toldPermutation(a)
		if a.permute(); a != want {
			t.Fatalf("P3: bit %d, permuted, is %x, want %x", bit, a, want)
		}
	}
}
