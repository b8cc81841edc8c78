package sign

import (
	"latticekeys/api"
	"latticekeys/sponge"
	"latticekeys/text"
)

// signBytes are how many of a ball's stream tell signs.
const signBytes = 8

// secret is SECRET(seed, n). Of the 16 half bytes there are only as many taken as stand for each number equally often.
func (p *Parameters) secret(seed string, n int) poly {
	stream := sponge.Stream(256, seed+text.Number(n, 2))
	numbers := 2*p.eta + 1
	taken := 16 / numbers * numbers
	var f poly
	for drawn := 0; drawn < api.N; {
		b := next(&stream)
		for _, half := range [2]int{b % 16, b / 16} {
			if half < taken && drawn < api.N {
				f[drawn] = modulo(p.eta - half%numbers)
				drawn++
			}
		}
	}
	return f
}

// secrets is a vector of secrets, numbered from first on.
func (p *Parameters) secrets(seed string, first, count int) vector {
	v := make(vector, count)
	for i := range v {
		v[i] = p.secret(seed, first+i)
	}
	return v
}

// ball is BALL(c).
func (p *Parameters) ball(c string) poly {
	stream := sponge.Stream(256, c)
	signs := stream.Squeeze(signBytes)
	var f poly
	for n := range p.tau {
		i := api.N - p.tau + n
		j := nextUpTo(&stream, i)
		f[i] = f[j]
		sign := int(signs[n/8] >> (n % 8) & 1)
		f[j] = modulo(1 - 2*sign)
	}
	return f
}

// nextUpTo is the next byte of a stream that is not above last.
func nextUpTo(stream *sponge.Sponge, last int) int {
	b := next(stream)
	for b > last {
		b = next(stream)
	}
	return b
}

func next(stream *sponge.Sponge) int {
	var one [1]byte
	stream.Fill(one[:])
	return int(one[0])
}

// modulo is how a small number, maybe below 0, stands in a polynomial.
func modulo(a int) uint32 { return uint32((a + q) % q) }
