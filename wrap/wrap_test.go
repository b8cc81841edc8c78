package wrap

import (
	"crypto/sha3"
	"strings"
	"testing"

	"latticekeys/api"
)

// thrown is what a call panics with.
func thrown(call func()) (what any) {
	defer func() { what = recover() }()
	call()
	return nil
}

func TestP8Sets(t *testing.T) {
	for set, want := range map[int][4]int{512: {2, 3, 10, 4}, 768: {3, 2, 10, 4}, 1024: {4, 2, 11, 5}} {
		s := New(set)
		if got := [4]int{s.k, s.eta, s.du, s.dv}; got != want {
			t.Errorf("P8: set %d: k, eta, du, dv are %v, want %v", set, got, want)
		}
	}
}

func TestP8Noise(t *testing.T) {
	for _, seed := range []string{strings.Repeat("\x00", 32), strings.Repeat("\xff", 32), strings.Repeat("seed", 8)} {
		for _, e := range []int{2, 3} {
			for _, n := range []int{0, 1, 4, 8} {
				drawn := sha3.SumSHAKE256([]byte(seed+string([]byte{byte(n)})), 64*e)
				got := New(512).noise(e, seed, n)
				for i, a := range got {
					want := api.Small
					for j := range e {
						up, down := 2*i*e+j, 2*i*e+e+j
						want += int(drawn[up/8]>>(up%8)&1) - int(drawn[down/8]>>(down%8)&1)
					}
					if int(a) != want%api.Small {
						t.Fatalf("P8: NOISE(%d, .., %d) has %d at %d, want %d", e, n, a, i, want%api.Small)
					}
				}
			}
		}
	}
}

func TestWhatIsWrongIsThrown(t *testing.T) {
	s, seed := New(512), strings.Repeat("s", 32)
	ek, dk := s.KeyGen(seed, seed)
	_, c := s.Encaps(ek, seed)
	for _, w := range []struct {
		call func()
		want any
	}{
		{func() { New(511) }, api.ErrSet},
		{func() { s.KeyGen(seed, "") }, api.ErrLength},
		{func() { s.Encaps(ek, "") }, api.ErrLength},
		{func() { s.Encaps(strings.Repeat("\xff", len(ek)), seed) }, api.ErrKey},
		{func() { s.Decaps(dk, c+"x") }, api.ErrLength},
		{func() { s.Decaps(strings.Repeat("\xff", len(dk)), c) }, api.ErrHash},
		{func() { s.Decaps(dk, c) }, nil},
	} {
		if got := thrown(w.call); got != w.want {
			t.Errorf("thrown: %v, want %v", got, w.want)
		}
	}
}
