package sign

import (
	"crypto/sha3"
	"reflect"
	"strings"
	"testing"

	"latticekeys/api"
	"latticekeys/lattice"
	"latticekeys/ring"
	"latticekeys/text"
)

var sets = []int{44, 65, 87}

// thrown is what a call panics with.
func thrown(call func()) (what any) {
	defer func() { what = recover() }()
	call()
	return nil
}

func TestP15Sets(t *testing.T) {
	for set, want := range map[int][10]int{
		44: {4, 95_232, 80, 4, 2, 1 << 17, 39, 78, 32, 6},
		65: {6, 261_888, 55, 5, 4, 1 << 19, 49, 196, 48, 4},
		87: {8, 261_888, 75, 7, 2, 1 << 19, 60, 120, 64, 4},
	} {
		p := New(set)
		got := [10]int{p.K, p.Gamma, p.Omega, p.l, p.eta, p.gamma1, p.tau, p.beta(), p.challengeBytes, p.highBits()}
		if got != want {
			t.Errorf("P12, P14, P15: set %d is %v, want %v", set, got, want)
		}
	}
}

func TestP15Secret(t *testing.T) {
	for _, set := range sets {
		p := New(set)
		for _, seed := range []string{strings.Repeat("\x00", 64), strings.Repeat("\xff", 64), strings.Repeat("seed", 16)} {
			for _, n := range []int{0, 1, 14, 255, 256, 65535} {
				drawn := sha3.SumSHAKE256([]byte(seed+string([]byte{byte(n), byte(n >> 8)})), 1000)
				var want []int
				for _, b := range drawn {
					for _, h := range []int{int(b) % 16, int(b) / 16} {
						if p.eta == 2 && h < 15 {
							want = append(want, 2-h%5)
						}
						if p.eta == 4 && h < 9 {
							want = append(want, 4-h)
						}
					}
				}
				for i, a := range p.secret(seed, n) {
					if int(a) != (want[i]+q)%q {
						t.Fatalf("P15: set %d: SECRET(.., %d) has %d at %d, want %d", set, n, a, i, want[i])
					}
				}
			}
		}
		v := p.secrets("seed", 3, 4)
		if want := (vector{p.secret("seed", 3), p.secret("seed", 4), p.secret("seed", 5), p.secret("seed", 6)}); !reflect.DeepEqual(v, want) {
			t.Errorf("P16: set %d: secrets are numbered otherwise", set)
		}
	}
}

// As many as tau are 1 or -1, and both come, and each place.
func TestP17Ball(t *testing.T) {
	for _, set := range sets {
		p := New(set)
		var up, down [api.N]int
		for n := range 1000 {
			ones := 0
			for i, a := range p.ball(strings.Repeat(string([]byte{byte(n), byte(n >> 8)}), p.challengeBytes/2)) {
				switch a {
				case 1:
					up[i]++
					ones++
				case q - 1:
					down[i]++
					ones++
				case 0:
				default:
					t.Fatalf("P17: set %d: a ball has %d", set, a)
				}
			}
			if ones != p.tau {
				t.Fatalf("P17: set %d: %d of a ball are not 0, want %d", set, ones, p.tau)
			}
		}
		for i := range up {
			if up[i] == 0 || down[i] == 0 {
				t.Errorf("P17: set %d: place %d is 1 %d times, -1 %d times", set, i, up[i], down[i])
			}
		}
	}
}

func TestP17BallAsTold(t *testing.T) {
	for _, set := range sets {
		p := New(set)
		for _, c := range []string{"", "a challenge", strings.Repeat("\xff", p.challengeBytes)} {
			drawn := sha3.SumSHAKE256([]byte(c), 2000)
			signs, rest := drawn[:8], drawn[8:]
			var want [api.N]int
			for i := 256 - p.tau; i <= 255; i++ {
				for int(rest[0]) > i {
					rest = rest[1:]
				}
				j, bit := rest[0], i-256+p.tau
				rest = rest[1:]
				want[i] = want[j]
				want[j] = 1 - 2*int(signs[bit/8]>>(bit%8)&1)
			}
			for i, a := range p.ball(c) {
				if int(a) != (want[i]+q)%q {
					t.Fatalf("P17: set %d: BALL has %d at %d, want %d", set, a, i, want[i])
				}
			}
		}
	}
}

func TestP15Packed(t *testing.T) {
	r := ring.Great()
	for _, c := range []struct {
		span
		bits int
	}{{span{2, 2}, 3}, {span{4, 4}, 4}, {span{4095, 4096}, 13}, {span{1<<17 - 1, 1 << 17}, 18}, {span{1<<19 - 1, 1 << 19}, 20}} {
		if c.span.bits() != c.bits || c.bytes() != 32*c.bits {
			t.Errorf("P15: %v takes %d bits, %d bytes", c.span, c.span.bits(), c.bytes())
		}
		v := vector{{}, {0: q - uint32(c.below), 1: uint32(c.above), 2: 1, 255: q - 1}}
		above := uint32(c.above)
		var first, second poly
		for i := range first {
			first[i], second[i] = above, above
		}
		second[0], second[1], second[2], second[255] = above+uint32(c.below), 0, above-1, above+1
		packed := c.packed(r, v)
		if packed != lattice.Pack(c.bits, vector{first, second}) {
			t.Errorf("P15: %v is packed as another text", c.span)
		}
		if !reflect.DeepEqual(c.unpacked(r, packed), v) {
			t.Errorf("P15: %v comes back otherwise", c.span)
		}
	}
}

func TestReach(t *testing.T) {
	for _, c := range []struct {
		v    vector
		want int
	}{
		{vector{}, 0}, {vector{{}}, 0}, {vector{{1}}, 1}, {vector{{q - 1}}, 1}, {vector{{255: q - 7}, {5}}, 7}, {vector{{5}, {255: 7}}, 7},
		{vector{{q / 2}}, q / 2}, {vector{{q/2 + 1}}, q / 2}, {vector{{}, {}, {254: 9, 255: q - 8}}, 9},
	} {
		if got := reach(c.v); got != c.want {
			t.Errorf("%d away from 0, want %d", got, c.want)
		}
	}
}

func TestSecretKeysComeBack(t *testing.T) {
	for _, set := range sets {
		p := New(set)
		public, secret := p.Keys(strings.Repeat("x", seedBytes))
		if len(secret) != p.secretKeyBytes() {
			t.Fatalf("P16: set %d: a secret key of %d bytes, want %d", set, len(secret), p.secretKeyBytes())
		}
		k := p.readSecretKey(secret)
		if k.packed() != secret || k.rho != public[:seedBytes] || len(k.key) != seedBytes || len(k.s1) != p.l || len(k.s2) != p.K || len(k.t0) != p.K {
			t.Errorf("P16: set %d: a secret key is read otherwise than written", set)
		}
	}
}

func TestP16P17Lengths(t *testing.T) {
	for set, want := range map[int][3]int{44: {1312, 2560, 2420}, 65: {1952, 4032, 3309}, 87: {2592, 4896, 4627}} {
		p := New(set)
		if got := [3]int{p.publicKeyBytes(), p.secretKeyBytes(), p.signatureBytes()}; got != want {
			t.Errorf("P16, P17: set %d: keys and signatures of %v bytes, want %v", set, got, want)
		}
	}
}

// What verifies goes without the secrets, and still has, by the hints, the high parts that the signer had.
func TestP18NearTheSignersParts(t *testing.T) {
	for _, set := range sets {
		p, seed := New(set), strings.Repeat("s", seedBytes)
		public, secret := p.Keys(seed)
		s := newSigner(p.readSecretKey(secret), "message", seed)
		for n := range api.MaxFuel {
			signature, found := s.signature(n)
			if !found {
				continue
			}
			c := text.Cut(&signature, p.challengeBytes)
			z := p.maskRange().unpacked(p.ring, text.Cut(&signature, p.l*p.maskRange().bytes()))
			hints, _ := p.UnpackHint(signature)
			want, _ := parted(s.times(s.matrix, s.mask(n)), s.Decompose)
			if got := vector(hints).With(p.near(public, c, z), p.UseHint); !reflect.DeepEqual(got, want) {
				t.Errorf("P18: set %d: other high parts than the signer's", set)
			}
			break
		}
	}
}

func TestP19InContext(t *testing.T) {
	long := strings.Repeat("c", contextBytes)
	for _, c := range [][3]string{{"", "", "\x00\x00"}, {"", "m", "\x00\x00m"}, {"c", "", "\x00\x01c"}, {"ctx", "m", "\x00\x03ctxm"}, {long, "m", "\x00\xff" + long + "m"}} {
		if got := inContext(c[0], c[1]); got != c[2] {
			t.Errorf("P19: %q in the context %q is %q", c[1], c[0], got)
		}
	}
}

func TestWhatIsWrongIsThrown(t *testing.T) {
	p, seed := New(44), strings.Repeat("s", seedBytes)
	_, sk := p.Keys(seed)
	for _, w := range []struct {
		call func()
		want any
	}{
		{func() { New(45) }, api.ErrSet},
		{func() { New(512) }, api.ErrSet},
		{func() { p.Keys(seed + "x") }, api.ErrLength},
		{func() { p.Sign(sk[1:], "", seed, 0) }, api.ErrLength},
		{func() { p.Sign(sk, "", "", 0) }, api.ErrLength},
		{func() { p.Sign(strings.Repeat("\xff", len(sk)), "", seed, -1) }, api.ErrKey},
		{func() { p.Sign(sk, "", seed, -1) }, api.ErrBound},
		{func() { p.Sign(sk, "", seed, api.MaxFuel+1) }, api.ErrBound},
		{func() { p.Sign(sk, "", seed, 0) }, api.ErrFuel},
		{func() { p.Sign(sk, "", seed, api.MaxFuel) }, nil},
		{func() { p.SignWith(sk, strings.Repeat("c", contextBytes+1), "", seed, api.MaxFuel) }, api.ErrLength},
		{func() { p.SignWith(sk, strings.Repeat("c", contextBytes), "", seed, api.MaxFuel) }, nil},
		{func() { p.SignWith(sk, "", "", seed, 0) }, api.ErrFuel},
		{func() { p.Verify("", "", "") }, nil},
		{func() { p.VerifyWith("", strings.Repeat("c", contextBytes+1), "", "") }, nil},
	} {
		if got := thrown(w.call); got != w.want {
			t.Errorf("thrown: %v, want %v", got, w.want)
		}
	}
}
