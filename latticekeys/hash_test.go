package latticekeys_test

import (
	"crypto/sha3"
	"encoding/hex"
	"math"
	"math/rand"
	"runtime"
	"strings"
	"sync"
	"testing"
	"time"
	"unsafe"

	"latticekeys/api"
	"latticekeys/latticekeys"
	"latticekeys/plain"
)

func text(r *rand.Rand, n int) string {
	b := make([]byte, n)
	r.Read(b)
	return string(b)
}

func wantError(t *testing.T, what string, err error, want api.Errno) {
	t.Helper()
	if plain.Told(err) != want {
		t.Errorf("%s: error %v, want %v", what, err, want)
	}
}

func sum(t *testing.T, bits int, s string) string {
	t.Helper()
	a, err := latticekeys.Sum(bits, s)
	if err != nil {
		t.Fatalf("P3: Sum(%d, %d bytes): %v", bits, len(s), err)
	}
	return a
}

func stream(t *testing.T, bits int, parts ...string) *latticekeys.Stream {
	t.Helper()
	x, err := latticekeys.NewStream(bits)
	if err != nil || x == nil {
		t.Fatalf("P4: NewStream(%d): %v", bits, err)
	}
	for _, s := range parts {
		if err := x.Absorb(s); err != nil {
			t.Fatalf("P4: Absorb(%d bytes): %v", len(s), err)
		}
	}
	return x
}

func squeeze(t *testing.T, x *latticekeys.Stream, n int) string {
	t.Helper()
	a, err := x.Squeeze(n)
	if err != nil || len(a) != n {
		t.Fatalf("P4: Squeeze(%d): %d bytes, %v", n, len(a), err)
	}
	return a
}

func librarySum(bits int, s string) string {
	if bits == 256 {
		a := sha3.Sum256([]byte(s))
		return string(a[:])
	}
	a := sha3.Sum512([]byte(s))
	return string(a[:])
}

func libraryStream(bits int, s string, n int) string {
	if bits == 128 {
		return string(sha3.SumSHAKE128([]byte(s), n))
	}
	return string(sha3.SumSHAKE256([]byte(s), n))
}

func oddNumbers() []int {
	return []int{0, 1, -1, 8, 127, 129, 224, 255, 257, 384, 511, 513, 1024, -128, -256, -512,
		256 + 1<<32, 512 + 1<<32, 128 + 1<<32, math.MaxInt, math.MinInt}
}

func TestP1ErrorsLeaveNothingElse(t *testing.T) {
	for _, bits := range append(oddNumbers(), 128) {
		a, err := latticekeys.Sum(bits, "text")
		if wantError(t, "P3: Sum of other bits", err, api.ErrSet); a != "" {
			t.Errorf("P1: Sum(%d) = %x beside an error", bits, a)
		}
	}
	for _, bits := range append(oddNumbers(), 512) {
		x, err := latticekeys.NewStream(bits)
		if wantError(t, "P4: NewStream of other bits", err, api.ErrSet); x != nil {
			t.Errorf("P1: NewStream(%d) gives a stream beside an error", bits)
		}
	}
	for _, n := range []int{-1, -10000, api.MaxSqueeze + 1, 1 << 32, math.MaxInt, math.MinInt} {
		a, err := stream(t, 128, "text").Squeeze(n)
		if wantError(t, "P4: Squeeze of too many or too few", err, api.ErrLength); a != "" {
			t.Errorf("P1: Squeeze(%d) gives %d bytes beside an error", n, len(a))
		}
	}
}

func TestP1StreamThatIsNone(t *testing.T) {
	refused, _ := latticekeys.NewStream(0)
	for _, x := range []*latticekeys.Stream{refused, {}} {
		wantError(t, "P1: Absorb of no stream", x.Absorb("text"), api.ErrSet)
		a, err := x.Squeeze(10)
		if wantError(t, "P1: Squeeze of no stream", err, api.ErrSet); a != "" {
			t.Errorf("P1: no stream gives %x", a)
		}
	}
}

func TestP1LongTexts(t *testing.T) {
	for _, s := range []string{"\x00", "\xff\xfe\xed", strings.Repeat("\x00", 1000), strings.Repeat("long ", 200_000)} {
		for _, bits := range []int{256, 512} {
			if sum(t, bits, s) != librarySum(bits, s) {
				t.Errorf("P3: Sum(%d) of %d bytes is another one", bits, len(s))
			}
		}
		for _, bits := range []int{128, 256} {
			if squeeze(t, stream(t, bits, s), 64) != libraryStream(bits, s, 64) {
				t.Errorf("P4: a stream of %d bits of %d bytes is another one", bits, len(s))
			}
		}
	}
}

// lent are texts whose bytes a test can change, and what they were.
type lent struct {
	under [][]byte
	was   []string
}

func (l *lent) text(s string) string {
	b := []byte(s)
	l.under, l.was = append(l.under, b), append(l.was, s)
	return unsafe.String(&b[0], len(b))
}

// takenBack makes noughts of all that was lent: what hangs on it still is seen.
func (l *lent) takenBack(t *testing.T) {
	t.Helper()
	for i, b := range l.under {
		if string(b) != l.was[i] {
			t.Fatalf("P2: text %d, of %d bytes, was written into", i, len(b))
		}
		clear(b)
	}
}

func TestP2TextIsNeitherWrittenNorKept(t *testing.T) {
	for _, n := range []int{1, 8, 100, 135, 136, 168, 500} {
		var mine lent
		s := text(rand.New(rand.NewSource(int64(n))), n)
		got := sum(t, 256, mine.text(s))
		x := stream(t, 128, mine.text(s))
		mine.takenBack(t)
		if got != librarySum(256, s) {
			t.Errorf("P2: a sum hangs on its text of %d bytes when it is made already", n)
		}
		if squeeze(t, x, 200) != libraryStream(128, s, 200) {
			t.Errorf("P2: a stream keeps a text of %d bytes", n)
		}
	}
}

func TestP2AnswersAreFreshMemory(t *testing.T) {
	a, b := sum(t, 512, "text"), sum(t, 512, "text")
	if unsafe.StringData(a) == unsafe.StringData(b) {
		t.Error("P2: two sums share memory")
	}
	x := stream(t, 256, "text")
	first := squeeze(t, x, 136)
	was := strings.Clone(first)
	squeeze(t, x, 136)
	if first != was {
		t.Error("P2: what was squeezed changes with the next Squeeze")
	}
}

func TestP2StreamsDoNotDisturbEachOther(t *testing.T) {
	x, y := stream(t, 128, "left"), stream(t, 128, "right")
	wantX, wantY := libraryStream(128, "left", 1000), libraryStream(128, "right and more", 1000)
	head := squeeze(t, x, 100)
	if err := y.Absorb(" and more"); err != nil {
		t.Errorf("P2: Absorb of a stream beside one that was squeezed: %v", err)
	}
	sum(t, 256, "between")
	gotY := squeeze(t, y, 1000)
	if got := head + squeeze(t, x, 900); got != wantX || gotY != wantY {
		t.Error("P2: streams that are used by turns disturb each other")
	}
}

// atTheSameTime has 16 goroutines ask, each with its own number, again and again; right tells whether what came out is.
func atTheSameTime(t *testing.T, right func(i int) bool) {
	t.Helper()
	wrong := make([]int, 16)
	var all sync.WaitGroup
	for i := range wrong {
		all.Go(func() {
			for range 50 {
				if !right(i) {
					wrong[i]++
				}
			}
		})
	}
	all.Wait()
	for _, n := range wrong {
		if n != 0 {
			t.Fatal("P2: calls at the same time give other answers")
		}
	}
}

func wantNoGoroutineLeft(t *testing.T, call func(i int)) {
	t.Helper()
	before := runtime.NumGoroutine()
	for i := range 100 {
		call(i)
		if now := settled(before); now > before {
			t.Fatalf("P2: %d goroutines behind a call, %d ahead of it", now, before)
		}
	}
}

// settled waits for the runtime: a goroutine is still counted for a moment when its last line has run.
func settled(want int) int {
	for range 1000 {
		if runtime.NumGoroutine() <= want {
			break
		}
		time.Sleep(time.Millisecond)
	}
	return runtime.NumGoroutine()
}

func TestP2AnswersHangOnArgumentsAlone(t *testing.T) {
	wantSum, wantStream := librarySum(512, "text"), libraryStream(256, "text", 2000)
	atTheSameTime(t, func(int) bool {
		a, _ := latticekeys.Sum(512, "text")
		x, _ := latticekeys.NewStream(256)
		x.Absorb("text")
		b, _ := x.Squeeze(2000)
		return a == wantSum && b == wantStream
	})
}

func TestP2GoroutinesHaveEnded(t *testing.T) {
	wantNoGoroutineLeft(t, func(int) {
		sum(t, 256, "text")
		squeeze(t, stream(t, 128, "text"), 1000)
	})
}

func TestP3KnownSums(t *testing.T) {
	for _, c := range []struct {
		bits    int
		s, want string
	}{
		{256, "", "a7ffc6f8bf1ed76651c14756a061d662f580ff4de43b49fa82d80a4b80f8434a"},
		{256, "abc", "3a985da74fe225b2045c172d6bd390bd855f086e3e9d525b46bfe24511431532"},
		{512, "", "a69f73cca23a9ac5c8b567dc185a756e97c982164fe25859e0d1dcc1475c80a6" +
			"15b2123af1f5f94c11e3e9402c3ac558f500199d95b6d3e301758586281dcd26"},
		{512, "abc", "b751850b1a57168a5693cd924b6b096e08f621827444f70d884f5d0240d2712e" +
			"10e116e9192af3c91a7ec57647e3934057340b4cf408d5a56592f8274eec53f0"},
	} {
		if got := hex.EncodeToString([]byte(sum(t, c.bits, c.s))); got != c.want {
			t.Errorf("P3: Sum(%d, %q) = %s, want %s", c.bits, c.s, got, c.want)
		}
	}
}

// The lengths around the multiples of the rate: one less, and the end is the rate's last byte; just one, and the end stands in a rate of its own.
func TestP3SumsAroundTheRate(t *testing.T) {
	r := rand.New(rand.NewSource(4))
	for bits, rate := range map[int]int{256: 136, 512: 72} {
		for whole := 0; whole <= 5*rate; whole += rate {
			for n := max(0, whole-2); n <= whole+2; n++ {
				s := text(r, n)
				if got := sum(t, bits, s); got != librarySum(bits, s) {
					t.Errorf("P3: Sum(%d, %d bytes) = %x, want %x", bits, n, got, librarySum(bits, s))
				}
			}
		}
	}
}

func TestP3SumsOfAllLengths(t *testing.T) {
	r := rand.New(rand.NewSource(5))
	for n := range 700 {
		s := text(r, n)
		for _, bits := range []int{256, 512} {
			if got := sum(t, bits, s); got != librarySum(bits, s) {
				t.Fatalf("P3: Sum(%d, %d bytes) = %x, want %x", bits, n, got, librarySum(bits, s))
			}
		}
	}
}

func TestP4KnownStreams(t *testing.T) {
	for _, c := range []struct {
		bits int
		want string
	}{
		{128, "7f9c2ba4e88f827d616045507605853ed73b8093f6efbc88eb1a6eacfa66ef26"},
		{256, "46b9dd2b0ba88d13233b3feb743eeb243fcd52ea62b81b82b50c27646ed5762f"},
	} {
		if got := hex.EncodeToString([]byte(squeeze(t, stream(t, c.bits), 32))); got != c.want {
			t.Errorf("P4: a stream of %d bits of nothing is %s, want %s", c.bits, got, c.want)
		}
	}
}

func TestP4StreamsOfAllLengths(t *testing.T) {
	r := rand.New(rand.NewSource(6))
	for n := range 700 {
		s := text(r, n)
		for _, bits := range []int{128, 256} {
			if got := squeeze(t, stream(t, bits, s), 400); got != libraryStream(bits, s, 400) {
				t.Fatalf("P4: a stream of %d bits of %d bytes is another one", bits, n)
			}
		}
	}
}

func TestP4AbsorbedPartByPart(t *testing.T) {
	r := rand.New(rand.NewSource(7))
	for i := range 300 {
		bits := 128 << (i % 2)
		s := text(r, r.Intn(800))
		x := stream(t, bits)
		for rest := s; rest != ""; {
			n := min(len(rest), []int{0, 1, r.Intn(20), 136, 168, r.Intn(400)}[r.Intn(6)])
			if err := x.Absorb(rest[:n]); err != nil {
				t.Fatalf("P4: Absorb: %v", err)
			}
			rest = rest[n:]
		}
		if squeeze(t, x, 200) != libraryStream(bits, s, 200) {
			t.Fatalf("P4: a text of %d bytes, absorbed part by part, gives another stream", len(s))
		}
	}
}

func TestP4SqueezedPartByPart(t *testing.T) {
	r := rand.New(rand.NewSource(8))
	for i := range 300 {
		bits := 128 << (i % 2)
		x := stream(t, bits, "seed")
		want := libraryStream(bits, "seed", 3000)
		for at := 0; at < len(want); {
			n := min(len(want)-at, []int{0, 1, r.Intn(20), 136, 168, 336, r.Intn(700)}[r.Intn(7)])
			if squeeze(t, x, n) != want[at:at+n] {
				t.Fatalf("P4: %d bits: the %d bytes from %d on are others", bits, n, at)
			}
			at += n
		}
	}
}

func TestP4SqueezeAtItsBounds(t *testing.T) {
	for _, bits := range []int{128, 256} {
		x := stream(t, bits, "text")
		want := libraryStream(bits, "text", 2*api.MaxSqueeze+1)
		got := squeeze(t, x, 0) + squeeze(t, x, api.MaxSqueeze) + squeeze(t, x, 0)
		got += squeeze(t, x, api.MaxSqueeze) + squeeze(t, x, 1)
		if got != want {
			t.Errorf("P4: a long stream of %d bits is another one", bits)
		}
	}
}

func TestP4NothingIsAbsorbedBehindASqueeze(t *testing.T) {
	for _, bits := range []int{128, 256} {
		for _, first := range []int{0, 1, 136, 168, api.MaxSqueeze} {
			x := stream(t, bits, "text")
			got := squeeze(t, x, first)
			for _, s := range []string{"", "more"} {
				wantError(t, "P4: Absorb behind a Squeeze", x.Absorb(s), api.ErrSpent)
			}
			if got += squeeze(t, x, 300); got != libraryStream(bits, "text", first+300) {
				t.Errorf("P4: %d bits: an Absorb that is refused changes the stream", bits)
			}
		}
	}
}

func TestP4RefusedSqueezeIsNone(t *testing.T) {
	for _, bits := range []int{128, 256} {
		x := stream(t, bits, "one")
		for _, n := range []int{-1, api.MaxSqueeze + 1} {
			_, err := x.Squeeze(n)
			wantError(t, "P4: Squeeze of too many or too few", err, api.ErrLength)
		}
		wantError(t, "P4: Absorb behind a Squeeze that was refused", x.Absorb("two"), api.OK)
		got := squeeze(t, x, 50)
		_, err := x.Squeeze(-1)
		wantError(t, "P4: Squeeze of too few", err, api.ErrLength)
		if got += squeeze(t, x, 250); got != libraryStream(bits, "onetwo", 300) {
			t.Errorf("P4: %d bits: a Squeeze that is refused changes the stream", bits)
		}
	}
}
