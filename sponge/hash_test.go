package sponge

import (
	"bytes"
	"crypto/sha3"
	"strings"
	"testing"
)

func texts() []string {
	return []string{"", "a", "seed and more", strings.Repeat("long", 100)}
}

func TestSum(t *testing.T) {
	for _, text := range texts() {
		short, long := sha3.Sum256([]byte(text)), sha3.Sum512([]byte(text))
		if Sum(256, text) != string(short[:]) || Sum(512, text) != string(long[:]) {
			t.Errorf("a sum of %q is another one", text)
		}
	}
}

func TestStreamAndH(t *testing.T) {
	for _, text := range texts() {
		short, long := Stream(128, text), Stream(256, text)
		if short.Spent() || long.Spent() {
			t.Errorf("a stream of %q is spent already", text)
		}
		if !bytes.Equal(short.Squeeze(500), sha3.SumSHAKE128([]byte(text), 500)) {
			t.Errorf("a stream of 128 bits of %q is another one", text)
		}
		if !bytes.Equal(long.Squeeze(500), sha3.SumSHAKE256([]byte(text), 500)) {
			t.Errorf("a stream of 256 bits of %q is another one", text)
		}
		for _, n := range []int{0, 1, 64, 136, 137} {
			if H(text, n) != string(sha3.SumSHAKE256([]byte(text), n)) {
				t.Errorf("H(%q, %d) is another one", text, n)
			}
		}
	}
}

func TestFillGoesOn(t *testing.T) {
	want := sha3.SumSHAKE128([]byte("seed"), 336)
	s := Stream(128, "seed")
	if s.Fill(nil); !s.Spent() {
		t.Error("a Fill without room does not end the text")
	}
	var three [3]byte
	for at := 0; at < len(want); at += 3 {
		if s.Fill(three[:]); !bytes.Equal(three[:], want[at:at+3]) {
			t.Fatalf("the bytes from %d on are %x, want %x", at, three, want[at:at+3])
		}
	}
}
