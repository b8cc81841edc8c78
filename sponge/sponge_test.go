package sponge

import (
	"bytes"
	"strings"
	"testing"
)

func started(rate int, end byte) *Sponge {
	s := &Sponge{}
	s.Start(rate, end)
	return s
}

func TestStartForgetsEverything(t *testing.T) {
	want := started(136, sumEnd).Squeeze(300)
	used := started(168, streamEnd)
	used.Absorb(strings.Repeat("used", 100))
	used.Squeeze(77)
	used.Start(136, sumEnd)
	if used.Spent() {
		t.Error("a sponge that was started again is spent")
	}
	if got := used.Squeeze(300); !bytes.Equal(got, want) {
		t.Errorf("a sponge that was started again gives %x, want %x", got, want)
	}
}

func TestStartedTellsOfStart(t *testing.T) {
	var s Sponge
	if s.Started() {
		t.Error("a sponge is started by itself")
	}
	if s.Start(72, sumEnd); !s.Started() {
		t.Error("a sponge that was started is not")
	}
}

func TestCopyGoesOnByItself(t *testing.T) {
	whole := started(168, streamEnd)
	whole.Absorb("one, two")
	want := whole.Squeeze(500)

	s := started(168, streamEnd)
	s.Absorb("one, ")
	other := *s
	other.Absorb("three")
	other.Squeeze(500)
	if s.Spent() {
		t.Error("a sponge is spent by squeezing a copy of it")
	}
	s.Absorb("two")
	if got := s.Squeeze(500); !bytes.Equal(got, want) {
		t.Errorf("a sponge beside a copy of it gives %x, want %x", got, want)
	}
}
