package latticekeys

import (
	"testing"

	"latticekeys/api"
)

func TestCaught(t *testing.T) {
	done := false
	if err := caught(func() { done = true }); err != nil || !done {
		t.Errorf("work that throws nothing: %v, done: %v", err, done)
	}
	for _, wrong := range []api.Errno{api.ErrSet, api.ErrLength, api.ErrKey, api.ErrHash} {
		if err := caught(func() { panic(wrong) }); err != wrong {
			t.Errorf("thrown: %v, caught: %v", wrong, err)
		}
	}
}

func TestFaultOfTheProgramIsNotHidden(t *testing.T) {
	defer func() {
		if got := recover(); got != "a fault" {
			t.Errorf("a fault is told as %v", got)
		}
	}()
	t.Errorf("a fault is told as the error %v", caught(func() { panic("a fault") }))
}
