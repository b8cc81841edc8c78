package throw

import (
	"testing"

	"latticekeys/api"
)

func TestCaught(t *testing.T) {
	done := false
	if err := Caught(func() { done = true }); err != nil || !done {
		t.Errorf("work that throws nothing: %v, done: %v", err, done)
	}
	for wrong := api.ErrSet; wrong <= api.ErrHint; wrong++ {
		if err := Caught(func() { panic(wrong) }); err != wrong {
			t.Errorf("thrown: %v, caught: %v", wrong, err)
		}
	}
}

func TestUnless(t *testing.T) {
	for wrong := api.ErrSet; wrong <= api.ErrHint; wrong++ {
		went := false
		if err := Caught(func() { Unless(true, wrong); went = true }); err != nil || !went {
			t.Errorf("what holds throws %v", err)
		}
		if err := Caught(func() { Unless(false, wrong); t.Error("work goes on") }); err != wrong {
			t.Errorf("thrown: %v, caught: %v", wrong, err)
		}
	}
}

func TestFaultOfTheProgramIsNotHidden(t *testing.T) {
	defer func() {
		if got := recover(); got != "a fault" {
			t.Errorf("a fault is told as %v", got)
		}
	}()
	t.Errorf("a fault is told as the error %v", Caught(func() { panic("a fault") }))
}
