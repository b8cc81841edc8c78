package text

import "testing"

func TestNumber(t *testing.T) {
	for _, c := range []struct {
		n, bytes int
		want     string
	}{
		{0, 1, "\x00"}, {1, 1, "\x01"}, {255, 1, "\xff"},
		{0, 2, "\x00\x00"}, {1, 2, "\x01\x00"}, {255, 2, "\xff\x00"}, {256, 2, "\x00\x01"}, {6999, 2, "\x57\x1b"}, {65535, 2, "\xff\xff"},
	} {
		if got := Number(c.n, c.bytes); got != c.want {
			t.Errorf("[%d, %d] is %x, want %x", c.n, c.bytes, got, c.want)
		}
	}
}

func TestCut(t *testing.T) {
	rest := "head, body"
	if head := Cut(&rest, 4); head != "head" || rest != ", body" {
		t.Errorf("%q and %q", head, rest)
	}
	if head := Cut(&rest, 0); head != "" || rest != ", body" {
		t.Errorf("%q and %q", head, rest)
	}
	if head := Cut(&rest, 6); head != ", body" || rest != "" {
		t.Errorf("%q and %q", head, rest)
	}
}
