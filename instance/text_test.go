package instance_test

import (
	"testing"

	"geoprover/api"
	"geoprover/instance"
)

// expectText fails unless Text returns want.
func expectText(t *testing.T, f api.Figure, x api.Instance, want string) {
	t.Helper()
	if got, e := instance.Text(f, x); got != want || e != api.OK {
		t.Errorf("the text is\n%s%d, want\n%s", got, e, want)
	}
}

// P26.6: the example of the promise, and the figure without points.
func TestTextExample(t *testing.T) {
	f := figure("free:A, free:B, divide 0 1 =1/2:M")
	expectText(t, f, atOf(t, f, numbers("2"), nil), "A 0 0\nB 2 0\nM 1 0\n")
	expectText(t, api.Figure{}, api.Instance{}, "")
	expectText(t, figure("free"), api.Instance{Points: points("0 0")}, "$0 0 0\n")
}

// P26.6: negative, integer and other coordinates, and points without names.
func TestText(t *testing.T) {
	f := figure("free:A1, free, free:C, turn 0 0 1, shift 0 0 1:lines, free")
	x := api.Instance{Points: points("-1 1/2 -7/3 0 65536 -65537 12345678901234567890123/2 -1/12345678901234567890123 10 100 0 1")}
	expectText(t, f, x, "A1 -1 1/2\n$1 -7/3 0\nC 65536 -65537\n$3 12345678901234567890123/2 -1/12345678901234567890123\nlines 10 100\n$5 0 1\n")
	g := figure("free:A, free:B, free:C, center 0 1 2")
	expectText(t, g, atOf(t, g, numbers("-3 1/2 2"), nil), "A 0 0\nB -3 0\nC 1/2 2\n$3 -3/2 23/16\n")
}

// P26.6: too many and too few points. Values and branches play no part.
func TestTextMismatch(t *testing.T) {
	f := figure("free:A, free:B, apex 0 1:C")
	for n := range 6 {
		x := api.Instance{Points: make([]api.Point, n)}
		for i := range x.Points {
			x.Points[i] = points("1 -2")[0]
		}
		for range 2 {
			if n == 3 {
				expectText(t, f, x, "A 1 -2\nB 1 -2\nC 1 -2\n")
			} else if s, e := instance.Text(f, x); s != "" || e != api.ErrMismatch {
				t.Errorf("Text of %d points is %q, %d", n, s, e)
			}
			x.Values, x.Branches = numbers("1 2 3 4 5"), signs("+++")
		}
	}
	if s, e := instance.Text(api.Figure{}, api.Instance{Points: points("0 0")}); s != "" || e != api.ErrMismatch {
		t.Errorf("Text of a point too many is %q, %d", s, e)
	}
}
