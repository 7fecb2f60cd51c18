package fresh_test

import (
	"reflect"
	"testing"

	"geoprover/api"
	"geoprover/fresh"
)

// Copies are equal to what was copied, and stay as they are if that is overwritten.
func TestCopies(t *testing.T) {
	rat := func() api.Rat { return api.Rat{Num: api.Int{Neg: true, Abs: api.Nat{7, 8}}, Den: api.Nat{3}} }
	a := rat()
	b := fresh.Rat(a)
	a.Num.Abs[1], a.Den[0] = 0, 0
	if !reflect.DeepEqual(b, rat()) {
		t.Errorf("the copy of a number is %v", b)
	}
	l := []api.Rat{rat(), {}, rat()}
	m := fresh.Rats(l)
	l[0], l[2].Num.Abs[0] = api.Rat{}, 0
	if !reflect.DeepEqual(m, []api.Rat{rat(), {}, rat()}) {
		t.Errorf("the copy of a list is %v", m)
	}
	figure := func() api.Figure {
		return api.Figure{
			Steps: []api.Step{{Kind: 1, Point: "A"}, {Kind: 2, Args: []int{0, 0}, Ratio: rat()}},
			Goals: []api.Fact{{Kind: 9, Args: []int{1, 0, 1, 1}, Ratio: rat()}, {Kind: 8, Args: []int{1, 0}}},
		}
	}
	f := figure()
	g := fresh.Figure(f)
	f.Steps[1].Args[0], f.Steps[1].Ratio.Den[0], f.Goals[0].Args[3], f.Goals[0].Ratio.Num.Abs[0] = 9, 9, 9, 9
	f.Steps[0], f.Goals[1] = api.Step{}, api.Fact{}
	if !reflect.DeepEqual(g, figure()) {
		t.Errorf("the copy of a figure is %v", g)
	}
	if h := fresh.Figure(api.Figure{}); h.Steps != nil || h.Goals != nil {
		t.Errorf("the copy of nothing is %v", h)
	}
}
