package tests

import (
	"fmt"
	"math"
	"testing"

	"loop.example/lockbar/impl"
)

func TestNeedsOfNothing(t *testing.T) {
	wantNeeds(t, "the zero value", impl.Route{})
	wantNeeds(t, "empty lists", impl.Route{Lies: []impl.Lie{}, Flanks: []impl.Flank{}})
	wantNeeds(t, "all but Lies and Flanks", impl.Route{From: 1, To: 2, Steps: []impl.Step{{Piece: 3, Way: 1}}, Crosses: []int{4}, Parts: parts(5, 6, 7), Over: parts(8, 9, 10)})
}

func TestNeedsAreLiesAsTheyStand(t *testing.T) {
	wantNeeds(t, "one", impl.Route{Lies: lies(4, 1)}, 4, 1)
	wantNeeds(t, "out of order", impl.Route{Lies: lies(4, 1, 2, 2, 3, 1)}, 4, 1, 2, 2, 3, 1)
	wantNeeds(t, "one twice", impl.Route{Lies: lies(4, 1, 2, 2, 4, 1)}, 4, 1, 2, 2, 4, 1)
	wantNeeds(t, "one twice in a row", impl.Route{Lies: lies(4, 1, 4, 1)}, 4, 1, 4, 1)
	wantNeeds(t, "one in two ways", impl.Route{Lies: lies(4, 1, 4, 2)}, 4, 1, 4, 2)
	wantNeeds(t, "zeros", impl.Route{Lies: lies(0, 0, 0, 0)}, 0, 0, 0, 0)
}

func TestNeedsOfFlanks(t *testing.T) {
	wantNeeds(t, "flanks alone", impl.Route{Flanks: guards(3, 1, 2, 2)}, 3, 1, 2, 2)
	wantNeeds(t, "behind the Lies", impl.Route{Lies: lies(9, 1, 8, 2), Flanks: guards(3, 1, 2, 2, 7, 1)}, 9, 1, 8, 2, 3, 1, 2, 2, 7, 1)
	wantNeeds(t, "among the Lies", impl.Route{Lies: lies(9, 1, 8, 2), Flanks: guards(8, 2, 3, 1, 9, 1)}, 9, 1, 8, 2, 3, 1)
	wantNeeds(t, "among the flanks", impl.Route{Flanks: guards(3, 1, 2, 2, 3, 1, 2, 2, 4, 2, 4, 2)}, 3, 1, 2, 2, 4, 2)
	wantNeeds(t, "among Lies that stand twice", impl.Route{Lies: lies(9, 1, 9, 1), Flanks: guards(9, 1)}, 9, 1, 9, 1)
	wantNeeds(t, "another Lie of one of the Lies", impl.Route{Lies: lies(9, 1), Flanks: guards(9, 2, 9, 1, 9, 2)}, 9, 1, 9, 2)
	wantNeeds(t, "another Lie of one of the flanks", impl.Route{Flanks: guards(3, 1, 3, 2, 3, 1)}, 3, 1, 3, 2)
	wantNeeds(t, "the numbers changed about", impl.Route{Lies: lies(1, 2), Flanks: guards(2, 1)}, 1, 2, 2, 1)
	wantNeeds(t, "one switch kept from others by another", impl.Route{Flanks: []impl.Flank{
		{At: 1, Kind: impl.FSwitch, Of: 5, Lie: 1}, {At: 2, Kind: impl.FSwitch, Of: 5, Lie: 1}, {At: 2, Kind: impl.FSwitch, Of: 5, Lie: 2},
	}}, 5, 1, 5, 2)
	wantNeeds(t, "a Lie that is none", impl.Route{Flanks: guards(3, 0, 3, -1, 3, 3, 3, 0)}, 3, 0, 3, -1, 3, 3)
}

func TestNeedsOfOtherFlanks(t *testing.T) {
	for _, kind := range []int{math.MinInt, -3, -1, 0, impl.FBuffer, impl.FSignal, impl.FOpen, 5, 6, 7, 19, 259, math.MaxInt} {
		what := fmt.Sprint("kind ", kind)
		f := impl.Flank{At: 1, Kind: kind, Of: 5, Lie: 2}
		wantNeeds(t, what, impl.Route{Flanks: []impl.Flank{f}})
		among := append(append(guards(3, 1), f), guards(4, 2)...)
		wantNeeds(t, what+" among others", impl.Route{Lies: lies(9, 1), Flanks: among}, 9, 1, 3, 1, 4, 2)
		wantNeeds(t, what+" ahead of a switch", impl.Route{Flanks: append([]impl.Flank{f}, guards(5, 2)...)}, 5, 2)
	}
}

func TestNeedsOfAnyNumbers(t *testing.T) {
	var route impl.Route
	var want []int
	for _, v := range anyNumbers() {
		for _, w := range anyNumbers() {
			route.Flanks = append(route.Flanks, guards(v, w)...)
			want = append(want, v, w)
		}
	}
	wantNeeds(t, "flanks", route, want...)
	route.Flanks = append(route.Flanks, route.Flanks...)
	wantNeeds(t, "flanks twice", route, want...)
	route.Lies = lies(want...)
	wantNeeds(t, "flanks that are Lies", route, want...)
}

// All flanks of a route that is long can be others: this would not end if each were looked for among all.
func TestNeedsOfVeryMany(t *testing.T) {
	const count = 200000
	var route impl.Route
	for i := range count {
		route.Flanks = append(route.Flanks, impl.Flank{Kind: impl.FSwitch, Of: i, Lie: 1})
	}
	if got := impl.Needs(route); len(got) != count || got[count-1] != (impl.Lie{Joint: count - 1, Lie: 1}) {
		t.Errorf("%d, want %d", len(got), count)
	}
}

func TestNeedsOfATrack(t *testing.T) {
	n, signals := shared()
	routes := routesOf(t, "shared", n, signals, 3)
	for _, r := range routes {
		var want []int
		for _, l := range r.Lies {
			want = append(want, l.Joint, l.Lie)
		}
		for i, f := range r.Flanks {
			if f.Kind == impl.FSwitch && !hasLie(r.Lies, f.Of, f.Lie) && !hasGuard(r.Flanks[:i], f.Of, f.Lie) {
				want = append(want, f.Of, f.Lie)
			}
		}
		wantNeeds(t, tell(r), r, want...)
	}
}

func hasLie(all []impl.Lie, joint, lie int) bool {
	for _, l := range all {
		if l.Joint == joint && l.Lie == lie {
			return true
		}
	}
	return false
}

func hasGuard(all []impl.Flank, joint, lie int) bool {
	for _, f := range all {
		if f.Kind == impl.FSwitch && f.Of == joint && f.Lie == lie {
			return true
		}
	}
	return false
}
