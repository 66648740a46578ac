package tests

import (
	"fmt"
	"testing"

	"loop.example/lockbar/impl"
)

// diamonds is a row of switches, from a tip over left and right to a tip, so that there are two ways over each two of them.
// Piece 0 comes to the first tip, the last piece goes on from the last one.
func diamonds(count int) impl.Net {
	n := impl.Net{Pieces: []impl.Piece{piece("d0", 10)}}
	for i := range count {
		in := 3 * i
		for k := 1; k <= 3; k++ {
			n.Pieces = append(n.Pieces, piece(fmt.Sprint("d", in+k), 10))
		}
		n.Joints = append(n.Joints,
			points(fmt.Sprint("w", i), end(in, 1), end(in+1, 0), end(in+2, 0)),
			points(fmt.Sprint("v", i), end(in+3, 0), end(in+1, 1), end(in+2, 1)))
	}
	n.Joints = append(n.Joints, buffer(end(0, 0)), buffer(end(3*count, 1)))
	return n
}

// longer puts pieces behind the last one of diamonds.
func longer(n impl.Net, pieces int) impl.Net {
	for range pieces {
		last := len(n.Pieces)
		n.Pieces = append(n.Pieces, piece(fmt.Sprint("d", last), 10))
		n.Joints[len(n.Joints)-1] = plain(end(last-1, 1), end(last, 0))
		n.Joints = append(n.Joints, buffer(end(last, 1)))
	}
	return n
}

// apart puts a piece of its own beside a net, and signals along it: each is one piece come to and one route.
func apart(n impl.Net, signals []impl.Signal, count int) (impl.Net, []impl.Signal) {
	last := len(n.Pieces)
	n.Pieces = append(n.Pieces, piece("apart", 1000))
	n.Joints = append(n.Joints, buffer(end(last, 0)), buffer(end(last, 1)))
	for i := range count {
		signals = append(signals, post(fmt.Sprint("x", i), last, 1+i, 1))
	}
	return n, signals
}

// wantCount asks for a number of routes, and for nothing when it is 0.
func wantCount(t *testing.T, what string, n impl.Net, signals []impl.Signal, want int) {
	t.Helper()
	needRight(t, what, n, signals)
	if got := len(routesOf(t, what, n, signals, 0)); got != want {
		t.Errorf("%s: %d routes, want %d", what, got, want)
	}
}

func TestTooManyRoutes(t *testing.T) {
	first := []impl.Signal{post("s", 0, 4, 1)}
	wantCount(t, "256", diamonds(8), first, 256)
	wantCount(t, "512", diamonds(9), first, 0)
	for _, c := range []struct{ more, want int }{{43, 299}, {44, impl.MaxRoutes}, {45, 0}, {46, 0}} {
		n, signals := apart(diamonds(8), first, c.more)
		wantCount(t, fmt.Sprint("256 and ", c.more), n, signals, c.want)
		signals = append(signals[1:], signals[0])
		wantCount(t, fmt.Sprint(c.more, " and 256"), n, signals, c.want)
	}
}

// From the first piece of 8 diamonds one comes to 1 piece, to 2 * 2 + 2 * 4 + .. + 2 * 256 more, and to 256 for each piece that is put behind.
const comeDiamonds = 1 + 1020

func TestTooManyPiecesComeTo(t *testing.T) {
	first := []impl.Signal{post("s", 0, 4, 1)}
	const behind, left = 74, 20000 - comeDiamonds - 74*256
	for _, c := range []struct{ more, want int }{{left - 1, 256 + left - 1}, {left, 256 + left}, {left + 1, 0}, {left + 2, 0}} {
		n, signals := apart(longer(diamonds(8), behind), first, c.more)
		wantCount(t, fmt.Sprint("all of them routes, ", c.more, " apart"), n, signals, c.want)
		signals = append(signals[1:], signals[0])
		wantCount(t, fmt.Sprint("all of them routes, ", c.more, " apart and ahead"), n, signals, c.want)
	}
}

// A loop at the end, from the left end of a switch to its right one: no route comes through it, yet the pieces are come to.
func TestPiecesOfRoutesThatAreNoneCount(t *testing.T) {
	first := []impl.Signal{post("s", 0, 4, 1)}
	const behind, left = 72, 20000 - comeDiamonds - 72*256 - 2*256
	looped := longer(diamonds(8), behind)
	last := len(looped.Pieces)
	looped.Pieces = append(looped.Pieces, piece("loop", 10))
	looped.Joints[len(looped.Joints)-1] = points("turn", end(last-1, 1), end(last, 0), end(last, 1))
	for _, c := range []struct{ more, want int }{{left - 1, left - 1}, {left, left}, {left + 1, 0}} {
		n, signals := apart(copyNet(looped), first, c.more)
		wantCount(t, fmt.Sprint("none of them a route, ", c.more, " apart"), n, signals, c.want)
	}
}

// A signal's own piece counts once for the signal, and once more when one comes back to it.
func TestOwnPiecesCount(t *testing.T) {
	first := []impl.Signal{post("s", 0, 4, 1)}
	const behind, left = 73, 20000 - comeDiamonds - 73*256 - 256
	ringed := longer(diamonds(8), behind)
	last := len(ringed.Joints) - 1
	ringed.Joints[last] = plain(ringed.Joints[last].Ends[0], end(0, 0))
	ringed.Joints = append(ringed.Joints[:16], ringed.Joints[17:]...)
	for _, c := range []struct{ more, want int }{{left, 256 + left}, {left + 1, 0}} {
		n, signals := apart(copyNet(ringed), first, c.more)
		wantCount(t, fmt.Sprint("back to the own signal, ", c.more, " apart"), n, signals, c.want)
	}
}

// More ways than one can go in a lifetime.
func TestVeryManyWaysAreAnswered(t *testing.T) {
	n := diamonds(33)
	wantCount(t, "to a buffer", n, []impl.Signal{post("s", 0, 4, 1)}, 0)
	var signals []impl.Signal
	for i := range impl.MaxSignals {
		signals = append(signals, post(fmt.Sprint("s", i), 0, 1+i%9, 1-2*(i/9%2)))
	}
	wantCount(t, "from several signals", n, signals[:18], 0)
	n.Joints = append(n.Joints[:len(n.Joints)-2], plain(end(0, 0), end(99, 1)))
	wantCount(t, "round", n, []impl.Signal{post("s", 0, 4, 1)}, 0)
}

func TestNothingForWrongArguments(t *testing.T) {
	wantNothing(t, "the zero value", impl.Net{}, nil, 0)
	wantNothing(t, "no net, but signals", impl.Net{}, posts(), 0)
	for what, spoil := range map[string]func(n *impl.Net){
		"a piece":    func(n *impl.Net) { n.Pieces[6].Len = 0 },
		"a kind":     func(n *impl.Net) { n.Joints[3].Kind = 7 },
		"ends":       func(n *impl.Net) { n.Joints[2].Ends = n.Joints[2].Ends[:2] },
		"far pieces": func(n *impl.Net) { n.Joints[2].Ends[1].Piece = 1 << 40 },
		"a name":     func(n *impl.Net) { n.Joints[3].Name = "w" },
		"no joints":  func(n *impl.Net) { n.Joints = nil },
		"a loose end": func(n *impl.Net) {
			n.Joints = n.Joints[:7]
		},
		"a double end": func(n *impl.Net) { n.Joints[7].Ends[0].Side = 0 },
	} {
		n := yard()
		spoil(&n)
		wantNothing(t, "wrong: "+what, n, posts(), 0)
	}
	for what, spoil := range map[string]func(s []impl.Signal) []impl.Signal{
		"a name":          func(s []impl.Signal) []impl.Signal { s[4].Name = "Q"; return s },
		"a double name":   func(s []impl.Signal) []impl.Signal { s[4].Name = "s"; return s },
		"a piece":         func(s []impl.Signal) []impl.Signal { s[4].Piece = 7; return s },
		"a Way":           func(s []impl.Signal) []impl.Signal { s[4].Way = 2; return s },
		"no Way":          func(s []impl.Signal) []impl.Signal { s[4].Way = 0; return s },
		"at an end":       func(s []impl.Signal) []impl.Signal { s[4].At = 700; return s },
		"beyond an end":   func(s []impl.Signal) []impl.Signal { s[4].At = -1; return s },
		"a double place":  func(s []impl.Signal) []impl.Signal { s[1].Way = -1; return s },
		"very many":       func(s []impl.Signal) []impl.Signal { return manySignals(impl.MaxSignals + 1) },
		"zero values":     func(s []impl.Signal) []impl.Signal { return make([]impl.Signal, 3) },
		"one of them all": func(s []impl.Signal) []impl.Signal { return append(s, impl.Signal{}) },
	} {
		wantNothing(t, "wrong signals: "+what, yard(), spoil(posts()), 0)
	}
	wantCount(t, "MaxSignals signals", yard(), manySignals(impl.MaxSignals), impl.MaxSignals+1)
	if len(impl.Routes(yard(), posts(), 0)) != 6 {
		t.Error("what was spoilt is right by itself")
	}
}
