package tests

import (
	"slices"
	"strings"
	"testing"

	"loop.example/lockbar/impl"
)

// wantFlanks looks at the route of signal 0 that needs the switches to lie so.
func wantFlanks(t *testing.T, what string, n impl.Net, signals []impl.Signal, lies, want string) {
	t.Helper()
	needRight(t, what, n, signals)
	for _, r := range routesOf(t, what, n, signals, 0) {
		if r.From == 0 && listOf(r.Lies, tellLie) == lies {
			if got := listOf(r.Flanks, tellFlank); got != want {
				t.Errorf("%s: %q, want %q", what, got, want)
			}
			return
		}
	}
	t.Errorf("%s: no such route", what)
}

func listOf[T any](list []T, one func(T) string) string {
	var words []string
	for _, v := range list {
		words = append(words, one(v))
	}
	return strings.Join(words, " ")
}

// side is a - w (left b, up to a buffer; right c), c - d over a plain joint, d - e over a crossing, then what is said.
//
// Joints: 0, 2 buffers, 1 the switch, 3 plain, 4 the crossing, 5 and 6 buffers of f and g, the other way over the crossing.
func side(last ...impl.Joint) impl.Net {
	return impl.Net{
		Pieces: []impl.Piece{piece("a", 10), piece("b", 20), piece("c", 30), piece("d", 40), piece("e", 50), piece("f", 60), piece("g", 70), piece("h", 80), piece("i", 90)},
		Joints: append([]impl.Joint{
			buffer(end(0, 0)),
			points("w", end(0, 1), end(1, 0), end(2, 0)),
			buffer(end(1, 1)),
			plain(end(2, 1), end(3, 1)),
			crossing("k", end(5, 0), end(6, 0), end(3, 0), end(4, 0)),
			buffer(end(5, 1)), buffer(end(6, 1)),
		}, last...),
	}
}

func TestFlankAtABuffer(t *testing.T) {
	n := side(buffer(end(4, 1)), plain(end(7, 0), end(7, 1)), buffer(end(8, 0)), buffer(end(8, 1)))
	s := []impl.Signal{post("s", 0, 4, 1)}
	wantFlanks(t, "beyond a plain joint and a crossing", n, s, "1<", "1=buffer:7")
	wantFlanks(t, "at the end of the piece", n, s, "1>", "1=buffer:2")
}

func TestFlankIsTheNearestSignal(t *testing.T) {
	n := side(buffer(end(4, 1)), plain(end(7, 0), end(7, 1)), buffer(end(8, 0)), buffer(end(8, 1)))
	for _, c := range []struct {
		what  string
		posts []impl.Signal
		want  string
	}{
		{"one on the piece", []impl.Signal{post("x", 2, 20, -1)}, "1=signal:1"},
		{"the nearest of three", []impl.Signal{post("x", 2, 20, -1), post("y", 2, 5, -1), post("z", 2, 25, -1)}, "1=signal:2"},
		{"one that looks away", []impl.Signal{post("x", 2, 20, 1)}, "1=buffer:7"},
		{"one that looks away is nearer", []impl.Signal{post("x", 2, 2, 1), post("y", 2, 20, -1)}, "1=signal:2"},
		{"one place, each its own way", []impl.Signal{post("x", 2, 2, 1), post("y", 2, 2, -1)}, "1=signal:2"},
		{"beyond a plain joint, the nearest is the farthest from end 0", []impl.Signal{post("x", 3, 5, 1), post("y", 3, 35, 1), post("z", 3, 20, 1)}, "1=signal:2"},
		{"beyond a plain joint, one that looks away", []impl.Signal{post("x", 3, 5, -1)}, "1=buffer:7"},
		{"beyond a crossing", []impl.Signal{post("x", 4, 45, -1), post("y", 4, 40, -1), post("z", 4, 30, 1)}, "1=signal:2"},
		{"the first piece that has one", []impl.Signal{post("x", 4, 45, -1), post("y", 3, 40-1, 1), post("z", 2, 29, 1)}, "1=signal:2"},
		{"those over the crossing the other way are none", []impl.Signal{post("x", 5, 45, -1), post("y", 6, 40, -1)}, "1=buffer:7"},
		{"those that the route itself drives past are none", []impl.Signal{post("x", 1, 5, -1), post("y", 0, 8, -1)}, "1=buffer:7"},
	} {
		wantFlanks(t, c.what, n, append([]impl.Signal{post("s", 0, 4, 1)}, c.posts...), "1<", c.want)
	}
	wantFlanks(t, "a route to the tip", n, []impl.Signal{post("s", 1, 4, -1), post("x", 2, 20, -1)}, "1<", "1=signal:1")
	wantFlanks(t, "the signal at which the route began", balloon(), []impl.Signal{post("s", 1, 8, -1), post("x", 1, 3, 1)}, "1<", "1=signal:1")

	round := impl.Net{
		Pieces: []impl.Piece{piece("a", 10), piece("b", 20)},
		Joints: []impl.Joint{points("w", end(0, 1), end(1, 0), end(0, 0)), buffer(end(1, 1))},
	}
	wantFlanks(t, "the ring's other signal", round, []impl.Signal{post("s", 0, 4, 1), post("x", 0, 7, -1), post("y", 0, 2, -1)}, "0<", "0=signal:2")
}

func TestFlanksOverATip(t *testing.T) {
	n := side(points("v", end(4, 1), end(7, 1), end(8, 0)), buffer(end(7, 0)), buffer(end(8, 1)))
	s := post("s", 0, 4, 1)
	wantFlanks(t, "both ends, left first", n, []impl.Signal{s}, "1<", "1=buffer:8 1=buffer:9")
	wantFlanks(t, "a signal at the left", n, []impl.Signal{s, post("x", 7, 30, 1)}, "1<", "1=signal:1 1=buffer:9")
	wantFlanks(t, "a signal at the right", n, []impl.Signal{s, post("x", 8, 30, -1)}, "1<", "1=buffer:8 1=signal:1")
	wantFlanks(t, "signals that look away", n, []impl.Signal{s, post("x", 7, 30, -1), post("y", 8, 30, 1)}, "1<", "1=buffer:8 1=buffer:9")
	wantFlanks(t, "a signal ahead of the tip", n, []impl.Signal{s, post("x", 7, 30, 1), post("y", 4, 30, -1)}, "1<", "1=signal:2")

	n.Joints[7].Ends[1], n.Joints[7].Ends[2] = n.Joints[7].Ends[2], n.Joints[7].Ends[1]
	wantFlanks(t, "left and right changed", n, []impl.Signal{s}, "1<", "1=buffer:9 1=buffer:8")

	wantFlanks(t, "all behind the left tip ahead of the right end", tree(), []impl.Signal{s}, "1<", "1=buffer:5 1=buffer:6 1=buffer:7")
}

// tree is a - w (left b, right c), c to the tip of v (left d, right e), d to the tip of u (left f, right g); buffers, 5 and 6 of f and g, 7 of e.
func tree() impl.Net {
	return impl.Net{
		Pieces: []impl.Piece{piece("a", 10), piece("b", 20), piece("c", 30), piece("d", 40), piece("e", 50), piece("f", 60), piece("g", 70)},
		Joints: []impl.Joint{
			buffer(end(0, 0)),
			points("w", end(0, 1), end(1, 0), end(2, 0)),
			points("v", end(2, 1), end(3, 0), end(4, 0)),
			points("u", end(3, 1), end(5, 0), end(6, 0)),
			buffer(end(1, 1)),
			buffer(end(5, 1)), buffer(end(6, 1)), buffer(end(4, 1)),
		},
	}
}

// shortcut goes from w on, b to v and on to u, and c straight to u.
func shortcut() impl.Net {
	return impl.Net{
		Pieces: []impl.Piece{piece("a", 10), piece("b", 20), piece("c", 30), piece("d", 40), piece("e", 50), piece("f", 60)},
		Joints: []impl.Joint{
			buffer(end(0, 0)),
			points("w", end(0, 1), end(1, 0), end(2, 0)),
			points("v", end(1, 1), end(3, 0), end(4, 0)),
			points("u", end(5, 0), end(3, 1), end(2, 1)),
			buffer(end(4, 1)), buffer(end(5, 1)),
		},
	}
}

// A switch that is not on the route has to lie away; one that the route needs may lie away as well, or be open.
func TestFlankIsASwitch(t *testing.T) {
	for place, want := range map[int]string{1: "1=switch:7>", 2: "1=switch:7<"} {
		ends := []impl.End{end(7, 0), end(4, 1), end(8, 0)}
		if place == 2 {
			slices.Reverse(ends[1:])
		}
		n := side(points("v", ends[0], ends[1], ends[2]), buffer(end(7, 1)), buffer(end(8, 1)))
		wantFlanks(t, "a switch that is not on the route", n, []impl.Signal{post("s", 0, 4, 1)}, "1<", want)
		wantFlanks(t, "a signal ahead of the switch", n, []impl.Signal{post("s", 0, 4, 1), post("x", 4, 3, -1)}, "1<", "1=signal:1")
		wantFlanks(t, "a signal beyond the switch is not looked at", n, []impl.Signal{post("s", 0, 4, 1), post("x", 7, 3, -1)}, "1<", want)
	}
	s := []impl.Signal{post("s", 0, 4, 1)}
	wantFlanks(t, "needed to lie to the other end, left", diamonds(1), s, "0< 1<", "0=switch:1< 1=switch:0<")
	wantFlanks(t, "needed to lie to the other end, right", diamonds(1), s, "0> 1>", "0=switch:1> 1=switch:0>")

	wantFlanks(t, "one that is needed and one that is not", shortcut(), s, "1< 2< 3<", "1=switch:3< 2=buffer:4 3=switch:1<")
	wantFlanks(t, "needed by another route alone", shortcut(), s, "1< 2>", "1=switch:3< 2=switch:3>")
}

func TestFlankIsOpen(t *testing.T) {
	wantFlanks(t, "the switch itself, from its right end", balloon(), []impl.Signal{post("s", 1, 8, 1)}, "1>", "1=open:1")
	wantFlanks(t, "the switch itself, from its left end", balloon(), []impl.Signal{post("s", 1, 8, -1)}, "1<", "1=open:1")

	// c goes from w's right end to v's left one, d from v's tip to w's: the route comes from c over v, then to w.
	n := impl.Net{
		Pieces: []impl.Piece{piece("c", 10), piece("d", 20), piece("b", 30), piece("e", 40)},
		Joints: []impl.Joint{
			points("v", end(1, 0), end(0, 1), end(3, 0)),
			points("w", end(1, 1), end(2, 0), end(0, 0)),
			buffer(end(2, 1)), buffer(end(3, 1)),
		},
	}
	s := post("s", 0, 4, 1)
	wantFlanks(t, "another switch of the route", n, []impl.Signal{s}, "0< 1<", "0=buffer:3 1=open:0")
	wantFlanks(t, "a signal ahead of it", n, []impl.Signal{s, post("x", 0, 7, -1)}, "0< 1<", "0=buffer:3 1=signal:1")
	wantFlanks(t, "the route does not look there", n, []impl.Signal{s}, "0< 1>", "0=buffer:3 1=buffer:2")
	wantFlanks(t, "another route, which needs it the other way", n, []impl.Signal{post("s", 3, 4, -1)}, "0> 1<", "0=switch:1< 1=switch:0>")
}

// rounded has a from v's right end to w's tip, b from w's left end to v's left end, c from w's right end to a buffer.
func rounded() impl.Net {
	return impl.Net{
		Pieces: []impl.Piece{piece("a", 10), piece("b", 20), piece("c", 30), piece("d", 40)},
		Joints: []impl.Joint{
			points("w", end(0, 1), end(1, 0), end(2, 0)),
			points("v", end(3, 0), end(1, 1), end(0, 0)),
			buffer(end(2, 1)), buffer(end(3, 1)),
		},
	}
}

func TestLookedFromOnce(t *testing.T) {
	ringed := impl.Net{
		Pieces: []impl.Piece{piece("a", 10), piece("b", 20), piece("c", 30)},
		Joints: []impl.Joint{points("w", end(0, 0), end(1, 0), end(2, 0)), plain(end(2, 1), end(0, 1)), buffer(end(1, 1))},
	}
	wantFlanks(t, "from the right end round to the tip", ringed, []impl.Signal{post("s", 0, 5, -1)}, "0<", "0=buffer:2")
	wantFlanks(t, "a signal round there", ringed, []impl.Signal{post("s", 0, 5, -1), post("x", 1, 3, -1)}, "0<", "0=signal:1")
	ringed.Joints[0].Ends[1], ringed.Joints[0].Ends[2] = ringed.Joints[0].Ends[2], ringed.Joints[0].Ends[1]
	wantFlanks(t, "from the left end round to the tip", ringed, []impl.Signal{post("s", 0, 5, -1)}, "0>", "0=buffer:2")

	wantFlanks(t, "what was looked from for one switch is looked from for the next", rounded(), []impl.Signal{post("s", 0, 5, 1)}, "0< 1<", "0=buffer:2 1=open:1 1=buffer:2")
}
