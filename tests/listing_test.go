package tests

import (
	"fmt"
	"slices"
	"strings"
	"testing"

	"loop.example/lockbar/impl"
)

// yardLines are the lines of checked, without their numbers.
func yardLines() []string {
	return []string{
		"s -> x : a+ b+ c+ lies w< flanks y",
		"s -> buffer : a+ b+ d+ f+ lies w> flanks z",
		"x -> buffer : c+ e+",
		"y -> buffer : d- b- a- lies w> flanks z",
		"z -> buffer : c- b- a- lies w< flanks y",
		"q -> buffer : g+",
	}
}

// numbered puts lines in the order of some routes, with numbers from 0.
func numbered(lines []string, order ...int) []string {
	var all []string
	for i, k := range order {
		all = append(all, fmt.Sprint(i, " ", lines[k]))
	}
	return all
}

func TestListingOfAYard(t *testing.T) {
	wantListing(t, "signals and buffers, with Lies and without", checked(), numbered(yardLines(), 0, 1, 2, 3, 4, 5)...)
}

func TestListingOfRings(t *testing.T) {
	wantListing(t, "back to the own signal, both Ways", givenOf(ring(1), []impl.Signal{post("s", 0, 40, 1), post("x", 0, 30, -1)}, 0),
		"0 s -> s : p0+ p0+",
		"1 x -> x : p0- p0-")
	wantListing(t, "back to the own signal over three", givenOf(ring(3), []impl.Signal{post("s", 1, 40, 1)}, 0),
		"0 s -> s : p1+ p2+ p0+ p1+")
	wantListing(t, "both Ways in one route", givenOf(turnedRow(), []impl.Signal{post("s", 0, 4, -1), post("x", 2, 7, -1)}, 10),
		"0 s -> buffer : a- b- c+",
		"1 x -> buffer : c- b+ a+")
}

func TestListingOfLiesAndFlanks(t *testing.T) {
	s := []impl.Signal{post("s", 0, 4, 1)}
	wantListing(t, "buffers", givenOf(fan(), s, 9),
		"0 s -> buffer : a+ b+ lies w< flanks buffer buffer",
		"1 s -> buffer : a+ m+ c+ lies w> v< flanks buffer buffer",
		"2 s -> buffer : a+ m+ d+ lies w> v> flanks buffer buffer")
	wantListing(t, "signals", givenOf(fan(), []impl.Signal{post("d", 4, 1, -1), post("c", 3, 2, -1), post("b", 1, 3, -1), post("a", 0, 8, -1)}, 9),
		"0 d -> a : d- m- a- lies v> w> flanks c b",
		"1 c -> a : c- m- a- lies v< w> flanks d b",
		"2 b -> a : b- a- lies w< flanks c d",
		"3 a -> buffer : a-")
	wantListing(t, "switches", givenOf(diamonds(1), s, 0),
		"0 s -> buffer : d0+ d1+ d3+ lies w0< v0< flanks v0< w0<",
		"1 s -> buffer : d0+ d2+ d3+ lies w0> v0> flanks v0> w0>")
	wantListing(t, "open", givenOf(balloon(), []impl.Signal{post("s", 0, 4, 1), post("x", 1, 8, 1)}, 30),
		"0 s -> x : a+ b+ lies w< flanks x",
		"1 x -> buffer : b+ a- lies w> flanks open")
}

func TestListingOfFlanksOfSeveralKinds(t *testing.T) {
	wantListing(t, "buffers and what is open", givenOf(rounded(), []impl.Signal{post("s", 0, 5, 1)}, 0),
		"0 s -> buffer : a+ b+ d+ lies w< v< flanks buffer open buffer",
		"1 s -> buffer : a+ c+ lies w> flanks v>")

	wantListing(t, "signals and switches", givenOf(shortcut(), []impl.Signal{post("s", 0, 4, 1), post("x", 4, 30, -1)}, 0),
		"0 s -> buffer : a+ b+ d+ f+ lies w< v< u< flanks u< x w<",
		"1 s -> buffer : a+ b+ e+ lies w< v> flanks u< u>",
		"2 s -> buffer : a+ c+ f+ lies w> u> flanks u> x v>",
		"3 x -> buffer : e- b- a- lies v> w< flanks u> u<")
}

// What stands for a buffer and for what is open may be a name as well, and so may the headings.
func TestListingOfNamesLikeItsWords(t *testing.T) {
	n := balloon()
	long := strings.Repeat("9", impl.MaxName)
	n.Pieces[0].Name, n.Pieces[1].Name, n.Joints[1].Name = "lies", long, "flanks"
	wantListing(t, "words as names", givenOf(n, []impl.Signal{post("open", 0, 4, 1), post("buffer", 1, 8, 1)}, 30),
		"0 open -> buffer : lies+ "+long+"+ lies flanks< flanks buffer",
		"1 buffer -> buffer : "+long+"+ lies- lies flanks> flanks open")
	one := yard()
	one.Pieces[6].Name = "_"
	wantListing(t, "one sign", givenOf(one, []impl.Signal{post("0", 6, 3, 1)}, 0), "0 0 -> buffer : _+")
	wantListing(t, "one name for a signal, a piece and a switch", givenOf(fan(), []impl.Signal{post("w", 0, 4, -1), post("a", 1, 4, -1)}, 0),
		"0 w -> buffer : a-",
		"1 a -> w : b- a- lies w< flanks buffer buffer")
}

func TestListingOfManyRoutes(t *testing.T) {
	n, signals := apart(yard(), nil, 12)
	wantListing(t, "numbers of two digits", givenOf(n, signals, 0),
		"0 x0 -> x1 : apart+", "1 x1 -> x2 : apart+", "2 x2 -> x3 : apart+", "3 x3 -> x4 : apart+", "4 x4 -> x5 : apart+", "5 x5 -> x6 : apart+",
		"6 x6 -> x7 : apart+", "7 x7 -> x8 : apart+", "8 x8 -> x9 : apart+", "9 x9 -> x10 : apart+", "10 x10 -> x11 : apart+", "11 x11 -> buffer : apart+")

	n, signals = apart(diamonds(8), []impl.Signal{post("s", 0, 4, 1)}, 44)
	g := givenOf(n, signals, 7)
	lines := strings.Split(g.listing(t, "all that there may be"), "\n")
	if len(lines) != impl.MaxRoutes+1 || lines[299] != "299 x43 -> buffer : apart+" || lines[300] != "" {
		t.Fatalf("%d lines, the last two %q", len(lines)-1, lines[max(0, len(lines)-2):])
	}
	if want := textOf(n, signals, g.routes); strings.Join(lines, "\n") != want {
		t.Error("another text than that of each route")
	}
}

func TestListingOfSomeRoutes(t *testing.T) {
	for _, order := range [][]int{{5}, {1}, {0, 0}, {3, 3, 3}, {5, 4, 3, 2, 1, 0}, {4, 1, 4}, {0, 2, 4}, {2, 5, 2, 0, 0, 1, 2, 3, 4, 5, 1, 0}} {
		g := checked()
		all := g.routes
		g.routes = nil
		for _, k := range order {
			g.routes = append(g.routes, all[k])
		}
		wantListing(t, fmt.Sprint("routes ", order), g, numbered(yardLines(), order...)...)
	}
}

func TestListingOfNoRoutes(t *testing.T) {
	for what, routes := range map[string][]impl.Route{"nil": nil, "an empty list": {}} {
		g := checked()
		g.routes = routes
		wantListing(t, what, g)
		g.signals = nil
		wantListing(t, what+", and no signals", g)
	}
	wantListing(t, "signals, but no route", givenOf(balloon(), []impl.Signal{post("s", 0, 4, 1)}, 0))
}

// How far is looked behind a signal is not told, so any over has the same listing, and what stands in Over is not looked at.
func TestListingDoesNotLookAtOver(t *testing.T) {
	want := numbered(yardLines(), 0, 1, 2, 3, 4, 5)
	for _, over := range []int{0, 1, 9, 10, 11, impl.MaxOver} {
		wantListing(t, fmt.Sprint("over ", over), givenOf(yard(), posts(), over), want...)
	}
	for _, v := range anyNumbers() {
		for i := range want {
			g := checked()
			g.routes[i].Over = parts(v, v, v, v, -v, v)
			wantListing(t, fmt.Sprint("Over of ", v, " in route ", i), g, want...)
		}
	}
	g := checked()
	g.routes[0].Over = nil
	wantListing(t, "no Over", g, want...)
	g.routes[0].Over = make([]impl.Part, 100000)
	wantListing(t, "a long Over", g, want...)
	g.routes[0] = impl.Routes(yard(), posts(), 7)[0]
	g.routes[3] = impl.Routes(yard(), posts(), 0)[3]
	wantListing(t, "routes of several overs", g, want...)

	n, signals := apart(yard(), posts(), 3)
	for i := range signals {
		signals[i].Name = fmt.Sprint("t", i)
	}
	far, near := givenOf(n, signals, 1000), givenOf(n, signals, 3)
	if slices.Equal(tellAll(far.routes), tellAll(near.routes)) {
		t.Error("the case itself is wrong: over makes no difference")
	}
	if a, b := far.listing(t, "far"), near.listing(t, "near"); a != b || a == "" {
		t.Errorf("%q, but %q", a, b)
	}
}

func TestListingOfEmptyListsInPlaceOfNil(t *testing.T) {
	g := checked()
	for i := range g.routes {
		fillEmpty(&g.routes[i])
	}
	wantListing(t, "empty lists", g, numbered(yardLines(), 0, 1, 2, 3, 4, 5)...)
}

// Each line is that of its route, whichever routes are given and in which order.
func TestListingOfSmallNets(t *testing.T) {
	t.Parallel()
	d := dice(11)
	lines := 0
	tried(func(n impl.Net, signals []impl.Signal) {
		if t.Failed() {
			return
		}
		right := driven(n, signals, 0)
		if got, want := impl.Listing(n, signals, right), textOf(n, signals, right); got != want {
			t.Errorf("net %v\nsignals %v: Listing is\n%s\nwant\n%s", n, signals, got, want)
		}
		if len(right) == 0 {
			return
		}
		some := make([]impl.Route, d.throw(2*len(right)+1))
		for i := range some {
			some[i] = right[d.throw(len(right))]
		}
		got, want := impl.Listing(n, signals, some), textOf(n, signals, some)
		if got != want {
			t.Errorf("net %v\nsignals %v: Listing of %q is\n%s\nwant\n%s", n, signals, tellAll(some), got, want)
		}
		lines += len(some)
	})
	if lines < 10000 {
		t.Errorf("only %d lines", lines)
	}
}
