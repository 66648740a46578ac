package tests

import (
	"fmt"
	"slices"
	"strings"
	"testing"

	"loop.example/lockbar/impl"
)

func TestUnlistedForWrongArguments(t *testing.T) {
	wantUnlisted(t, "the zero value", given{})
	wantUnlisted(t, "the zero value and routes", given{routes: checked().routes})
	for what, spoil := range map[string]func(g *given){
		"no pieces":           func(g *given) { g.net.Pieces = nil },
		"a piece":             func(g *given) { g.net.Pieces[6].Len = 0 },
		"a piece's name":      func(g *given) { g.net.Pieces[6].Name = "a" },
		"a piece too many":    func(g *given) { g.net.Pieces = append(g.net.Pieces, piece("z", 9)) },
		"no joints":           func(g *given) { g.net.Joints = nil },
		"a kind":              func(g *given) { g.net.Joints[3].Kind = 7 },
		"another kind":        func(g *given) { g.net.Joints[2].Kind = impl.JCross },
		"ends":                func(g *given) { g.net.Joints[2].Ends = g.net.Joints[2].Ends[:2] },
		"far pieces":          func(g *given) { g.net.Joints[2].Ends[1].Piece = 1 << 40 },
		"a joint's name":      func(g *given) { g.net.Joints[2].Name = "" },
		"a double name":       func(g *given) { g.net.Joints[3].Name = "w" },
		"a loose end":         func(g *given) { g.net.Joints = g.net.Joints[:7] },
		"a double end":        func(g *given) { g.net.Joints[7].Ends[0].Side = 0 },
		"a signal's name":     func(g *given) { g.signals[4].Name = "Q" },
		"a signal's no name":  func(g *given) { g.signals[4].Name = "" },
		"a double signal":     func(g *given) { g.signals[4].Name = "s" },
		"a signal's piece":    func(g *given) { g.signals[4].Piece = 7 },
		"a signal's Way":      func(g *given) { g.signals[4].Way = 2 },
		"a signal at an end":  func(g *given) { g.signals[4].At = 700 },
		"a double place":      func(g *given) { g.signals = append(g.signals, post("t", 6, 350, 1)) },
		"too many signals":    func(g *given) { g.signals = append(g.signals, manySignals(impl.MaxSignals-4)...) },
		"a signal of nothing": func(g *given) { g.signals = append(g.signals, impl.Signal{}) },
	} {
		g := checked()
		spoil(&g)
		wantUnlisted(t, what, g)
		g.routes = g.routes[:1]
		wantUnlisted(t, what+", one route", g)
		g.routes = nil
		wantUnlisted(t, what+", no routes", g)
	}
}

func TestUnlistedForTooManyRoutes(t *testing.T) {
	lines := slices.Repeat([]int{0, 1, 2, 3, 4, 5}, impl.MaxRoutes/6)
	g := checked()
	all := slices.Repeat(g.routes, 200)
	g.routes = all[:impl.MaxRoutes]
	wantListing(t, "just MaxRoutes", g, numbered(yardLines(), lines...)...)
	wantAt(t, "just MaxRoutes", g, "q", make([]int, 8), 5)
	for _, count := range []int{impl.MaxRoutes + 1, impl.MaxRoutes + 2, len(all)} {
		g.routes = all[:count]
		wantUnlisted(t, fmt.Sprint(count, " routes"), g)
	}
	g.routes = make([]impl.Route, impl.MaxRoutes+1)
	wantUnlisted(t, "too many routes that are none", g)
}

// Each thing of a route changed by itself makes it none, wherever it stands among right ones.
func TestUnlistedForARouteThatIsNone(t *testing.T) {
	for i := range checked().routes {
		for _, s := range spoils() {
			if strings.Contains(s.what, "Over") {
				continue
			}
			what := fmt.Sprint(s.what, " of route ", i)
			g := checked()
			s.spoil(&g.routes[i])
			wantUnlisted(t, what, g)
			g.routes = append(checked().routes, g.routes[i])
			wantUnlisted(t, what+", behind the right ones", g)
			g.routes = g.routes[6:]
			wantUnlisted(t, what+", alone", g)
		}
	}
	for what, c := range map[string]struct {
		at    int
		empty func(r *impl.Route)
	}{
		"all":     {5, func(r *impl.Route) { *r = impl.Route{} }},
		"Steps":   {2, func(r *impl.Route) { r.Steps = nil }},
		"Lies":    {0, func(r *impl.Route) { r.Lies = nil }},
		"Crosses": {1, func(r *impl.Route) { r.Crosses = nil }},
		"Parts":   {3, func(r *impl.Route) { r.Parts = nil }},
		"Flanks":  {4, func(r *impl.Route) { r.Flanks = nil }},
	} {
		g := checked()
		c.empty(&g.routes[c.at])
		wantUnlisted(t, "nothing left of "+what, g)
	}
	g := checked()
	g.routes = []impl.Route{{}}
	wantUnlisted(t, "the zero value alone", g)
	g.signals = nil
	wantUnlisted(t, "the zero value, and no signals", g)
}

// Of several things in the order of a list, the order counts.
func TestUnlistedForAnotherOrderInARoute(t *testing.T) {
	n, signals := shared()
	for what, turn := range map[string]func(r *impl.Route){
		"Steps":  func(r *impl.Route) { slices.Reverse(r.Steps) },
		"Lies":   func(r *impl.Route) { slices.Reverse(r.Lies) },
		"Parts":  func(r *impl.Route) { slices.Reverse(r.Parts) },
		"Flanks": func(r *impl.Route) { slices.Reverse(r.Flanks) },
		"a Lie and a flank of another route": func(r *impl.Route) {
			r.Lies[0].Lie, r.Flanks[0].Lie = 3-r.Lies[0].Lie, 3-r.Flanks[0].Lie
		},
	} {
		g := givenOf(n, signals, 3)
		if g.listing(t, "as they stand") == "" {
			t.Fatal("the case itself is wrong")
		}
		turn(&g.routes[4])
		wantUnlisted(t, what, g)
	}
}

// numbersOf are all numbers of a route but those of its Over.
func numbersOf(r *impl.Route) []*int {
	all := []*int{&r.From, &r.To}
	for i := range r.Steps {
		all = append(all, &r.Steps[i].Piece, &r.Steps[i].Way)
	}
	for i := range r.Lies {
		all = append(all, &r.Lies[i].Joint, &r.Lies[i].Lie)
	}
	for i := range r.Crosses {
		all = append(all, &r.Crosses[i])
	}
	for i := range r.Parts {
		all = append(all, &r.Parts[i].Piece, &r.Parts[i].From, &r.Parts[i].To)
	}
	for i := range r.Flanks {
		all = append(all, &r.Flanks[i].At, &r.Flanks[i].Kind, &r.Flanks[i].Of, &r.Flanks[i].Lie)
	}
	return all
}

func TestUnlistedForAnyNumber(t *testing.T) {
	t.Parallel()
	for i := range checked().routes {
		for k := range numbersOf(&checked().routes[i]) {
			for _, v := range anyNumbers() {
				g := checked()
				number := numbersOf(&g.routes[i])[k]
				if *number == v {
					continue
				}
				*number = v
				wantUnlisted(t, fmt.Sprint("number ", k, " of route ", i, " is ", v), g)
			}
		}
	}
	for _, v := range anyNumbers() {
		g := checked()
		g.routes = append(g.routes, impl.Route{From: v, To: v, Steps: []impl.Step{{Piece: v, Way: v}}, Lies: lies(v, v), Crosses: []int{v},
			Parts: parts(v, v, v), Over: parts(v, v, v), Flanks: []impl.Flank{{At: v, Kind: v, Of: v, Lie: v}}})
		wantUnlisted(t, fmt.Sprint("nothing but ", v), g)
	}
}

// longRing has room for the signals of a yard.
func longRing(pieces int) impl.Net {
	n := ring(pieces)
	for i := range n.Pieces {
		n.Pieces[i].Len = 1000
	}
	return n
}

// A route is right beside its own track alone.
func TestUnlistedForRoutesOfAnotherTrack(t *testing.T) {
	for what, change := range map[string]func(g *given){
		"a longer piece":     func(g *given) { g.net.Pieces[5].Len++ },
		"left and right":     func(g *given) { e := g.net.Joints[2].Ends; e[1], e[2] = e[2], e[1] },
		"the joints' order":  func(g *given) { j := g.net.Joints; j[2], j[3] = j[3], j[2] },
		"a signal elsewhere": func(g *given) { g.signals[1].At-- },
		"a signal left out":  func(g *given) { g.signals = g.signals[:4] },
		"a signal more":      func(g *given) { g.signals = append(g.signals, post("t", 1, 50, 1)) },
		"the signals' order": func(g *given) { g.signals[3], g.signals[4] = g.signals[4], g.signals[3] },
		"no signals":         func(g *given) { g.signals = nil },
		"another net":        func(g *given) { g.net = longRing(7) },
		"the track of a fan": func(g *given) { *g = given{net: fan(), signals: []impl.Signal{post("s", 0, 3, 1)}, routes: g.routes} },
		"a route of the fan": func(g *given) {
			g.routes = append(g.routes, impl.Routes(fan(), []impl.Signal{post("s", 0, 3, 1)}, 0)...)
		},
		"a flank's signal":    func(g *given) { g.signals = append(g.signals, post("t", 3, 5, -1)) },
		"two crossed lengths": func(g *given) { p := g.net.Pieces; p[4].Len, p[5].Len = p[5].Len, p[4].Len },
	} {
		g := checked()
		change(&g)
		needRight(t, what, g.net, g.signals)
		wantUnlisted(t, what, g)
	}
	g := checked()
	g.net.Pieces[0].Name, g.net.Pieces[0].Speed, g.net.Pieces[0].Brake = "n", 1, 1
	g.net.Joints[2].Name, g.signals[0].Name = "v", "first"
	g.routes = g.routes[:1]
	wantListing(t, "other names and speeds are no other track for a route", g, "0 first -> x : n+ b+ c+ lies v< flanks y")
}

// Where Routes answers nothing, no route is one of them.
func TestUnlistedWhereThereAreNoRoutes(t *testing.T) {
	first := []impl.Signal{post("s", 0, 4, 1)}
	n, signals := apart(diamonds(8), first, 44)
	g := givenOf(n, signals, 7)
	g.routes = g.routes[:1]
	wantListing(t, "just MaxRoutes", g, strings.TrimSuffix(textOf(n, signals, g.routes), "\n"))
	g.net, g.signals = apart(diamonds(8), first, 45)
	wantCount(t, "one more", g.net, g.signals, 0)
	wantUnlisted(t, "the same route, but there are too many", g)
	g.routes = nil
	wantUnlisted(t, "too many, and none given", g)

	const behind, left = 74, 20000 - comeDiamonds - 74*256
	n, signals = apart(longer(diamonds(8), behind), first, left)
	g = givenOf(n, signals, 7)
	g.routes = g.routes[255:256]
	wantListing(t, "just 20000 pieces come to", g, strings.TrimSuffix(textOf(n, signals, g.routes), "\n"))
	g.net, g.signals = apart(longer(diamonds(8), behind), first, left+1)
	wantCount(t, "one more", g.net, g.signals, 0)
	wantUnlisted(t, "the same route, but too many pieces are come to", g)

	g = givenOf(balloon(), []impl.Signal{post("s", 0, 4, 1)}, 0)
	g.routes = impl.Routes(balloon(), []impl.Signal{post("s", 0, 4, 1), post("x", 1, 8, 1)}, 0)
	wantUnlisted(t, "signals from which there is no route", g)
}

// Whatever is changed in routes of small nets, they are listed just when each of them is driven.
func TestUnlistedOfSmallNets(t *testing.T) {
	t.Parallel()
	d := dice(5)
	listed, unlisted := 0, 0
	tried(func(n impl.Net, signals []impl.Signal) {
		routes := impl.Routes(n, signals, 3)
		if t.Failed() || len(routes) == 0 {
			return
		}
		right := tellAll(driven(n, signals, 0))
		i := d.throw(len(routes))
		numbers := numbersOf(&routes[i])
		*numbers[d.throw(len(numbers))] += d.throw(5) - 2
		want := ""
		if slices.Contains(right, tell(withoutOver(routes[i]))) {
			want = textOf(n, signals, routes[:i+1])
			listed++
		} else {
			unlisted++
		}
		if got := impl.Listing(n, signals, routes[:i+1]); got != want {
			t.Errorf("net %v\nsignals %v\nroutes %q: Listing is\n%s\nwant\n%s", n, signals, tellAll(routes[:i+1]), got, want)
		}
	})
	if listed < 1000 || unlisted < 1000 {
		t.Errorf("only %d listed, %d not", listed, unlisted)
	}
}

func withoutOver(r impl.Route) impl.Route {
	r.Over = nil
	return r
}
