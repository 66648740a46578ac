package tests

import (
	"fmt"
	"testing"

	"loop.example/lockbar/impl"
)

// checked is a yard with its routes: in each of their lists at least one of them has something.
func checked() given { return givenOf(yard(), posts(), 20) }

func TestCheckFindsNothing(t *testing.T) {
	wantCheck(t, "a yard", checked(), 0, 0, 0)
	wantCheck(t, "no signals", givenOf(yard(), nil, 0), 0, 0, 0)
	wantCheck(t, "no signals, but empty lists", given{net: yard(), signals: []impl.Signal{}, routes: []impl.Route{}, table: [][]int{}}, 0, 0, 0)
	wantCheck(t, "signals, but no route", givenOf(balloon(), []impl.Signal{post("s", 0, 4, 1)}, 0), 0, 0, 0)
	n, signals := shared()
	wantCheck(t, "routes that go together for long", givenOf(n, signals, 3), 0, 0, 0)

	empty := checked()
	for i := range empty.routes {
		fillEmpty(&empty.routes[i])
	}
	wantCheck(t, "empty lists in place of nil", empty, 0, 0, 0)
}

// fillEmpty makes lists that are not nil of those that are.
func fillEmpty(r *impl.Route) {
	r.Steps = append([]impl.Step{}, r.Steps...)
	r.Lies = append([]impl.Lie{}, r.Lies...)
	r.Crosses = append([]int{}, r.Crosses...)
	r.Parts = append([]impl.Part{}, r.Parts...)
	r.Over = append([]impl.Part{}, r.Over...)
	r.Flanks = append([]impl.Flank{}, r.Flanks...)
}

func TestCheckSignalsThatAreNotRight(t *testing.T) {
	wantCheck(t, "the zero value", given{}, 1, 0, 0)
	for what, spoil := range map[string]func(g *given){
		"no pieces":           func(g *given) { g.net.Pieces = nil },
		"a piece":             func(g *given) { g.net.Pieces[3].Len = 0 },
		"a joint":             func(g *given) { g.net.Joints[3].Kind = 7 },
		"a joint's name":      func(g *given) { g.net.Joints[3].Name = "" },
		"an end":              func(g *given) { g.net.Joints = g.net.Joints[:7] },
		"too many signals":    func(g *given) { g.signals = manySignals(impl.MaxSignals + 1) },
		"a signal's name":     func(g *given) { g.signals[4].Name = "A" },
		"a signal's piece":    func(g *given) { g.signals[4].Piece = 7 },
		"a signal at an end":  func(g *given) { g.signals[4].At = 700 },
		"a double signal":     func(g *given) { g.signals[4].Name = "s" },
		"over below its end":  func(g *given) { g.over = -1 },
		"over above its end":  func(g *given) { g.over = impl.MaxOver + 1 },
		"over and the pieces": func(g *given) { g.over, g.net.Pieces = -1, nil },
	} {
		g := checked()
		spoil(&g)
		wantCheck(t, what, g, 1, 0, 0)
		g.routes[2].From, g.table[1][3] = 9, 9
		wantCheck(t, what+", and a route and a place", g, 1, 0, 0)
		g.routes, g.table = nil, nil
		wantCheck(t, what+", no routes", g, 1, 0, 0)
		g.table = [][]int{{1}}
		wantCheck(t, what+", a table alone", g, 1, 0, 0)
	}
	for _, over := range outside(0, impl.MaxOver) {
		g := checked()
		g.over = over
		wantCheck(t, fmt.Sprint("over ", over), g, 1, 0, 0)
	}
}

func TestCheckAtTheLimitsOfOver(t *testing.T) {
	for _, over := range []int{0, 1, impl.MaxOver - 1, impl.MaxOver} {
		wantCheck(t, fmt.Sprint("over ", over), givenOf(yard(), posts(), over), 0, 0, 0)
	}
	g := checked()
	g.over = 0
	wantCheck(t, "the routes of another over", g, 5, 0, 0)
	g.over = 10
	wantCheck(t, "another over, but a joint ends both", g, 0, 0, 0)
	g.over = 9
	wantCheck(t, "just ahead of the joint", g, 5, 0, 0)
	n, signals := apart(yard(), posts(), 2)
	g = givenOf(n, signals, 20)
	g.over = 1000
	wantCheck(t, "another over, in a late route alone", g, 5, 6, 0)
}

// spoilt is a change of a route, and the Code by which it is found.
type spoilt struct {
	what  string
	code  int
	spoil func(r *impl.Route)
}

func spoils() []spoilt {
	return []spoilt{
		{"From", 3, func(r *impl.Route) { r.From++ }},
		{"To", 3, func(r *impl.Route) { r.To -= 7 }},
		{"a Step too many", 3, func(r *impl.Route) { r.Steps = append(r.Steps, impl.Step{Piece: 1, Way: 1}) }},
		{"a Step too few", 3, func(r *impl.Route) { r.Steps = r.Steps[:len(r.Steps)-1] }},
		{"the first Step's Way", 3, func(r *impl.Route) { r.Steps[0].Way *= -1 }},
		{"the last Step's Piece", 3, func(r *impl.Route) { r.Steps[len(r.Steps)-1].Piece++ }},
		{"no Steps", 3, func(r *impl.Route) { r.Steps = nil }},
		{"a Lie too many", 4, func(r *impl.Route) { r.Lies = append(r.Lies, impl.Lie{}) }},
		{"another Lie", 4, func(r *impl.Route) { r.Lies = append(lies(2, 0), r.Lies[min(1, len(r.Lies)):]...) }},
		{"a Lie's Joint", 4, func(r *impl.Route) { r.Lies = append(lies(-2, 1), r.Lies[min(1, len(r.Lies)):]...) }},
		{"a crossing too many", 4, func(r *impl.Route) { r.Crosses = append(r.Crosses, 3) }},
		{"another crossing", 4, func(r *impl.Route) { r.Crosses = []int{7} }},
		{"a Part too many", 5, func(r *impl.Route) { r.Parts = append(r.Parts, r.Parts[0]) }},
		{"a Part too few", 5, func(r *impl.Route) { r.Parts = r.Parts[1:] }},
		{"a Part's From", 5, func(r *impl.Route) { r.Parts[len(r.Parts)-1].From++ }},
		{"a Part's To", 5, func(r *impl.Route) { r.Parts[0].To-- }},
		{"a Part's Piece", 5, func(r *impl.Route) { r.Parts[0].Piece++ }},
		{"Over too long", 5, func(r *impl.Route) { r.Over = append(r.Over, impl.Part{}) }},
		{"another Over", 5, func(r *impl.Route) { r.Over = parts(2, 290, 299) }},
		{"a flank too many", 6, func(r *impl.Route) { r.Flanks = append(r.Flanks, impl.Flank{}) }},
		{"another flank's At", 6, func(r *impl.Route) { r.Flanks = []impl.Flank{{At: 9, Kind: impl.FSignal, Of: 2}} }},
		{"another flank's Kind", 6, func(r *impl.Route) { r.Flanks = []impl.Flank{{At: 2, Kind: impl.FBuffer, Of: 2}} }},
		{"another flank's Of", 6, func(r *impl.Route) { r.Flanks = []impl.Flank{{At: 2, Kind: impl.FSignal, Of: 9}} }},
		{"another flank's Lie", 6, func(r *impl.Route) { r.Flanks = []impl.Flank{{At: 2, Kind: impl.FSignal, Of: 2, Lie: 1}} }},
	}
}

func TestCheckFindsEachThingOfARoute(t *testing.T) {
	for i := range checked().routes {
		for _, s := range spoils() {
			g := checked()
			s.spoil(&g.routes[i])
			wantCheck(t, fmt.Sprint(s.what, " of route ", i), g, s.code, i, 0)
			g.table = impl.Table(g.routes)
			wantCheck(t, fmt.Sprint(s.what, " of route ", i, ", and the table of that"), g, s.code, i, 0)
			g.table = nil
			wantCheck(t, fmt.Sprint(s.what, " of route ", i, ", and no table"), g, s.code, i, 0)
		}
	}
	for _, c := range []struct {
		code, at int
		empty    func(r *impl.Route)
	}{
		{3, 5, func(r *impl.Route) { *r = impl.Route{} }},
		{4, 0, func(r *impl.Route) { r.Lies = nil }},
		{4, 1, func(r *impl.Route) { r.Crosses = nil }},
		{5, 0, func(r *impl.Route) { r.Over = nil }},
		{6, 4, func(r *impl.Route) { r.Flanks = nil }},
	} {
		g := checked()
		c.empty(&g.routes[c.at])
		wantCheck(t, fmt.Sprint("nothing left, to be found by ", c.code, " in route ", c.at), g, c.code, c.at, 0)
	}
}

// In one route the first Code is told, of two routes the first route.
func TestCheckFindsTheFirstThing(t *testing.T) {
	for _, s := range spoils() {
		for _, o := range spoils() {
			what := s.what + " and " + o.what
			if s.code != o.code {
				g := checked()
				s.spoil(&g.routes[1])
				o.spoil(&g.routes[1])
				wantCheck(t, what, g, min(s.code, o.code), 1, 0)
			}
			g := checked()
			o.spoil(&g.routes[4])
			s.spoil(&g.routes[2])
			wantCheck(t, what+" of a later one", g, s.code, 2, 0)
			g.routes = g.routes[:5]
			wantCheck(t, what+" of a later one, and a route too few", g, s.code, 2, 0)
			g.routes = append(g.routes, impl.Route{}, impl.Route{})
			wantCheck(t, what+" of a later one, and routes too many", g, s.code, 2, 0)
		}
	}
}

func TestCheckNumberOfRoutes(t *testing.T) {
	all := len(checked().routes)
	for count := range all {
		g := checked()
		g.routes = g.routes[:count]
		wantCheck(t, fmt.Sprint(count, " routes"), g, 2, count, 0)
		g.table = impl.Table(g.routes)
		wantCheck(t, fmt.Sprint(count, " routes and their table"), g, 2, count, 0)
	}
	for _, more := range []int{1, 2, impl.MaxRoutes, 3 * impl.MaxRoutes} {
		g := checked()
		g.routes = append(g.routes, make([]impl.Route, more)...)
		wantCheck(t, fmt.Sprint(more, " routes too many"), g, 2, all, 0)
		g.table = impl.Table(g.routes)
		wantCheck(t, fmt.Sprint(more, " routes too many and their table"), g, 2, all, 0)
	}
	g := checked()
	g.routes = append(g.routes[:2], g.routes[3:]...)
	wantCheck(t, "one left out: the next one stands in its place", g, 3, 2, 0)
	g = checked()
	g.routes[1], g.routes[2] = g.routes[2], g.routes[1]
	wantCheck(t, "two that have changed places", g, 3, 1, 0)
	g = givenOf(yard(), nil, 0)
	g.routes = make([]impl.Route, 1)
	wantCheck(t, "one where there is none", g, 2, 0, 0)
}

func TestCheckFindsEachPlaceOfATable(t *testing.T) {
	for i, row := range checked().table {
		for k := range row {
			for _, by := range []int{1, -1, 128, 1 << 32} {
				g := checked()
				g.table[i][k] += by
				wantCheck(t, fmt.Sprint("place ", i, ", ", k), g, 7, i, k)
			}
		}
	}
	g := checked()
	g.table[0][1], g.table[1][0] = 0, 0
	wantCheck(t, "both ways round", g, 7, 0, 1)
	g = checked()
	g.table[3][5], g.table[3][2], g.table[4][0] = 9, 9, 9
	wantCheck(t, "the first of a row", g, 7, 3, 2)
	g = checked()
	g.table[5][0], g.table[2][5] = 9, 9
	wantCheck(t, "the first row", g, 7, 2, 5)
	for i := range g.table {
		fill(g.table[i], 9)
	}
	wantCheck(t, "all of it", g, 7, 0, 0)
}

func TestCheckNumberOfRows(t *testing.T) {
	all := len(checked().table)
	for _, rows := range []int{0, 1, all - 1, all + 1, all + 2, 1000} {
		g := checked()
		g.table = append(g.table, make([][]int, 1000)...)[:rows]
		wantCheck(t, fmt.Sprint(rows, " rows"), g, 7, rows, 0)
		if rows > 1 {
			g.table[0][1], g.table[1] = 9, nil
			wantCheck(t, fmt.Sprint(rows, " rows, and what is in them"), g, 7, rows, 0)
		}
	}
	g := checked()
	g.table = nil
	wantCheck(t, "no table", g, 7, 0, 0)
	g = givenOf(yard(), nil, 0)
	g.table = [][]int{nil}
	wantCheck(t, "a row where there is none", g, 7, 1, 0)
	g.table = [][]int{{1}, {1}}
	wantCheck(t, "rows where there are none", g, 7, 2, 0)
}

func TestCheckLengthOfARow(t *testing.T) {
	all := len(checked().table)
	for i := range all {
		for _, length := range []int{0, 1, all - 1, all + 1, all + 2, 1000} {
			what := fmt.Sprint("row ", i, " of ", length)
			g := checked()
			g.table[i] = append(g.table[i], make([]int, 1000)...)[:length]
			wantCheck(t, what, g, 7, i, length)
			if length > 0 {
				g.table[i][0] = 9
				wantCheck(t, what+", and what is in it", g, 7, i, length)
			}
			if i < all-1 {
				g.table[all-1][3] = 9
				wantCheck(t, what+", and a place behind it", g, 7, i, length)
			}
			if i > 0 {
				g.table[i-1][3] = 9
				wantCheck(t, what+", and a place ahead of it", g, 7, i-1, 3)
			}
		}
	}
	g := checked()
	g.table[2], g.table[4] = nil, nil
	wantCheck(t, "two rows", g, 7, 2, 0)
}

func TestCheckAtTheLimitOfRoutes(t *testing.T) {
	first := []impl.Signal{post("s", 0, 4, 1)}
	n, signals := apart(diamonds(8), first, 44)
	g := givenOf(n, signals, 7)
	if len(g.routes) != impl.MaxRoutes {
		t.Fatalf("%d routes", len(g.routes))
	}
	wantCheck(t, "MaxRoutes", g, 0, 0, 0)
	g.table[299][298]++
	wantCheck(t, "MaxRoutes, a late place", g, 7, 299, 298)
	g.routes = append(g.routes, g.routes[299])
	wantCheck(t, "MaxRoutes and one more", g, 2, impl.MaxRoutes, 0)

	n, signals = apart(diamonds(8), first, 45)
	many := givenOf(n, signals, 7)
	wantCheck(t, "too many, so that there is nothing", many, 0, 0, 0)
	many.table = g.table
	wantCheck(t, "nothing, and a table", many, 7, impl.MaxRoutes, 0)
	many.routes = g.routes
	wantCheck(t, "nothing, and routes", many, 2, 0, 0)
}

// What the program answers has nothing wrong, and whatever is changed is found there.
func TestCheckOfSmallNets(t *testing.T) {
	t.Parallel()
	d := dice(7)
	changed := 0
	tried(func(n impl.Net, signals []impl.Signal) {
		if t.Failed() {
			return
		}
		g := givenOf(n, signals, d.throw(9))
		if got := g.check(); got != (impl.Wrong{}) {
			t.Errorf("net %v\nsignals %v: %v", n, signals, got)
		}
		if len(g.routes) == 0 {
			return
		}
		changed++
		i, k := d.throw(len(g.table)), d.throw(len(g.table))
		g.table[i][k] = (g.table[i][k] + 1 + d.throw(4)) % 5
		if got, want := g.check(), (impl.Wrong{Code: 7, A: i, B: k}); got != want {
			t.Errorf("net %v\nsignals %v: a place changed: %v, want %v", n, signals, got, want)
		}
		s := spoils()[d.throw(7)]
		s.spoil(&g.routes[k])
		if got, want := g.check(), (impl.Wrong{Code: s.code, A: k}); got != want {
			t.Errorf("net %v\nsignals %v: %s changed: %v, want %v", n, signals, s.what, got, want)
		}
		g.routes = g.routes[:k]
		if got, want := g.check(), (impl.Wrong{Code: 2, A: k}); got != want {
			t.Errorf("net %v\nsignals %v: routes cut off: %v, want %v", n, signals, got, want)
		}
	})
	if changed < 1000 {
		t.Errorf("only %d", changed)
	}
}
