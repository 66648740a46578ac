package tests

import (
	"reflect"
	"slices"
	"testing"

	"loop.example/lockbar/impl"
)

// roomy is a list with something behind it that an append would write over.
func roomy[T any](list []T, behind T) []T {
	return append(slices.Clone(list), behind, behind, behind)[:len(list)]
}

func roomyRoute(r impl.Route) impl.Route {
	r.Steps = roomy(r.Steps, impl.Step{Piece: -7})
	r.Lies = roomy(r.Lies, impl.Lie{Joint: -7})
	r.Crosses = roomy(r.Crosses, -7)
	r.Parts = roomy(r.Parts, impl.Part{Piece: -7})
	r.Over = roomy(r.Over, impl.Part{Piece: -7})
	r.Flanks = roomy(r.Flanks, impl.Flank{At: -7})
	return r
}

// toTheEnd shows also what is behind the lists.
func toTheEnd(r impl.Route) impl.Route {
	r.Steps, r.Lies, r.Crosses = r.Steps[:cap(r.Steps)], r.Lies[:cap(r.Lies)], r.Crosses[:cap(r.Crosses)]
	r.Parts, r.Over, r.Flanks = r.Parts[:cap(r.Parts)], r.Over[:cap(r.Over)], r.Flanks[:cap(r.Flanks)]
	return r
}

func roomyRoutes(routes []impl.Route) []impl.Route {
	var all []impl.Route
	for _, r := range routes {
		all = append(all, roomyRoute(r))
	}
	return roomy(all, impl.Route{From: -7})
}

func allToTheEnd(routes []impl.Route) []impl.Route {
	var all []impl.Route
	for _, r := range routes[:cap(routes)] {
		all = append(all, toTheEnd(r))
	}
	return all
}

func TestNeedsShareNothing(t *testing.T) {
	for what, r := range map[string]impl.Route{
		"Lies alone":      {Lies: lies(4, 1, 2, 2)},
		"Flanks alone":    {Flanks: guards(4, 1, 2, 2)},
		"Lies and Flanks": {Lies: lies(4, 1, 2, 2), Flanks: guards(5, 1, 6, 2)},
		"nothing":         {},
	} {
		r = roomyRoute(r)
		before := copyRoute(toTheEnd(r))
		got := impl.Needs(r)
		kept := slices.Clone(got)
		if !reflect.DeepEqual(toTheEnd(r), before) {
			t.Errorf("%s: Needs wrote into the route, or behind it", what)
		}
		fill(impl.Needs(r), impl.Lie{Joint: -9, Lie: -9})
		if !reflect.DeepEqual(toTheEnd(r), before) || !slices.Equal(got, kept) {
			t.Errorf("%s: writing over an answer changes the route or another answer", what)
		}
		for _, spoil := range spoilers() {
			spoil(&r)
		}
		if !slices.Equal(got, kept) {
			t.Errorf("%s: writing over the route changes an answer", what)
		}
	}
}

func TestTableSharesNothing(t *testing.T) {
	routes := roomyRoutes(mixed())
	before := copyRoutes(allToTheEnd(routes))
	want := copyTable(impl.Table(routes))
	for i := range want {
		table := impl.Table(routes)
		fill(table[i], -9)
		for k := range want {
			if k != i && !slices.Equal(table[k], want[k]) {
				t.Errorf("writing over row %d changes row %d", i, k)
			}
		}
		if again := impl.Table(routes); !reflect.DeepEqual(again, want) {
			t.Errorf("writing over row %d changes the next answer", i)
		}
	}
	for i, a := range routes {
		for k, b := range routes {
			if got := impl.Exclude(a, b); got != want[i][k] {
				t.Errorf("%d and %d: %d, want %d", i, k, got, want[i][k])
			}
		}
	}
	if !reflect.DeepEqual(allToTheEnd(routes), before) {
		t.Error("a route was written into, or what is behind it")
	}
}

func TestCheckWritesNothing(t *testing.T) {
	g := checked()
	g.routes = roomyRoutes(g.routes)
	for i := range g.table {
		g.table[i] = roomy(g.table[i], -7)
	}
	g.table = roomy(g.table, []int{-7})
	routesBefore, tableBefore := copyRoutes(allToTheEnd(g.routes)), copyTable(rowsToTheEnd(g.table))
	wantCheck(t, "roomy lists", g, 0, 0, 0)
	if !reflect.DeepEqual(allToTheEnd(g.routes), routesBefore) || !reflect.DeepEqual(rowsToTheEnd(g.table), tableBefore) {
		t.Error("Check wrote into an argument, or behind it")
	}
}

func rowsToTheEnd(table [][]int) [][]int {
	var all [][]int
	for _, row := range table[:cap(table)] {
		all = append(all, row[:cap(row)])
	}
	return all
}

// Lists of one route that are the same memory, and routes that are the same, are arguments like others.
func TestRoutesThatShareMemory(t *testing.T) {
	same := parts(1, 0, 5, 2, 0, 5)
	a := impl.Route{Parts: same[:1], Over: same[1:]}
	b := impl.Route{Parts: same[1:], Over: same[:1]}
	wantExclude(t, "what is behind each is the other", a, b, 4)
	wantExclude(t, "one route", a, a, 1)
	all := []impl.Route{a, b, a}
	if got := impl.Table(all); !reflect.DeepEqual(got, [][]int{{1, 4, 1}, {4, 1, 4}, {1, 4, 1}}) {
		t.Error(got)
	}
	if !slices.Equal(same, parts(1, 0, 5, 2, 0, 5)) {
		t.Error("the list was changed")
	}
	g := checked()
	g.table[1] = g.table[0]
	wantCheck(t, "two rows that are the same memory", g, 7, 1, 2)
}
