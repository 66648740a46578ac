package tests

import (
	"math"
	"reflect"
	"slices"
	"testing"

	"loop.example/lockbar/impl"
)

// anyNumbers are of any size and sign; some of them part by what a set of bits could take for the same.
func anyNumbers() []int {
	return []int{math.MinInt, math.MinInt + 1, -1 << 32, -129, -128, -127, -65, -64, -2, -1, 0, 1, 2, 3, 31, 32, 63, 64, 65, 99, 119, 120,
		127, 128, 129, 130, 191, 192, 256, 257, 1 << 31, 1<<31 + 1, 1 << 32, 1<<32 + 1, 1 << 62, math.MaxInt - 128, math.MaxInt - 1, math.MaxInt}
}

func lies(pairs ...int) []impl.Lie {
	var all []impl.Lie
	for i := 0; i < len(pairs); i += 2 {
		all = append(all, impl.Lie{Joint: pairs[i], Lie: pairs[i+1]})
	}
	return all
}

func parts(triples ...int) []impl.Part {
	var all []impl.Part
	for i := 0; i < len(triples); i += 3 {
		all = append(all, impl.Part{Piece: triples[i], From: triples[i+1], To: triples[i+2]})
	}
	return all
}

// guards are flanks that are switches.
func guards(pairs ...int) []impl.Flank {
	var all []impl.Flank
	for _, l := range lies(pairs...) {
		all = append(all, impl.Flank{At: 77, Kind: impl.FSwitch, Of: l.Joint, Lie: l.Lie})
	}
	return all
}

func copyRoute(r impl.Route) impl.Route { return copyRoutes([]impl.Route{r})[0] }

func copyTable(table [][]int) [][]int {
	all := slices.Clone(table)
	for i := range all {
		all[i] = slices.Clone(all[i])
	}
	return all
}

// wantNeeds asks twice, and looks that the route stands as it stood.
func wantNeeds(t *testing.T, what string, r impl.Route, want ...int) {
	t.Helper()
	before := copyRoute(r)
	for range 2 {
		if got := impl.Needs(r); !slices.Equal(got, lies(want...)) {
			t.Errorf("%s: Needs is %v, want %v", what, got, lies(want...))
		}
	}
	if !reflect.DeepEqual(r, before) {
		t.Errorf("%s: Needs changed the route", what)
	}
}

// wantExclude asks twice, and the other way round, and looks that the routes stand as they stood.
func wantExclude(t *testing.T, what string, a, b impl.Route, want int) {
	t.Helper()
	before := copyRoutes([]impl.Route{a, b})
	for range 2 {
		if got := impl.Exclude(a, b); got != want {
			t.Errorf("%s: Exclude is %d, want %d", what, got, want)
		}
		if got := impl.Exclude(b, a); got != want {
			t.Errorf("%s: Exclude the other way round is %d, want %d", what, got, want)
		}
	}
	if !reflect.DeepEqual([]impl.Route{a, b}, before) {
		t.Errorf("%s: Exclude changed a route", what)
	}
}

// tableOf asks twice, and looks that the routes stand as they stood.
func tableOf(t *testing.T, what string, routes []impl.Route) [][]int {
	t.Helper()
	before := copyRoutes(routes)
	got := impl.Table(routes)
	if again := impl.Table(routes); !reflect.DeepEqual(got, again) {
		t.Errorf("%s: Table is %v, then %v", what, got, again)
	}
	if !reflect.DeepEqual(routes, before) {
		t.Errorf("%s: Table changed a route", what)
	}
	return got
}

// given is all that Check is asked about.
type given struct {
	net     impl.Net
	signals []impl.Signal
	over    int
	routes  []impl.Route
	table   [][]int
}

// givenOf takes the routes and the table from the program.
func givenOf(n impl.Net, signals []impl.Signal, over int) given {
	routes := impl.Routes(n, signals, over)
	return given{net: n, signals: signals, over: over, routes: routes, table: impl.Table(routes)}
}

func (g given) copied() given {
	return given{net: copyNet(g.net), signals: slices.Clone(g.signals), over: g.over, routes: copyRoutes(g.routes), table: copyTable(g.table)}
}

func (g given) check() impl.Wrong { return impl.Check(g.net, g.signals, g.over, g.routes, g.table) }

// wantCheck asks twice, and looks that the arguments stand as they stood.
func wantCheck(t *testing.T, what string, g given, code, a, b int) {
	t.Helper()
	before := g.copied()
	want := impl.Wrong{Code: code, A: a, B: b}
	for range 2 {
		if got := g.check(); got != want {
			t.Errorf("%s: Check is %v, want %v", what, got, want)
		}
	}
	if !reflect.DeepEqual(g, before) {
		t.Errorf("%s: Check changed an argument", what)
	}
}
