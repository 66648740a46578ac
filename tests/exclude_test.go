package tests

import (
	"fmt"
	"math"
	"testing"

	"loop.example/lockbar/impl"
)

func TestExcludeNothing(t *testing.T) {
	full := impl.Route{From: 1, To: 2, Steps: []impl.Step{{Piece: 3, Way: 1}}, Lies: lies(4, 1), Crosses: []int{5}, Parts: parts(6, 0, 9), Over: parts(7, 0, 9), Flanks: guards(8, 2)}
	wantExclude(t, "zero values", impl.Route{}, impl.Route{}, 0)
	wantExclude(t, "the zero value and another one", impl.Route{}, full, 0)
	wantExclude(t, "a route and itself", full, full, 1)
	other := impl.Route{From: 1, To: 2, Steps: []impl.Step{{Piece: 3, Way: 1}}, Lies: lies(8, 2), Crosses: []int{4, 6, 7, 8}, Parts: parts(4, 0, 9, 5, 0, 9, 8, 0, 9), Over: parts(7, 0, 9), Flanks: guards(4, 1)}
	wantExclude(t, "From, To, Steps and Over alike, one switch in one way", full, other, 0)
}

func onParts(triples ...int) impl.Route { return impl.Route{Parts: parts(triples...)} }

func behind(triples ...int) impl.Route { return impl.Route{Over: parts(triples...)} }

// touching are two parts, and whether they have a place in common.
type touching struct {
	what   string
	a, b   []impl.Part
	common bool
}

func touchings() []touching {
	least, most := math.MinInt, math.MaxInt
	return []touching{
		{"alike", parts(3, 5, 9), parts(3, 5, 9), true},
		{"one in the other", parts(3, 0, 20), parts(3, 5, 9), true},
		{"one half over the other", parts(3, 0, 7), parts(3, 5, 9), true},
		{"an end in common", parts(3, 0, 5), parts(3, 5, 9), true},
		{"missed by one", parts(3, 0, 4), parts(3, 5, 9), false},
		{"missed by much", parts(3, 0, 4), parts(3, 500, 900), false},
		{"on two pieces", parts(3, 0, 9), parts(4, 0, 9), false},
		{"on two pieces, at the ends that meet", parts(3, 0, 10), parts(4, 0, 10), false},
		{"places, the same", parts(3, 5, 5), parts(3, 5, 5), true},
		{"places, side by side", parts(3, 5, 5), parts(3, 6, 6), false},
		{"a place at the end", parts(3, 5, 5), parts(3, 5, 9), true},
		{"a place behind the end", parts(3, 10, 10), parts(3, 5, 9), false},
		{"zeros", parts(0, 0, 0), parts(0, 0, 0), true},
		{"From above To, in the other", parts(3, 8, 6), parts(3, 0, 20), true},
		{"From above To, just in the other", parts(3, 9, 5), parts(3, 5, 9), true},
		{"From above To, out by one at its From", parts(3, 10, 5), parts(3, 5, 9), false},
		{"From above To, out by one at its To", parts(3, 9, 4), parts(3, 5, 9), false},
		{"From above To, in both", parts(3, 8, 6), parts(3, 8, 6), false},
		{"From above To, in both, next to each other", parts(3, 8, 6), parts(3, 6, 8), true},
		{"From above To by one, with a place", parts(3, 6, 5), parts(3, 5, 5), false},
		{"below zero", parts(3, -9, -5), parts(3, -5, -1), true},
		{"below zero, missed", parts(3, -9, -6), parts(3, -5, -1), false},
		{"all there is", parts(3, least, most), parts(3, least, most), true},
		{"all there is, and its ends", parts(3, least, most), parts(3, most, most), true},
		{"all there is, and its other end", parts(3, least, most), parts(3, least, least), true},
		{"the ends of all there is", parts(3, least, least), parts(3, most, most), false},
		{"far apart", parts(3, least, least+1), parts(3, most-1, most), false},
		{"all there is, From above To", parts(3, most, least), parts(3, least, most), true},
		{"all there is, From above To, in both", parts(3, most, least), parts(3, most, least), false},
		{"pieces below zero", parts(-3, 0, 9), parts(-3, 9, 12), true},
		{"pieces with another sign", parts(-3, 0, 9), parts(3, 0, 9), false},
		{"the last of many", parts(1, 0, 5, 2, 0, 5, 3, 0, 5), parts(4, 0, 5, 1, 6, 9, 3, 5, 9), true},
		{"the first of many", parts(1, 0, 5, 2, 0, 5, 3, 0, 5), parts(1, 5, 9, 4, 0, 5, 3, 6, 9), true},
		{"none of many", parts(1, 0, 5, 2, 0, 5, 3, 0, 5), parts(1, 6, 9, 4, 0, 5, 3, 6, 9, 2, 7, 7), false},
		{"again on the same piece", parts(1, 0, 5, 1, 20, 30), parts(1, 6, 19), false},
		{"again on the same piece, the second part", parts(1, 0, 5, 1, 19, 30), parts(1, 6, 19), true},
		{"nothing", nil, parts(1, 6, 19), false},
	}
}

func TestExcludeByParts(t *testing.T) {
	for _, c := range touchings() {
		wantExclude(t, c.what, impl.Route{Parts: c.a}, impl.Route{Parts: c.b}, common(c.common, 1))
	}
}

func TestExcludeByWhatIsOver(t *testing.T) {
	for _, c := range touchings() {
		wantExclude(t, c.what, impl.Route{Over: c.a}, impl.Route{Parts: c.b}, common(c.common, 4))
		wantExclude(t, c.what+", the other one's", impl.Route{Parts: c.a}, impl.Route{Over: c.b}, common(c.common, 4))
		wantExclude(t, c.what+", behind both", impl.Route{Over: c.a}, impl.Route{Over: c.b}, 0)
		both := impl.Route{Parts: parts(90, 1, 2), Over: c.a}
		wantExclude(t, c.what+", and parts apart", both, impl.Route{Parts: c.b, Over: c.b}, common(c.common, 4))
	}
	self := impl.Route{Parts: parts(1, 0, 5), Over: parts(1, 5, 9)}
	wantExclude(t, "the Over of a route in its own part is nothing to another one", self, onParts(2, 0, 9), 0)
	wantExclude(t, "what is behind each one in the other one", impl.Route{Parts: parts(1, 0, 5), Over: parts(2, 0, 5)}, impl.Route{Parts: parts(2, 5, 9), Over: parts(1, 5, 9)}, 4)
}

func common(is bool, reason int) int {
	if is {
		return reason
	}
	return 0
}

func TestExcludeByCrossings(t *testing.T) {
	cross := func(numbers ...int) impl.Route { return impl.Route{Crosses: numbers} }
	wantExclude(t, "one", cross(3), cross(3), 2)
	wantExclude(t, "none", cross(3), cross(4), 0)
	wantExclude(t, "zero", cross(0), cross(0), 2)
	wantExclude(t, "zero and none", cross(0), cross(), 0)
	wantExclude(t, "the last of many", cross(1, 2, 3), cross(4, 5, 3), 2)
	wantExclude(t, "the first of many", cross(1, 2, 3), cross(1, 5, 6), 2)
	wantExclude(t, "none of many", cross(1, 2, 3, 2), cross(4, 5, 6, 6), 0)
	wantExclude(t, "twice by one route", cross(3, 3), cross(4), 0)
	wantExclude(t, "a switch, a piece and a flank with its number", cross(3), impl.Route{Lies: lies(3, 1), Parts: parts(3, 0, 9), Over: parts(3, 0, 9), Flanks: guards(3, 2)}, 0)
}

func TestExcludeBySwitches(t *testing.T) {
	by := func(pairs ...int) impl.Route { return impl.Route{Lies: lies(pairs...)} }
	aside := func(pairs ...int) impl.Route { return impl.Route{Flanks: guards(pairs...)} }
	for what, c := range map[string]struct {
		a, b []int
		want int
	}{
		"two ways":                   {[]int{3, 1}, []int{3, 2}, 3},
		"one way":                    {[]int{3, 1}, []int{3, 1}, 0},
		"two switches":               {[]int{3, 1}, []int{4, 2}, 0},
		"the last of many":           {[]int{1, 1, 2, 2, 3, 1}, []int{4, 1, 2, 2, 3, 2}, 3},
		"the first of many":          {[]int{1, 1, 2, 2, 3, 1}, []int{1, 2, 2, 2, 3, 1}, 3},
		"none of many":               {[]int{1, 1, 2, 2, 3, 1}, []int{4, 1, 2, 2, 3, 1}, 0},
		"two ways that are none":     {[]int{3, 0}, []int{3, 7}, 3},
		"one way that is none":       {[]int{3, -5}, []int{3, -5}, 0},
		"one in two ways by itself":  {[]int{3, 1, 3, 2}, []int{4, 1}, 0},
		"one in two ways, and one":   {[]int{3, 1, 3, 2}, []int{3, 1}, 3},
		"the same numbers otherwise": {[]int{1, 2}, []int{2, 1}, 0},
	} {
		wantExclude(t, what+", by Lies", by(c.a...), by(c.b...), c.want)
		wantExclude(t, what+", by Flanks", aside(c.a...), aside(c.b...), c.want)
		wantExclude(t, what+", by Lies and by Flanks", by(c.a...), aside(c.b...), c.want)
		wantExclude(t, what+", by Flanks and by Lies", aside(c.a...), by(c.b...), c.want)
	}
	for _, kind := range []int{impl.FBuffer, impl.FSignal, impl.FOpen, 0, 5, -3} {
		other := impl.Route{Flanks: []impl.Flank{{Kind: kind, Of: 3, Lie: 2}}}
		wantExclude(t, fmt.Sprint("a flank of kind ", kind), by(3, 1), other, 0)
	}
	wantExclude(t, "where a flank is, is nothing that it needs", by(3, 1), impl.Route{Flanks: []impl.Flank{{At: 3, Kind: impl.FSwitch, Of: 4, Lie: 2}}}, 0)
	torn := impl.Route{Lies: lies(3, 1), Flanks: guards(3, 2)}
	wantExclude(t, "a route that needs a switch in two ways, and itself", torn, torn, 3)
}

// For each choice of reasons the first of them is told.
func TestExcludeTellsTheFirstReason(t *testing.T) {
	for choice := range 16 {
		a := impl.Route{Lies: lies(50, 1), Crosses: []int{60}, Parts: parts(70, 0, 9), Over: parts(80, 0, 9), Flanks: guards(55, 2)}
		b := impl.Route{Lies: lies(50, 1), Crosses: []int{61}, Parts: parts(71, 0, 9), Over: parts(80, 0, 9), Flanks: guards(55, 2)}
		first := 0
		for reason := 4; reason >= 1; reason-- {
			if choice>>(reason-1)&1 == 0 {
				continue
			}
			first = reason
			switch reason {
			case 1:
				a.Parts, b.Parts = append(a.Parts, parts(1, 0, 5)...), append(b.Parts, parts(1, 5, 9)...)
			case 2:
				a.Crosses, b.Crosses = append(a.Crosses, 2), append(b.Crosses, 2)
			case 3:
				a.Lies, b.Flanks = append(a.Lies, lies(3, 1)...), append(b.Flanks, guards(3, 2)...)
			case 4:
				a.Over, b.Parts = append(a.Over, parts(4, 0, 5)...), append(b.Parts, parts(4, 5, 9)...)
			}
		}
		wantExclude(t, fmt.Sprintf("reasons %04b", choice), a, b, first)
	}
}

func TestExcludeAnyNumbers(t *testing.T) {
	for _, v := range anyNumbers() {
		for _, w := range anyNumbers() {
			same := v == w
			what := fmt.Sprint(v, " and ", w)
			wantExclude(t, "pieces "+what, onParts(v, 0, 5), onParts(w, 5, 9), common(same, 1))
			wantExclude(t, "crossings "+what, impl.Route{Crosses: []int{v}}, impl.Route{Crosses: []int{w}}, common(same, 2))
			wantExclude(t, "switches "+what, impl.Route{Lies: lies(v, 1)}, impl.Route{Lies: lies(w, 2)}, common(same, 3))
			wantExclude(t, "lies "+what, impl.Route{Lies: lies(3, v)}, impl.Route{Lies: lies(3, w)}, common(!same, 3))
			wantExclude(t, "flanks "+what, impl.Route{Flanks: guards(v, 1)}, impl.Route{Lies: lies(w, 2)}, common(same, 3))
			wantExclude(t, "pieces behind "+what, behind(v, 0, 5), onParts(w, 5, 9), common(same, 4))
			wantExclude(t, "From and To "+what, onParts(3, v, v), onParts(3, w, w), common(same, 1))
			wantExclude(t, "From to To "+what, onParts(3, v, w), onParts(3, v, w), common(v <= w, 1))
			wantExclude(t, "To and From "+what, onParts(3, math.MinInt, v), onParts(3, w, math.MaxInt), common(w <= v, 1))
		}
	}
}

// Parts that meet at a joint lie on two pieces, so they have no place in common.
func TestExcludeWhereRoutesMeetAtAJoint(t *testing.T) {
	row := impl.Net{
		Pieces: []impl.Piece{piece("a", 10), piece("b", 20)},
		Joints: []impl.Joint{buffer(end(0, 0)), plain(end(0, 1), end(1, 0)), buffer(end(1, 1))},
	}
	signals := []impl.Signal{post("in", 0, 3, 1), post("out", 1, 4, 1), post("back", 1, 15, -1), post("home", 0, 2, -1), post("far", 0, 9, -1)}
	needRight(t, "row", row, signals)
	routes := routesOf(t, "row", row, signals, 2)
	// in-out, out-end, back-far, home-end, far-home
	want := [][]int{
		{1, 1, 1, 0, 1},
		{1, 1, 1, 0, 0},
		{1, 1, 1, 0, 1},
		{0, 0, 0, 1, 1},
		{1, 0, 1, 1, 1},
	}
	for i, a := range routes {
		for k, b := range routes {
			wantExclude(t, fmt.Sprint(i, " with ", k, " at over 2"), a, b, want[i][k])
		}
	}

	cross := impl.Net{
		Pieces: []impl.Piece{piece("a", 10), piece("b", 20), piece("c", 30), piece("d", 40)},
		Joints: []impl.Joint{crossing("k", end(0, 1), end(1, 0), end(2, 1), end(3, 0)), buffer(end(0, 0)), buffer(end(1, 1)), buffer(end(2, 0)), buffer(end(3, 1))},
	}
	signals = []impl.Signal{post("a", 0, 5, 1), post("c", 2, 5, 1), post("x", 2, 20, 1)}
	needRight(t, "cross", cross, signals)
	routes = routesOf(t, "cross", cross, signals, 30)
	wantExclude(t, "over one crossing", routes[0], routes[2], 2)
	wantExclude(t, "up to a signal ahead of the crossing", routes[0], routes[1], 0)
}

// What is behind a signal comes to the other route when over reaches just as far.
func TestExcludeByWhatIsBehindASignal(t *testing.T) {
	n := impl.Net{
		Pieces: []impl.Piece{piece("a", 10), piece("b", 20), piece("c", 30)},
		Joints: []impl.Joint{buffer(end(0, 0)), plain(end(0, 1), end(1, 0)), plain(end(1, 1), end(2, 0)), buffer(end(2, 1))},
	}
	signals := []impl.Signal{post("s", 0, 2, 1), post("x", 0, 6, 1), post("y", 2, 5, -1), post("z", 1, 12, -1)}
	needRight(t, "row", n, signals)
	for over, want := range map[int]int{0: 0, 1: 0, 4: 0, 15: 0, 16: 4, 17: 4, 1000: 4, impl.MaxOver: 4} {
		routes := routesOf(t, "row", n, signals, over)
		// s-x to place 6 of a, with over behind it; y-z down to place 12 of b, 16 from x, with over behind that.
		wantExclude(t, fmt.Sprint("over ", over), routes[0], routes[2], want)
	}
}
