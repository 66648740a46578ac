package tests

import (
	"fmt"
	"slices"
	"testing"

	"loop.example/lockbar/impl"
)

// yardLies has a number for each joint of yard, of which the switch alone counts.
func yardLies(w int) []int { return []int{0, 0, w, 0, 0, 0, 0, 0} }

func TestRouteAtOfAYard(t *testing.T) {
	g := checked()
	for _, c := range []struct {
		what, from string
		w, want    int
	}{
		{"to a signal", "s", 1, 0},
		{"to a buffer", "s", 2, 1},
		{"no Lies, left", "x", 1, 2},
		{"no Lies, right", "x", 2, 2},
		{"from the right end, to the tip", "y", 2, 3},
		{"from the right end, and the switch lies left", "y", 1, -1},
		{"from the left end, to the tip", "z", 1, 4},
		{"from the left end, and the switch lies right", "z", 2, -1},
		{"apart", "q", 1, 5},
	} {
		wantAt(t, c.what, g, c.from, yardLies(c.w), c.want)
	}
}

func TestRouteAtOverSeveralSwitches(t *testing.T) {
	g := givenOf(fan(), []impl.Signal{post("s", 0, 3, 1), post("d", 4, 1, -1), post("a", 0, 8, -1)}, 0)
	for _, c := range []struct{ w, v, fromS, fromD int }{{1, 1, 0, -1}, {1, 2, 0, -1}, {2, 1, 1, -1}, {2, 2, 2, 3}} {
		lies := []int{0, c.w, c.v, 0, 0, 0}
		wantAt(t, "from the tip", g, "s", lies, c.fromS)
		wantAt(t, "to the tips", g, "d", lies, c.fromD)
		wantAt(t, "over none", g, "a", lies, 4)
	}

	many, signals := apart(diamonds(8), []impl.Signal{post("s", 0, 4, 1)}, 44)
	g = givenOf(many, signals, 0)
	for i := 0; i < 256; i += 15 {
		lies := make([]int, len(many.Joints))
		for k := range 8 {
			lies[2*k] = 1 + i>>(7-k)&1
			lies[2*k+1] = lies[2*k]
		}
		wantAt(t, "the last switch is the last digit", g, "s", lies, i)
		lies[2*(i%8)+1] ^= 3
		wantAt(t, "one switch lies otherwise", g, "s", lies, -1)
		wantAt(t, "behind all of them", g, "x43", lies, 299)
	}
}

func TestRouteAtIsTheFirstThatFits(t *testing.T) {
	for _, c := range []struct {
		order       []int
		left, right int
	}{
		{[]int{0, 1}, 0, 1},
		{[]int{1, 0}, 1, 0},
		{[]int{1, 1, 0, 0, 1, 0}, 2, 0},
		{[]int{0, 0, 0}, 0, -1},
		{[]int{5, 4, 3, 2, 1, 1}, -1, 4},
		{[]int{5, 5, 2, 1, 4, 0, 3, 0, 1}, 5, 3},
		{[]int{2, 3, 4, 5}, -1, -1},
	} {
		g := checked()
		all := g.routes
		g.routes = nil
		for _, k := range c.order {
			g.routes = append(g.routes, all[k])
		}
		wantAt(t, fmt.Sprint("left, routes ", c.order), g, "s", yardLies(1), c.left)
		wantAt(t, fmt.Sprint("right, routes ", c.order), g, "s", yardLies(2), c.right)
	}
	g := checked()
	g.routes = slices.Repeat(g.routes[4:5], impl.MaxRoutes)
	g.routes[299] = checked().routes[5]
	wantAt(t, "the last of MaxRoutes", g, "q", yardLies(1), 299)
	wantAt(t, "the first of many", g, "z", yardLies(1), 0)
}

func TestRouteAtOfANameThatIsNoSignals(t *testing.T) {
	g := checked()
	for _, from := range append(wrongNames(), "a", "w", "k", "t", "S", "ss", "s\x00", "s ", " s", "buffer", "0", "-1", "open", "s -> x") {
		for _, w := range []int{1, 2} {
			wantAt(t, "no signal", g, from, yardLies(w), -1)
		}
	}
	g = givenOf(balloon(), []impl.Signal{post("buffer", 0, 4, 1), post("a", 1, 8, 1)}, 30)
	wantAt(t, "a signal with the word for a buffer", g, "buffer", []int{0, 1}, 0)
	wantAt(t, "a signal with the name of a piece", g, "a", []int{0, 2}, 1)
	wantAt(t, "a switch's name", g, "w", []int{0, 1}, -1)
}

func TestRouteAtOfASignalWithoutRoutes(t *testing.T) {
	g := givenOf(balloon(), []impl.Signal{post("s", 0, 4, 1), post("x", 0, 4, -1)}, 0)
	for w := range 4 {
		wantAt(t, "no route begins at it", g, "s", []int{0, w}, -1)
		wantAt(t, "one begins at the other", g, "x", []int{0, w}, 0)
	}
	g = checked()
	g.routes = append(g.routes[:2], g.routes[3:]...)
	wantAt(t, "its route is left out", g, "x", yardLies(1), -1)
	wantAt(t, "behind what is left out", g, "q", yardLies(1), 4)
}

func TestRouteAtWithAnotherNumberOfLies(t *testing.T) {
	g := checked()
	long := slices.Repeat([]int{1}, 1000)
	for _, count := range []int{0, 1, 2, 3, 6, 7, 9, 10, 16, 120, 121, 1000} {
		for _, from := range []string{"s", "x", "z", "q"} {
			wantAt(t, fmt.Sprint(count, " lies"), g, from, long[:count], -1)
		}
	}
	for from, want := range map[string]int{"s": 0, "x": 2, "z": 4, "q": 5} {
		wantAt(t, "one for each joint", g, from, long[:8], want)
		wantAt(t, "nil", g, from, nil, -1)
	}
	one := givenOf(ring(1), []impl.Signal{post("s", 0, 40, 1)}, 0)
	wantAt(t, "one joint", one, "s", []int{0}, 0)
	wantAt(t, "one joint, nil", one, "s", nil, -1)
	wantAt(t, "one joint, an empty list", one, "s", []int{}, -1)
	wantAt(t, "one joint, two lies", one, "s", []int{0, 0}, -1)
	full := givenOf(longRing(impl.MaxPieces), []impl.Signal{post("s", 0, 40, 1)}, 0)
	wantAt(t, "a hundred joints", full, "s", long[:100], 0)
	wantAt(t, "as many as joints may be", full, "s", long[:impl.MaxJoints], -1)
}

func TestRouteAtWithAnyLies(t *testing.T) {
	for _, v := range anyNumbers() {
		g := checked()
		fromS, fromY, fromZ := -1, -1, -1
		switch v {
		case 1:
			fromS, fromZ = 0, 4
		case 2:
			fromS, fromY = 1, 3
		}
		wantAt(t, "at the switch", g, "s", yardLies(v), fromS)
		wantAt(t, "at the switch", g, "y", yardLies(v), fromY)
		wantAt(t, "at the switch", g, "z", yardLies(v), fromZ)
		wantAt(t, "at a switch that is not needed", g, "x", yardLies(v), 2)
		all := slices.Repeat([]int{v}, 8)
		wantAt(t, "at every joint", g, "q", all, 5)
		all[2] = 2
		wantAt(t, "at every other joint", g, "s", all, 1)
		wantAt(t, "at every other joint", g, "y", all, 3)

		g = givenOf(fan(), []impl.Signal{post("s", 0, 3, 1)}, 0)
		wantAt(t, "at a switch that the left route does not need", g, "s", []int{v, 1, v, v, v, v}, 0)
		second := -1
		if v == 1 || v == 2 {
			second = v
		}
		wantAt(t, "at the second switch", g, "s", []int{v, 2, v, v, v, v}, second)
	}
}

// Flanks want switches to lie so as well, but a drive does not hang on them.
func TestRouteAtDoesNotLookAtFlanks(t *testing.T) {
	n := side(points("v", end(7, 0), end(4, 1), end(8, 0)), buffer(end(7, 1)), buffer(end(8, 1)))
	g := givenOf(n, []impl.Signal{post("s", 0, 4, 1)}, 0)
	if f := g.routes[0].Flanks; len(f) != 1 || f[0].Kind != impl.FSwitch || f[0].Of != 7 {
		t.Fatalf("the case itself is wrong: %v", f)
	}
	for v := range 4 {
		wantAt(t, "a switch of the flank", g, "s", []int{0, 1, 0, 0, 0, 0, 0, v, 0, 0}, 0)
	}
}

func TestRouteAtOfNoRoutes(t *testing.T) {
	for what, routes := range map[string][]impl.Route{"nil": nil, "an empty list": {}} {
		g := checked()
		g.routes = routes
		for _, from := range []string{"s", "x", "q", "", "t"} {
			wantAt(t, what, g, from, yardLies(1), -1)
			wantAt(t, what+", another number of lies", g, from, nil, -1)
		}
		g.signals = nil
		wantAt(t, what+", no signals", g, "s", yardLies(1), -1)
	}
	wantAt(t, "the zero value", given{}, "", nil, -1)
	wantAt(t, "the zero value and a name", given{}, "s", nil, -1)
}

// The Over of a route says nothing about where it is.
func TestRouteAtDoesNotLookAtOver(t *testing.T) {
	for _, over := range []int{0, 9, impl.MaxOver} {
		wantAt(t, fmt.Sprint("over ", over), givenOf(yard(), posts(), over), "s", yardLies(2), 1)
	}
	g := checked()
	for i := range g.routes {
		g.routes[i].Over = parts(-1, 1<<40, -1<<40)
	}
	wantAt(t, "any Over", g, "s", yardLies(1), 0)
	wantAt(t, "any Over", g, "s", yardLies(2), 1)
}

// A wrong route is a reason for nothing also where a right one ahead of it fits.
func TestRouteAtBesideARouteThatIsNone(t *testing.T) {
	for i := range checked().routes {
		g := checked()
		g.routes = append(g.routes, g.routes[i])
		wantAt(t, "all of them right", g, "s", yardLies(2), 1)
		g.routes[6].To = 3
		wantAt(t, fmt.Sprint("a wrong one behind them, like ", i), g, "s", yardLies(2), -1)
		wantAt(t, "another number of lies, too", g, "s", nil, -1)
	}
}

// drivenAt tells which of the routes is driven, -1 when the drive comes to no end, and -2 when it is none of them.
func drivenAt(n impl.Net, signals []impl.Signal, routes []impl.Route, from int, lies []int) int {
	r, ok := drive(n, signals, from, lies)
	if !ok {
		return -1
	}
	for i, o := range routes {
		if o.From == from && o.To == r.To && slices.Equal(o.Steps, r.Steps) && slices.Equal(o.Lies, onceEach(r.Lies)) {
			return i
		}
	}
	return -2
}

// However switches lie, RouteAt names the one route that is driven, and none where the drive comes to no end.
// The routes stand in any order, and at joints that are no switches any number stands.
func TestRouteAtNamesWhatIsDriven(t *testing.T) {
	t.Parallel()
	d := dice(3)
	seen, ends, noEnds := 0, 0, 0
	tried(func(n impl.Net, signals []impl.Signal) {
		seen++
		if t.Failed() || len(n.Pieces) > 4 && seen%5 != 0 {
			return
		}
		routes := impl.Routes(n, signals, d.throw(9))
		for i := range routes {
			k := d.throw(i + 1)
			routes[i], routes[k] = routes[k], routes[i]
		}
		everyLie(n, func(lies []int) {
			for j, joint := range n.Joints {
				if joint.Kind != impl.JSwitch {
					lies[j] = d.throw(5) - 1
				}
			}
			for from, s := range signals {
				want := drivenAt(n, signals, routes, from, lies)
				if got := impl.RouteAt(n, signals, routes, s.Name, lies); got != want {
					t.Errorf("net %v\nsignals %v\nlies %v: RouteAt from %q is %d, want %d of %q", n, signals, lies, s.Name, got, want, tellAll(routes))
				}
				if want < 0 {
					noEnds++
				} else {
					ends++
				}
			}
		})
	})
	if ends < 10000 || noEnds < 1000 {
		t.Errorf("only %d drives that end, %d that do not", ends, noEnds)
	}
}
