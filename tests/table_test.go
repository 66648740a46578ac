package tests

import (
	"fmt"
	"reflect"
	"testing"

	"loop.example/lockbar/impl"
)

// mixed has routes that exclude each other for each reason, and for none.
func mixed() []impl.Route {
	return []impl.Route{
		{Parts: parts(1, 0, 5), Over: parts(2, 0, 5)},
		{Parts: parts(1, 5, 9), Crosses: []int{4}},
		{Parts: parts(2, 5, 9), Lies: lies(7, 1)},
		{Parts: parts(3, 0, 9), Flanks: guards(7, 2), Crosses: []int{4, 5}},
		{},
		{Parts: parts(5, 9, 1), Over: parts(3, 9, 9)},
	}
}

func TestTableOfMixedRoutes(t *testing.T) {
	got := tableOf(t, "mixed", mixed())
	want := [][]int{
		{1, 1, 4, 0, 0, 0},
		{1, 1, 0, 2, 0, 0},
		{4, 0, 1, 3, 0, 0},
		{0, 2, 3, 1, 0, 4},
		{0, 0, 0, 0, 0, 0},
		{0, 0, 0, 4, 0, 0},
	}
	if !reflect.DeepEqual(got, want) {
		t.Errorf("%v, want %v", got, want)
	}
	back := mixed()
	for i := range back {
		back[i] = mixed()[len(back)-1-i]
	}
	for i, row := range tableOf(t, "the other way round", back) {
		for k, v := range row {
			if v != want[len(want)-1-i][len(want)-1-k] {
				t.Errorf("the other way round, at %d, %d: %d", i, k, v)
			}
		}
	}
}

func TestTableOfAYard(t *testing.T) {
	got := tableOf(t, "yard", impl.Routes(yard(), posts(), 20))
	want := [][]int{
		{1, 1, 1, 1, 1, 0},
		{1, 1, 2, 1, 1, 0},
		{1, 2, 1, 0, 1, 0},
		{1, 1, 0, 1, 1, 0},
		{1, 1, 1, 1, 1, 0},
		{0, 0, 0, 0, 0, 1},
	}
	if !reflect.DeepEqual(got, want) {
		t.Errorf("%v, want %v", got, want)
	}
}

func TestTableOfFewRoutes(t *testing.T) {
	if got := tableOf(t, "nil", nil); len(got) != 0 {
		t.Errorf("no routes: %v", got)
	}
	if got := tableOf(t, "empty", []impl.Route{}); len(got) != 0 {
		t.Errorf("an empty list: %v", got)
	}
	if got := tableOf(t, "one", mixed()[:1]); !reflect.DeepEqual(got, [][]int{{1}}) {
		t.Errorf("one route: %v", got)
	}
	if got := tableOf(t, "zero", make([]impl.Route, 1)); !reflect.DeepEqual(got, [][]int{{0}}) {
		t.Errorf("the zero value: %v", got)
	}
	if got := tableOf(t, "twice", []impl.Route{mixed()[0], mixed()[0]}); !reflect.DeepEqual(got, [][]int{{1, 1}, {1, 1}}) {
		t.Errorf("one route twice: %v", got)
	}
}

// stripes are routes of one part each; each one touches those next to it.
func stripes(count int) []impl.Route {
	var all []impl.Route
	for i := range count {
		all = append(all, onParts(3, 10*i, 10*i+10))
	}
	return all
}

func TestTableOfManyRoutes(t *testing.T) {
	for _, count := range []int{impl.MaxRoutes - 1, impl.MaxRoutes} {
		table := tableOf(t, "many", stripes(count))
		if len(table) != count {
			t.Fatalf("%d rows, want %d", len(table), count)
		}
		for i, row := range table {
			if len(row) != count {
				t.Fatalf("row %d has %d places, want %d", i, len(row), count)
			}
			for k, v := range row {
				if v != common(k >= i-1 && k <= i+1, 1) {
					t.Fatalf("at %d, %d: %d", i, k, v)
				}
			}
		}
	}
	for _, count := range []int{impl.MaxRoutes + 1, impl.MaxRoutes + 2, 10 * impl.MaxRoutes} {
		if got := tableOf(t, "too many", stripes(count)); len(got) != 0 {
			t.Errorf("%d routes: %d rows", count, len(got))
		}
	}
}

// Long routes that lie on the same pieces and do not touch.
func TestTableOfLongRoutes(t *testing.T) {
	var routes []impl.Route
	for i := range 50 {
		var r impl.Route
		for p := range impl.MaxPieces {
			r.Parts = append(r.Parts, impl.Part{Piece: p, From: 2 * i, To: 2 * i})
			r.Over = append(r.Over, impl.Part{Piece: p, From: 2*i + 1, To: 2*i + 1})
			r.Lies = append(r.Lies, impl.Lie{Joint: p, Lie: 1})
		}
		routes = append(routes, r)
	}
	for i, row := range tableOf(t, "long", routes) {
		for k, v := range row {
			if v != common(i == k, 1) {
				t.Fatalf("at %d, %d: %d", i, k, v)
			}
		}
	}
}

func TestTableIsExcludeOfEachTwo(t *testing.T) {
	t.Parallel()
	reasons := map[int]int{}
	tried(func(n impl.Net, signals []impl.Signal) {
		if t.Failed() {
			return
		}
		routes := impl.Routes(n, signals, 5)
		table := impl.Table(routes)
		if len(table) != len(routes) {
			t.Errorf("%d rows, want %d", len(table), len(routes))
			return
		}
		for i, a := range routes {
			if len(table[i]) != len(routes) {
				t.Errorf("row %d has %d places, want %d", i, len(table[i]), len(routes))
				return
			}
			if table[i][i] != 1 {
				t.Errorf("a route does not exclude itself: %q", tell(a))
			}
			for k, b := range routes {
				reasons[table[i][k]]++
				if want := impl.Exclude(a, b); table[i][k] != want || table[k][i] != want {
					t.Errorf("at %d, %d: %d, and %d the other way round, want %d: %q", i, k, table[i][k], table[k][i], want, tellAll(routes))
				}
			}
		}
	})
	for reason := range 5 {
		if reasons[reason] < 100 {
			t.Errorf("only %d times reason %d", reasons[reason], reason)
		}
	}
	if len(reasons) != 5 {
		t.Error(fmt.Sprint("reasons ", reasons))
	}
}
