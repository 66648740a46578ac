package tests

import (
	"fmt"
	"strings"
	"testing"

	"loop.example/lockbar/impl"
)

// overs are the parts behind the first signal of the list, to which the last one's route comes.
func overs(t *testing.T, what string, n impl.Net, signals []impl.Signal, over int) string {
	t.Helper()
	needRight(t, what, n, signals)
	for _, r := range routesOf(t, what, n, signals, over) {
		if r.From == len(signals)-1 && r.To == 0 {
			var b strings.Builder
			tellList(&b, "over", r.Over, tellPart)
			return strings.TrimPrefix(b.String(), " over ")
		}
	}
	t.Fatalf("%s: no route to the first signal", what)
	return ""
}

// row has pieces of 10, 20 and 30 with plain joints between, then what is said, then pieces up to buffers.
// The second one lies against the others.
func row(last func(end impl.End) []impl.Joint) impl.Net {
	n := impl.Net{
		Pieces: []impl.Piece{piece("a", 10), piece("b", 20), piece("c", 30), piece("d", 40), piece("e", 50), piece("f", 60)},
		Joints: []impl.Joint{buffer(end(0, 0)), plain(end(0, 1), end(1, 1)), plain(end(2, 0), end(1, 0))},
	}
	n.Joints = append(n.Joints, last(end(2, 1))...)
	return n
}

func rowEnds() map[string]impl.Net {
	free := []impl.Joint{buffer(end(3, 1)), buffer(end(4, 1)), buffer(end(5, 0)), buffer(end(5, 1))}
	with := func(first ...impl.Joint) []impl.Joint { return append(first, free...) }
	return map[string]impl.Net{
		"buffer": row(func(e impl.End) []impl.Joint {
			return with(buffer(e), buffer(end(3, 0)), buffer(end(4, 0)))
		}),
		"tip": row(func(e impl.End) []impl.Joint {
			return with(points("w", e, end(3, 0), end(4, 0)))
		}),
		"left": row(func(e impl.End) []impl.Joint {
			return with(points("w", end(3, 0), e, end(4, 0)))
		}),
		"right": row(func(e impl.End) []impl.Joint {
			return with(points("w", end(3, 0), end(4, 0), e))
		}),
		"crossing": row(func(e impl.End) []impl.Joint {
			return append([]impl.Joint{crossing("k", e, end(3, 0), end(4, 0), end(5, 0))}, buffer(end(3, 1)), buffer(end(4, 1)), buffer(end(5, 1)))
		}),
	}
}

func TestOverAlongARow(t *testing.T) {
	signals := []impl.Signal{post("x", 0, 4, 1), post("s", 0, 3, 1)}
	for what, n := range rowEnds() {
		for _, c := range []struct {
			over int
			want string
		}{
			{0, ""},
			{1, "0:4-5"},
			{5, "0:4-9"},
			{6, "0:4-10"},
			{7, "0:4-10 1:19-20"},
			{25, "0:4-10 1:1-20"},
			{26, "0:4-10 1:0-20"},
			{27, "0:4-10 1:0-20 2:0-1"},
			{55, "0:4-10 1:0-20 2:0-29"},
			{56, "0:4-10 1:0-20 2:0-30"},
			{57, "0:4-10 1:0-20 2:0-30"},
			{impl.MaxOver, "0:4-10 1:0-20 2:0-30"},
		} {
			what := fmt.Sprintf("up to a %s, over %d", what, c.over)
			if got := overs(t, what, n, signals, c.over); got != c.want {
				t.Errorf("%s: %q, want %q", what, got, c.want)
			}
		}
	}
}

func TestOverTheOtherWay(t *testing.T) {
	n := rowEnds()["buffer"]
	signals := []impl.Signal{post("x", 2, 4, -1), post("s", 2, 29, -1)}
	for over, want := range map[int]string{
		0: "", 3: "2:1-4", 4: "2:0-4", 5: "2:0-4 1:0-1", 24: "2:0-4 1:0-20", 25: "2:0-4 1:0-20 0:9-10", 34: "2:0-4 1:0-20 0:0-10", 35: "2:0-4 1:0-20 0:0-10",
	} {
		if got := overs(t, "back", n, signals, over); got != want {
			t.Errorf("over %d: %q, want %q", over, got, want)
		}
	}
}

// What is behind a signal has nothing to do with the signals there, nor with the route that comes to it.
func TestOverGoesPastSignals(t *testing.T) {
	n := rowEnds()["buffer"]
	signals := []impl.Signal{post("x", 0, 4, 1), post("y", 0, 6, 1), post("z", 1, 6, -1), post("q", 2, 6, -1), post("s", 0, 3, 1)}
	if got := overs(t, "past signals", n, signals, 30); got != "0:4-10 1:0-20 2:0-4" {
		t.Error(got)
	}
}

func TestOverRoundARing(t *testing.T) {
	n := ring(2)
	n.Pieces[0].Len, n.Pieces[1].Len = 10, 5
	alone := []impl.Signal{post("x", 0, 4, 1)}
	for over, want := range map[int]string{
		6:  "0:4-10",
		11: "0:4-10 1:0-5",
		15: "0:4-10 1:0-5 0:0-4",
		16: "0:4-10 1:0-5 0:0-5",
		21: "0:4-10 1:0-5 0:0-10",
		40: "0:4-10 1:0-5 0:0-10 1:0-5 0:0-10 1:0-4",
	} {
		if got := overs(t, "a ring", n, alone, over); got != want {
			t.Errorf("over %d: %q, want %q", over, got, want)
		}
	}
	n = ring(1)
	n.Pieces[0].Len = 2
	for _, way := range []int{1, -1} {
		routes := routesOf(t, "the most parts", n, []impl.Signal{post("x", 0, 1, way)}, impl.MaxOver)
		if len(routes) != 1 || len(routes[0].Over) != impl.MaxOver/2+1 {
			t.Fatal("the most parts")
		}
		for i, p := range routes[0].Over {
			want := impl.Part{From: 0, To: 2}
			if (i == 0) == (way == 1) && (i == 0 || i == impl.MaxOver/2) {
				want.From = 1
			} else if i == 0 || i == impl.MaxOver/2 {
				want.To = 1
			}
			if p != want {
				t.Fatalf("way %d, part %d: %v, want %v", way, i, p, want)
			}
		}
	}
}

func TestNothingBehindABuffer(t *testing.T) {
	for what, n := range rowEnds() {
		for _, r := range routesOf(t, what, n, []impl.Signal{post("s", 0, 4, 1), post("x", 0, 6, -1)}, impl.MaxOver) {
			if r.To != -1 || len(r.Over) != 0 {
				t.Errorf("up to a %s: %s", what, tell(r))
			}
		}
	}
}

func TestOverInItsRange(t *testing.T) {
	n := stubs(1)
	n.Pieces[0].Len = impl.MaxLen
	signals := []impl.Signal{post("x", 0, 500000, 1), post("s", 0, 400000, 1)}
	for over, want := range map[int]string{0: "", 1: "0:500000-500001", impl.MaxOver - 1: "0:500000-599999", impl.MaxOver: "0:500000-600000"} {
		if got := overs(t, "in range", n, signals, over); got != want {
			t.Errorf("over %d: %q, want %q", over, got, want)
		}
	}
	for _, over := range outside(0, impl.MaxOver) {
		wantNothing(t, fmt.Sprintf("over %d", over), n, signals, over)
	}
}
