package tests

import (
	"fmt"
	"reflect"
	"slices"
	"strings"
	"testing"

	"loop.example/lockbar/impl"
)

func post(name string, p, at, way int) impl.Signal {
	return impl.Signal{Name: name, Piece: p, At: at, Way: way}
}

// tell is a route as a text, a word for each of its lists that is not empty:
// steps as PIECE and + or -, lies as JOINT and < or >, parts as PIECE:FROM-TO, flanks as AT=KIND:OF and the Lie.
func tell(r impl.Route) string {
	var b strings.Builder
	fmt.Fprintf(&b, "%d>%d", r.From, r.To)
	tellList(&b, "steps", r.Steps, func(s impl.Step) string { return fmt.Sprint(s.Piece, sign(s.Way, 1, -1, "+", "-")) })
	tellList(&b, "lies", r.Lies, tellLie)
	tellList(&b, "crosses", r.Crosses, func(c int) string { return fmt.Sprint(c) })
	tellList(&b, "parts", r.Parts, tellPart)
	tellList(&b, "over", r.Over, tellPart)
	tellList(&b, "flanks", r.Flanks, tellFlank)
	return b.String()
}

func tellList[T any](b *strings.Builder, word string, list []T, one func(T) string) {
	if len(list) == 0 {
		return
	}
	fmt.Fprintf(b, " %s", word)
	for _, v := range list {
		fmt.Fprintf(b, " %s", one(v))
	}
}

// sign tells numbers that are neither of the two as they are, so that they part from all that is wanted.
func sign(v, first, second int, a, b string) string {
	switch v {
	case first:
		return a
	case second:
		return b
	}
	return fmt.Sprintf("(%d)", v)
}

func tellLie(l impl.Lie) string { return fmt.Sprint(l.Joint, sign(l.Lie, 1, 2, "<", ">")) }

func tellPart(p impl.Part) string { return fmt.Sprintf("%d:%d-%d", p.Piece, p.From, p.To) }

func tellFlank(f impl.Flank) string {
	kinds := map[int]string{impl.FBuffer: "buffer", impl.FSignal: "signal", impl.FSwitch: "switch", impl.FOpen: "open"}
	lie := ""
	if f.Kind == impl.FSwitch || f.Lie != 0 {
		lie = sign(f.Lie, 1, 2, "<", ">")
	}
	return fmt.Sprintf("%d=%s:%d%s", f.At, kinds[f.Kind], f.Of, lie)
}

func tellAll(routes []impl.Route) []string {
	var all []string
	for _, r := range routes {
		all = append(all, tell(r))
	}
	return all
}

// routesOf asks twice, and looks that the arguments stand as they stood.
func routesOf(t *testing.T, what string, n impl.Net, signals []impl.Signal, over int) []impl.Route {
	t.Helper()
	netBefore, signalsBefore := copyNet(n), slices.Clone(signals)
	got := impl.Routes(n, signals, over)
	if again := impl.Routes(n, signals, over); !reflect.DeepEqual(got, again) {
		t.Errorf("%s: Routes is %v, then %v", what, tellAll(got), tellAll(again))
	}
	if !reflect.DeepEqual(n, netBefore) || !reflect.DeepEqual(signals, signalsBefore) {
		t.Errorf("%s: Routes changed an argument", what)
	}
	return got
}

func wantRoutes(t *testing.T, what string, n impl.Net, signals []impl.Signal, over int, want ...string) {
	t.Helper()
	needRight(t, what, n, signals)
	got := tellAll(routesOf(t, what, n, signals, over))
	if len(got) != len(want) {
		t.Errorf("%s: %d routes, want %d:\n\t%s", what, len(got), len(want), strings.Join(got, "\n\t"))
		return
	}
	for i := range want {
		if got[i] != want[i] {
			t.Errorf("%s: route %d is\n\t%s\nwant\n\t%s", what, i, got[i], want[i])
		}
	}
}

// needRight keeps a case that was written down wrongly from passing as one that has nothing.
func needRight(t *testing.T, what string, n impl.Net, signals []impl.Signal) {
	t.Helper()
	if f := impl.SignalsOk(n, signals); f != (impl.Fault{}) {
		t.Fatalf("%s: the case itself is wrong: %v, %v", what, impl.NetOk(n), f)
	}
}

func wantNothing(t *testing.T, what string, n impl.Net, signals []impl.Signal, over int) {
	t.Helper()
	if got := routesOf(t, what, n, signals, over); len(got) != 0 {
		t.Errorf("%s: %d routes, want nothing", what, len(got))
	}
}
