package tests

import (
	"fmt"
	"reflect"
	"slices"
	"strings"
	"testing"

	"loop.example/lockbar/impl"
)

// listing asks twice, and looks that the arguments stand as they stood.
func (g given) listing(t *testing.T, what string) string {
	t.Helper()
	before := g.copied()
	got := impl.Listing(g.net, g.signals, g.routes)
	if again := impl.Listing(g.net, g.signals, g.routes); got != again {
		t.Errorf("%s: Listing is %q, then %q", what, got, again)
	}
	if !reflect.DeepEqual(g, before) {
		t.Errorf("%s: Listing changed an argument", what)
	}
	return got
}

// at asks twice, and looks that the arguments stand as they stood.
func (g given) at(t *testing.T, what, from string, lies []int) int {
	t.Helper()
	before, liesBefore := g.copied(), slices.Clone(lies)
	got := impl.RouteAt(g.net, g.signals, g.routes, from, lies)
	if again := impl.RouteAt(g.net, g.signals, g.routes, from, lies); got != again {
		t.Errorf("%s: RouteAt is %d, then %d", what, got, again)
	}
	if !reflect.DeepEqual(g, before) || !slices.Equal(lies, liesBefore) {
		t.Errorf("%s: RouteAt changed an argument", what)
	}
	return got
}

func wantListing(t *testing.T, what string, g given, lines ...string) {
	t.Helper()
	needRight(t, what, g.net, g.signals)
	var want strings.Builder
	for _, l := range lines {
		want.WriteString(l + "\n")
	}
	if got := g.listing(t, what); got != want.String() {
		t.Errorf("%s: Listing is\n%s\nwant\n%s", what, got, want.String())
	}
}

func wantAt(t *testing.T, what string, g given, from string, lies []int, want int) {
	t.Helper()
	if got := g.at(t, what, from, lies); got != want {
		t.Errorf("%s: RouteAt from %q with %v is %d, want %d", what, from, lies, got, want)
	}
}

// wantUnlisted asks for no listing, and for no route from any signal.
func wantUnlisted(t *testing.T, what string, g given) {
	t.Helper()
	if got := g.listing(t, what); got != "" {
		t.Errorf("%s: Listing is\n%s\nwant nothing", what, got)
	}
	names := []string{"s"}
	for _, s := range g.signals[:min(len(g.signals), 5)] {
		names = append(names, s.Name)
	}
	for _, lie := range []int{1, 2} {
		for _, from := range names {
			wantAt(t, what, g, from, slices.Repeat([]int{lie}, len(g.net.Joints)), -1)
		}
	}
}

// textOf is the listing of routes that are right.
func textOf(n impl.Net, signals []impl.Signal, routes []impl.Route) string {
	var b strings.Builder
	lie := func(l impl.Lie) string { return n.Joints[l.Joint].Name + sign(l.Lie, 1, 2, "<", ">") }
	for i, r := range routes {
		to := "buffer"
		if r.To >= 0 {
			to = signals[r.To].Name
		}
		fmt.Fprintf(&b, "%d %s -> %s", i, signals[r.From].Name, to)
		tellList(&b, ":", r.Steps, func(s impl.Step) string { return n.Pieces[s.Piece].Name + sign(s.Way, 1, -1, "+", "-") })
		tellList(&b, "lies", r.Lies, lie)
		tellList(&b, "flanks", r.Flanks, func(f impl.Flank) string {
			switch f.Kind {
			case impl.FBuffer:
				return "buffer"
			case impl.FSignal:
				return signals[f.Of].Name
			case impl.FSwitch:
				return lie(impl.Lie{Joint: f.Of, Lie: f.Lie})
			}
			return "open"
		})
		b.WriteByte('\n')
	}
	return b.String()
}
