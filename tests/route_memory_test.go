package tests

import (
	"slices"
	"testing"

	"loop.example/lockbar/impl"
)

func copyRoutes(routes []impl.Route) []impl.Route {
	all := slices.Clone(routes)
	for i, r := range all {
		all[i].Steps = slices.Clone(r.Steps)
		all[i].Lies = slices.Clone(r.Lies)
		all[i].Crosses = slices.Clone(r.Crosses)
		all[i].Parts = slices.Clone(r.Parts)
		all[i].Over = slices.Clone(r.Over)
		all[i].Flanks = slices.Clone(r.Flanks)
	}
	return all
}

// fill writes over a list, and over what lies behind it as far as an append would go.
func fill[T any](list []T, v T) {
	list = list[:cap(list)]
	for i := range list {
		list[i] = v
	}
}

// spoilers write over one list of a route each.
func spoilers() map[string]func(r *impl.Route) {
	return map[string]func(r *impl.Route){
		"Steps":   func(r *impl.Route) { fill(r.Steps, impl.Step{Piece: -9, Way: -9}); r.Steps = nil },
		"Lies":    func(r *impl.Route) { fill(r.Lies, impl.Lie{Joint: -9, Lie: -9}); r.Lies = nil },
		"Crosses": func(r *impl.Route) { fill(r.Crosses, -9); r.Crosses = nil },
		"Parts":   func(r *impl.Route) { fill(r.Parts, impl.Part{Piece: -9, From: -9, To: -9}); r.Parts = nil },
		"Over":    func(r *impl.Route) { fill(r.Over, impl.Part{Piece: -9, From: -9, To: -9}); r.Over = nil },
		"Flanks":  func(r *impl.Route) { fill(r.Flanks, impl.Flank{At: -9, Kind: -9, Of: -9, Lie: -9}); r.Flanks = nil },
	}
}

// shared has routes that go together for long: over crossings and switches, then apart at the last tip.
func shared() (impl.Net, []impl.Signal) {
	n := diamonds(3)
	last := len(n.Pieces) - 1
	n.Pieces = append(n.Pieces, piece("x", 10), piece("y", 10), piece("z", 10), piece("l", 10), piece("r", 10))
	n.Joints[len(n.Joints)-1] = crossing("k", end(last, 1), end(last+1, 0), end(last+2, 1), end(last+3, 0))
	n.Joints = append(n.Joints, points("t", end(last+1, 1), end(last+4, 0), end(last+5, 0)),
		buffer(end(last+2, 0)), buffer(end(last+3, 1)), buffer(end(last+4, 1)), buffer(end(last+5, 1)))
	return n, []impl.Signal{post("s", 0, 4, 1), post("g", last+4, 5, 1), post("h", last+5, 5, 1), post("i", last+5, 3, 1)}
}

func TestListsOfRoutesShareNothing(t *testing.T) {
	n, signals := shared()
	needRight(t, "shared", n, signals)
	for what, spoil := range spoilers() {
		for i := range impl.Routes(n, signals, 3) {
			routes := impl.Routes(n, signals, 3)
			want := copyRoutes(routes)
			spoil(&routes[i])
			spoil(&want[i])
			for k := range want {
				if tell(routes[k]) != tell(want[k]) {
					t.Fatalf("writing over %s of route %d changes route %d: %s", what, i, k, tell(routes[k]))
				}
			}
		}
	}
}

func TestRoutesShareNothingWithArguments(t *testing.T) {
	n, signals := shared()
	netBefore, signalsBefore := copyNet(n), slices.Clone(signals)
	want := tellAll(impl.Routes(n, signals, 3))

	spoilt := impl.Routes(n, signals, 3)
	for i := range spoilt {
		for _, spoil := range spoilers() {
			spoil(&spoilt[i])
		}
	}
	fill(spoilt, impl.Route{From: -9})
	if got := tellAll(impl.Routes(n, signals, 3)); !slices.Equal(got, want) {
		t.Error("writing over an answer changes the next one")
	}

	kept := impl.Routes(n, signals, 3)
	for i := range n.Joints {
		fill(n.Joints[i].Ends, impl.End{})
	}
	fill(n.Joints, impl.Joint{})
	fill(n.Pieces, impl.Piece{})
	fill(signals, impl.Signal{})
	if !slices.Equal(tellAll(kept), want) {
		t.Error("writing over an argument changes an answer")
	}
	if got := tellAll(impl.Routes(netBefore, signalsBefore, 3)); !slices.Equal(got, want) {
		t.Error("the same argument has another answer")
	}
}

// What stands behind the lists of an argument, as far as an append would go, is not the program's either.
func TestRoutesLeaveWhatIsBehindTheArguments(t *testing.T) {
	n, signals := shared()
	roomy := copyNet(n)
	roomy.Pieces = append(roomy.Pieces, piece("behind", 7))
	roomy.Joints = append(roomy.Joints, impl.Joint{Kind: 9})
	more := append(slices.Clone(signals), post("behind", 1, 1, 1))
	cut := impl.Net{Pieces: roomy.Pieces[:len(n.Pieces)], Joints: roomy.Joints[:len(n.Joints)]}
	if got, want := tellAll(impl.Routes(cut, more[:len(signals)], 3)), tellAll(impl.Routes(n, signals, 3)); !slices.Equal(got, want) {
		t.Errorf("%q, want %q", got, want)
	}
	if roomy.Pieces[len(n.Pieces)] != piece("behind", 7) || roomy.Joints[len(n.Joints)].Kind != 9 || more[len(signals)] != post("behind", 1, 1, 1) {
		t.Error("Routes wrote behind an argument")
	}
}
