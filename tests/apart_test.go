package tests

import (
	"slices"
	"testing"

	"loop.example/lockbar/impl"
)

// spot is one place of a track.
type spot struct{ piece, at int }

// taken is what a route takes, place by place.
type taken struct {
	on, behind map[spot]bool
	crosses    []int
	needs      []impl.Lie
}

func takenBy(r impl.Route) taken {
	k := taken{on: spots(r.Parts), behind: spots(r.Over), crosses: r.Crosses, needs: slices.Clone(r.Lies)}
	for _, f := range r.Flanks {
		if f.Kind == impl.FSwitch {
			k.needs = append(k.needs, impl.Lie{Joint: f.Of, Lie: f.Lie})
		}
	}
	return k
}

func spots(parts []impl.Part) map[spot]bool {
	all := map[spot]bool{}
	for _, p := range parts {
		for at := p.From; at <= p.To; at++ {
			all[spot{p.Piece, at}] = true
		}
	}
	return all
}

func anySpot(a, b map[spot]bool) bool {
	for s := range a {
		if b[s] {
			return true
		}
	}
	return false
}

func (a taken) crossesWith(b taken) bool {
	return slices.ContainsFunc(a.crosses, func(j int) bool { return slices.Contains(b.crosses, j) })
}

func (a taken) wantsOtherwise(b taken) bool {
	return slices.ContainsFunc(a.needs, func(l impl.Lie) bool {
		return slices.ContainsFunc(b.needs, func(m impl.Lie) bool { return l.Joint == m.Joint && l.Lie != m.Lie })
	})
}

// reason is that of Exclude.
func (a taken) reason(b taken) int {
	switch {
	case anySpot(a.on, b.on):
		return 1
	case a.crossesWith(b):
		return 2
	case a.wantsOtherwise(b):
		return 3
	case anySpot(a.behind, b.on), anySpot(b.behind, a.on):
		return 4
	}
	return 0
}

// eachTwo shows each two routes of small nets, with what they take.
func eachTwo(t *testing.T, show func(a, b impl.Route, x, y taken)) {
	over := 0
	tried(func(n impl.Net, signals []impl.Signal) {
		if t.Failed() {
			return
		}
		over = (over + 3) % 19
		routes := impl.Routes(n, signals, over)
		var all []taken
		for _, r := range routes {
			all = append(all, takenBy(r))
		}
		for i := range routes {
			for k := range routes {
				show(routes[i], routes[k], all[i], all[k])
			}
		}
	})
}

func TestExcludeIsWhatPlacesTell(t *testing.T) {
	t.Parallel()
	eachTwo(t, func(a, b impl.Route, x, y taken) {
		if got, want := impl.Exclude(a, b), x.reason(y); got != want {
			t.Errorf("%q\n%q: %d, want %d", tell(a), tell(b), got, want)
		}
	})
}

// Two routes that do not exclude each other have nothing to do with each other.
func TestTwoThatDoNotExcludeEachOther(t *testing.T) {
	t.Parallel()
	count := 0
	eachTwo(t, func(a, b impl.Route, x, y taken) {
		if impl.Exclude(a, b) != 0 {
			return
		}
		count++
		for what, wrong := range map[string]bool{
			"a place in common":               anySpot(x.on, y.on),
			"the second behind the first":     anySpot(x.behind, y.on),
			"the first behind the second":     anySpot(y.behind, x.on),
			"a crossing in common":            x.crossesWith(y),
			"a switch wanted in two ways":     x.wantsOtherwise(y),
			"a switch that lies in two ways":  liesOtherwise(impl.Needs(a), impl.Needs(b)),
			"not the other way round as well": impl.Exclude(b, a) != 0,
		} {
			if wrong {
				t.Errorf("%s: %q\n%q", what, tell(a), tell(b))
			}
		}
	})
	if count < 1000 {
		t.Errorf("only %d", count)
	}
}

func liesOtherwise(a, b []impl.Lie) bool {
	how := map[int]int{}
	for _, l := range a {
		how[l.Joint] = l.Lie
	}
	for _, l := range b {
		if lie, ok := how[l.Joint]; ok && lie != l.Lie {
			return true
		}
	}
	return false
}
