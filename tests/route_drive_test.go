package tests

import (
	"cmp"
	"reflect"
	"slices"
	"testing"

	"loop.example/lockbar/impl"
)

// drive goes unit by unit from a signal as it looks, with each switch as lies says, a number for each joint.
// It answers false when it comes to no end: at a switch that lies otherwise, or round and round.
func drive(n impl.Net, signals []impl.Signal, from int, lies []int) (impl.Route, bool) {
	s := signals[from]
	r := impl.Route{From: from, To: -1, Steps: []impl.Step{{Piece: s.Piece, Way: s.Way}}}
	start, at := s.At, s.At
	for len(r.Steps) < 3*len(n.Pieces)+3 {
		here := r.Steps[len(r.Steps)-1]
		if at > 0 && here.Way < 0 || at < n.Pieces[here.Piece].Len && here.Way > 0 {
			at += here.Way
			if to := signalAt(signals, here, at); to >= 0 {
				r.To = to
				r.Parts = append(r.Parts, span(here.Piece, start, at))
				return r, true
			}
			continue
		}
		r.Parts = append(r.Parts, span(here.Piece, start, at))
		j, place := jointAt(n, end(here.Piece, (here.Way+1)/2))
		to := driveOver(&r, n.Joints[j].Kind, j, place, lies[j])
		if to < 0 {
			return r, n.Joints[j].Kind == impl.JEnd
		}
		next := n.Joints[j].Ends[to]
		start = next.Side * n.Pieces[next.Piece].Len
		at = start
		r.Steps = append(r.Steps, impl.Step{Piece: next.Piece, Way: 1 - 2*next.Side})
	}
	return r, false
}

// driveOver tells the place behind a joint, -1 when there is none, and notes what was gone over.
func driveOver(r *impl.Route, kind, j, place, lie int) int {
	switch kind {
	case impl.JPlain:
		return 1 - place
	case impl.JCross:
		r.Crosses = append(r.Crosses, j)
		return [...]int{1, 0, 3, 2}[place]
	case impl.JSwitch:
		r.Lies = append(r.Lies, impl.Lie{Joint: j, Lie: lie})
		if place == 0 {
			return lie
		} else if place == lie {
			return 0
		}
	}
	return -1
}

func span(p, a, b int) impl.Part { return impl.Part{Piece: p, From: min(a, b), To: max(a, b)} }

func signalAt(signals []impl.Signal, here impl.Step, at int) int {
	return slices.IndexFunc(signals, func(s impl.Signal) bool { return s.Piece == here.Piece && s.Way == here.Way && s.At == at })
}

func jointAt(n impl.Net, e impl.End) (joint, place int) {
	for j, joint := range n.Joints {
		if place := slices.Index(joint.Ends, e); place >= 0 {
			return j, place
		}
	}
	return -1, -1
}

// everyLie shows each way in which the switches of a net can lie.
func everyLie(n impl.Net, show func(lies []int)) {
	var switches []int
	for j, joint := range n.Joints {
		if joint.Kind == impl.JSwitch {
			switches = append(switches, j)
		}
	}
	for choice := range 1 << len(switches) {
		lies := make([]int, len(n.Joints))
		for i, j := range switches {
			lies[j] = 1 + choice>>i&1
		}
		show(lies)
	}
}

// driven are the routes over which one drives, however switches lie, with all that each one has.
func driven(n impl.Net, signals []impl.Signal, over int) []impl.Route {
	var all []impl.Route
	for from := range signals {
		var own []impl.Route
		everyLie(n, func(lies []int) {
			r, ok := drive(n, signals, from, lies)
			if ok && !slices.ContainsFunc(own, func(o impl.Route) bool { return reflect.DeepEqual(o, r) }) {
				own = append(own, r)
			}
		})
		slices.SortFunc(own, func(a, b impl.Route) int {
			return slices.CompareFunc(a.Lies, b.Lies, func(x, y impl.Lie) int { return cmp.Compare(x.Lie, y.Lie) })
		})
		all = append(all, own...)
	}
	for i := range all {
		all[i].Over = unitsBehind(n, signals, all[i].To, over)
		all[i].Flanks = flanksAround(n, signals, all[i].Lies)
	}
	return all
}

// unitsBehind goes unit by unit.
func unitsBehind(n impl.Net, signals []impl.Signal, to, over int) []impl.Part {
	if to < 0 {
		return nil
	}
	s := signals[to]
	here, at := impl.Step{Piece: s.Piece, Way: s.Way}, s.At
	var parts []impl.Part
	fresh := true
	for range over {
		if at == (here.Way+1)/2*n.Pieces[here.Piece].Len {
			j, place := jointAt(n, end(here.Piece, (here.Way+1)/2))
			if n.Joints[j].Kind != impl.JPlain {
				break
			}
			next := n.Joints[j].Ends[1-place]
			here, at, fresh = impl.Step{Piece: next.Piece, Way: 1 - 2*next.Side}, next.Side*n.Pieces[next.Piece].Len, true
		}
		if fresh {
			parts = append(parts, impl.Part{Piece: here.Piece, From: at, To: at})
			fresh = false
		}
		at += here.Way
		last := &parts[len(parts)-1]
		last.From, last.To = min(last.From, at), max(last.To, at)
	}
	return parts
}

// flanksAround keeps a pile of ends that are still to be looked from.
func flanksAround(n impl.Net, signals []impl.Signal, lies []impl.Lie) []impl.Flank {
	var all []impl.Flank
	for _, l := range lies {
		var looked []impl.End
		pile := []impl.End{n.Joints[l.Joint].Ends[3-l.Lie]}
		for len(pile) > 0 {
			e := pile[len(pile)-1]
			pile = pile[:len(pile)-1]
			if slices.Contains(looked, e) {
				continue
			}
			looked = append(looked, e)
			f, more := flankFrom(n, signals, lies, e)
			if f.Kind != 0 {
				f.At = l.Joint
				all = append(all, f)
			}
			pile = append(pile, more...)
		}
	}
	return all
}

// flankFrom tells what is found from an end, or the ends to look on from, the last one first.
func flankFrom(n impl.Net, signals []impl.Signal, lies []impl.Lie, e impl.End) (impl.Flank, []impl.End) {
	length := n.Pieces[e.Piece].Len
	for away := 1; away < length; away++ {
		at := away
		if e.Side == 1 {
			at = length - away
		}
		if s := signalAt(signals, impl.Step{Piece: e.Piece, Way: 2*e.Side - 1}, at); s >= 0 {
			return impl.Flank{Kind: impl.FSignal, Of: s}, nil
		}
	}
	j, place := jointAt(n, end(e.Piece, 1-e.Side))
	ends := n.Joints[j].Ends
	switch n.Joints[j].Kind {
	case impl.JEnd:
		return impl.Flank{Kind: impl.FBuffer, Of: j}, nil
	case impl.JPlain:
		return impl.Flank{}, []impl.End{ends[1-place]}
	case impl.JCross:
		return impl.Flank{}, []impl.End{ends[[...]int{1, 0, 3, 2}[place]]}
	}
	if place == 0 {
		return impl.Flank{}, []impl.End{ends[2], ends[1]}
	} else if slices.Contains(lies, impl.Lie{Joint: j, Lie: place}) {
		return impl.Flank{Kind: impl.FOpen, Of: j}, nil
	}
	return impl.Flank{Kind: impl.FSwitch, Of: j, Lie: 3 - place}, nil
}

// tried shows small nets with signals: all of up to 3 pieces, many of 4, and some greater ones.
func tried(show func(n impl.Net, signals []impl.Signal)) {
	for pieces := 1; pieces <= 2; pieces++ {
		smallNets(pieces, func(n impl.Net) {
			for choice := range 36 {
				show(n, smallPosts(pieces, choice))
			}
		})
	}
	seen := 0
	smallNets(3, func(n impl.Net) {
		seen++
		for choice := seen % 7; choice < 216; choice += 7 {
			show(n, smallPosts(3, choice))
		}
	})
	smallNets(4, func(n impl.Net) {
		seen++
		if seen%4 == 0 {
			show(n, smallPosts(4, seen*89%1296))
		}
	})
	d := dice(1)
	for i := range 3000 {
		n := thrownNet(&d, 5+i%8)
		show(n, thrownPosts(&d, n, 6))
	}
}

func TestRoutesAreWhatIsDriven(t *testing.T) {
	t.Parallel()
	count, over := 0, 0
	tried(func(n impl.Net, signals []impl.Signal) {
		if t.Failed() {
			return
		}
		over = (over + 3) % 19
		want := driven(n, signals, over)
		got := impl.Routes(n, signals, over)
		count += len(got)
		if !slices.Equal(tellAll(got), tellAll(want)) {
			t.Errorf("net %v\nsignals %v\nover %d\nroutes %q\nwant   %q", n, signals, over, tellAll(got), tellAll(want))
		}
	})
	if count < 10000 {
		t.Errorf("only %d routes", count)
	}
}

// However switches lie, who drives from a signal drives over just one route, or comes to no end.
func TestADriveIsJustOneRoute(t *testing.T) {
	t.Parallel()
	ends, noEnds := 0, 0
	tried(func(n impl.Net, signals []impl.Signal) {
		if t.Failed() {
			return
		}
		routes := impl.Routes(n, signals, 5)
		everyLie(n, func(lies []int) {
			for from := range signals {
				fits := slices.DeleteFunc(slices.Clone(routes), func(r impl.Route) bool {
					return r.From != from || slices.ContainsFunc(r.Lies, func(l impl.Lie) bool { return lies[l.Joint] != l.Lie })
				})
				r, ok := drive(n, signals, from, lies)
				if !ok {
					noEnds++
					if len(fits) != 0 {
						t.Errorf("net %v\nsignals %v\nlies %v: from %d one comes to no end, yet there is %q", n, signals, lies, from, tellAll(fits))
					}
					continue
				}
				ends++
				if len(fits) != 1 || fits[0].To != r.To || !slices.Equal(fits[0].Steps, r.Steps) || !slices.Equal(fits[0].Lies, onceEach(r.Lies)) {
					t.Errorf("net %v\nsignals %v\nlies %v: from %d one drives %q, but the routes are %q", n, signals, lies, from, tell(r), tellAll(fits))
				}
			}
		})
	})
	if ends < 10000 || noEnds < 1000 {
		t.Errorf("only %d drives that end, %d that do not", ends, noEnds)
	}
}

// onceEach leaves a switch that is driven over again where it stands first.
func onceEach(lies []impl.Lie) []impl.Lie {
	var once []impl.Lie
	for _, l := range lies {
		if !slices.Contains(once, l) {
			once = append(once, l)
		}
	}
	return once
}

// A route's parts lie one after the other on its steps, from its signal to the next; each of its switches has a flank.
func TestPartsAndFlanksOfEachRoute(t *testing.T) {
	t.Parallel()
	tried(func(n impl.Net, signals []impl.Signal) {
		for _, r := range impl.Routes(n, signals, 5) {
			if what := wrongWithParts(n, signals, r); what != "" {
				t.Fatalf("%s: net %v\nsignals %v\nroute %q", what, n, signals, tell(r))
			}
			if what := wrongWithFlanks(r); what != "" {
				t.Fatalf("%s: net %v\nsignals %v\nroute %q", what, n, signals, tell(r))
			}
		}
	})
}

func wrongWithParts(n impl.Net, signals []impl.Signal, r impl.Route) string {
	if len(r.Parts) != len(r.Steps) || len(r.Steps) == 0 {
		return "not a part for each step"
	}
	for i, s := range r.Steps {
		p := r.Parts[i]
		in, out := p.From, p.To
		first, last := 0, n.Pieces[s.Piece].Len
		if s.Way == -1 {
			in, out, first, last = out, in, last, first
		}
		if i == 0 {
			first = signals[r.From].At
		}
		if i == len(r.Steps)-1 && r.To >= 0 {
			last = signals[r.To].At
		}
		if p.Piece != s.Piece || in != first || out != last || p.From >= p.To {
			return "a part that is not its step's"
		}
		if i > 0 && !meet(n, r.Steps[i-1], s) {
			return "steps that do not meet"
		}
	}
	return wrongWithEnds(n, signals, r)
}

func wrongWithEnds(n impl.Net, signals []impl.Signal, r impl.Route) string {
	first, last := r.Steps[0], r.Steps[len(r.Steps)-1]
	if s := signals[r.From]; s.Piece != first.Piece || s.Way != first.Way {
		return "it does not begin at its signal"
	}
	if r.To < 0 {
		j, _ := jointAt(n, end(last.Piece, (last.Way+1)/2))
		if n.Joints[j].Kind != impl.JEnd {
			return "it does not end at a buffer"
		}
	} else if s := signals[r.To]; s.Piece != last.Piece || s.Way != last.Way {
		return "it does not end at its signal"
	}
	return ""
}

// meet tells whether one comes over a joint from the one step to the other.
func meet(n impl.Net, a, b impl.Step) bool {
	j, from := jointAt(n, end(a.Piece, (a.Way+1)/2))
	k, to := jointAt(n, end(b.Piece, (1-b.Way)/2))
	switch n.Joints[j].Kind {
	case impl.JSwitch:
		return j == k && from != to && (from == 0 || to == 0)
	case impl.JCross:
		return j == k && from != to && from/2 == to/2
	}
	return j == k && from != to
}

func wrongWithFlanks(r impl.Route) string {
	next := 0
	for i, l := range r.Lies {
		if slices.ContainsFunc(r.Lies[:i], func(o impl.Lie) bool { return o.Joint == l.Joint }) {
			return "a switch stands twice"
		}
		before := next
		for next < len(r.Flanks) && r.Flanks[next].At == l.Joint {
			next++
		}
		if next == before {
			return "a switch without a flank"
		}
	}
	if next != len(r.Flanks) {
		return "flanks out of order"
	}
	return ""
}
