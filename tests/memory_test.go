package tests

import (
	"fmt"
	"reflect"
	"slices"
	"sync"
	"testing"

	"loop.example/lockbar/impl"
)

// call is all that the functions of the program are asked about.
type call struct {
	given
	from string
	lies []int
}

func callOf(g given, from string, lies []int) call { return call{given: g, from: from, lies: lies} }

// roomy has the same values, and behind each list something that an append would write over.
func (c call) roomy() call {
	n := impl.Net{Pieces: roomy(c.net.Pieces, impl.Piece{Name: "behind"}), Joints: roomy(c.net.Joints, impl.Joint{Kind: -7})}
	for i, j := range n.Joints {
		n.Joints[i].Ends = roomy(j.Ends, end(-7, -7))
	}
	table := roomy(c.table, []int{-7})
	for i, row := range table {
		table[i] = roomy(row, -7)
	}
	g := given{net: n, signals: roomy(c.signals, post("behind", -7, -7, -7)), over: c.over, routes: roomyRoutes(c.routes), table: table}
	return callOf(g, c.from, roomy(c.lies, -7))
}

// all shows also what is behind the lists, as a text, which nobody can change.
func (c call) all() string {
	joints := slices.Clone(c.net.Joints[:cap(c.net.Joints)])
	for i, j := range joints {
		joints[i].Ends = j.Ends[:cap(j.Ends)]
	}
	return fmt.Sprint(c.net.Pieces[:cap(c.net.Pieces)], joints, c.signals[:cap(c.signals)], c.over,
		allToTheEnd(c.routes), rowsToTheEnd(c.table), c.from, c.lies[:cap(c.lies)])
}

// spoil writes over all lists, to their ends.
func (c call) spoil() {
	for i := range c.routes {
		for _, spoil := range spoilers() {
			spoil(&c.routes[i])
		}
	}
	for i := range c.net.Joints {
		fill(c.net.Joints[i].Ends, impl.End{Piece: -9})
	}
	for i := range c.table {
		fill(c.table[i], -9)
	}
	fill(c.routes, impl.Route{From: -9})
	fill(c.net.Joints, impl.Joint{Kind: -9})
	fill(c.net.Pieces, impl.Piece{Name: "spoilt"})
	fill(c.signals, impl.Signal{Name: "spoilt"})
	fill(c.table, nil)
	fill(c.lies, -9)
}

// functions are all of the program; those that take routes one by one are asked for all of them.
func functions() map[string]func(c call) any {
	eachTwo := func(c call) any {
		var all []int
		for _, a := range c.routes {
			for _, b := range c.routes {
				all = append(all, impl.Exclude(a, b))
			}
		}
		return all
	}
	needs := func(c call) any {
		var all [][]impl.Lie
		for _, r := range c.routes {
			all = append(all, impl.Needs(r))
		}
		return all
	}
	return map[string]func(c call) any{
		"NetOk":     func(c call) any { return impl.NetOk(c.net) },
		"SignalsOk": func(c call) any { return impl.SignalsOk(c.net, c.signals) },
		"Routes":    func(c call) any { return impl.Routes(c.net, c.signals, c.over) },
		"Needs":     needs,
		"Exclude":   eachTwo,
		"Table":     func(c call) any { return impl.Table(c.routes) },
		"Check":     func(c call) any { return impl.Check(c.net, c.signals, c.over, c.routes, c.table) },
		"Listing":   func(c call) any { return impl.Listing(c.net, c.signals, c.routes) },
		"RouteAt":   func(c call) any { return impl.RouteAt(c.net, c.signals, c.routes, c.from, c.lies) },
	}
}

// calls have each kind of answer: right arguments, and wrong ones of each sort.
func calls() map[string]call {
	n, signals := shared()
	wrongRoute, wrongSignal, wrongNet, wrongTable := checked(), checked(), checked(), checked()
	wrongRoute.routes[4].Flanks[0].Of = 1 << 40
	wrongSignal.signals[3].At = -5
	wrongNet.net.Joints[2].Ends[1].Piece = 77
	wrongTable.table[3][1] = 9
	return map[string]call{
		"a yard":                  callOf(checked(), "s", yardLies(2)),
		"routes that go together": callOf(givenOf(n, signals, 3), "s", slices.Repeat([]int{2}, len(n.Joints))),
		"a ring":                  callOf(givenOf(ring(3), []impl.Signal{post("s", 1, 40, 1)}, 1000), "s", make([]int, 3)),
		"a route that is none":    callOf(wrongRoute, "q", yardLies(1)),
		"a wrong signal":          callOf(wrongSignal, "s", yardLies(1)),
		"a wrong net":             callOf(wrongNet, "s", yardLies(1)),
		"a wrong table":           callOf(wrongTable, "t", yardLies(1)),
		"too few lies":            callOf(checked(), "s", []int{1}),
		"routes of no track":      callOf(given{net: yard(), signals: posts(), over: 5, routes: mixed(), table: [][]int{{1}}}, "s", nil),
		"nothing":                 {},
	}
}

func TestNoArgumentIsWrittenInto(t *testing.T) {
	for what, c := range calls() {
		for name, f := range functions() {
			r := c.roomy()
			before := r.all()
			f(r)
			if r.all() != before {
				t.Errorf("%s, %s: it stood there\n%s\nand then\n%s", name, what, before, r.all())
			}
		}
	}
}

// The same argument has the same answer: in other memory, behind other calls, and however often.
func TestSameArgumentSameAnswer(t *testing.T) {
	want := map[string]string{}
	for what, c := range calls() {
		for name, f := range functions() {
			want[name+what] = fmt.Sprint(f(c))
		}
	}
	for range 3 {
		for what, c := range calls() {
			for name, f := range functions() {
				if got := fmt.Sprint(f(c.roomy())); got != want[name+what] {
					t.Errorf("%s, %s: %s, then %s", name, what, want[name+what], got)
				}
			}
		}
	}
}

func TestSameAnswerSideBySide(t *testing.T) {
	c := calls()["a yard"]
	for name, f := range functions() {
		want := fmt.Sprint(f(c))
		got := make([]string, 16)
		var all sync.WaitGroup
		for i := range got {
			all.Go(func() { got[i] = fmt.Sprint(f(c)) })
		}
		all.Wait()
		for _, g := range got {
			if g != want {
				t.Errorf("%s: %s, want %s", name, g, want)
			}
		}
	}
}

// Writing over an argument leaves the answer as it was.
func TestAnswersKeepNoArgument(t *testing.T) {
	for what, c := range calls() {
		for name, f := range functions() {
			r := c.roomy()
			got := f(r)
			before := fmt.Sprint(got)
			r.spoil()
			if fmt.Sprint(got) != before {
				t.Errorf("%s, %s: the answer was %s, and is then %v", name, what, before, got)
			}
		}
	}
}

// listsOf are all lists in a value, those in other lists too.
func listsOf(v reflect.Value) []reflect.Value {
	var all []reflect.Value
	switch v.Kind() {
	case reflect.Slice:
		all = append(all, v)
		for i := range v.Len() {
			all = append(all, listsOf(v.Index(i))...)
		}
	case reflect.Struct:
		for i := range v.NumField() {
			all = append(all, listsOf(v.Field(i))...)
		}
	}
	return all
}

// overlap tells whether two lists have memory in common.
func overlap(a, b reflect.Value) bool {
	from, to := a.Pointer(), a.Pointer()+uintptr(a.Cap())*a.Type().Elem().Size()
	start, stop := b.Pointer(), b.Pointer()+uintptr(b.Cap())*b.Type().Elem().Size()
	return from < stop && start < to
}

func TestListsOfAnswersShareNoMemory(t *testing.T) {
	seen := 0
	for what, c := range calls() {
		for name, f := range functions() {
			r := c.roomy()
			answer := listsOf(reflect.ValueOf(f(r)))
			arguments := listsOf(reflect.ValueOf(r))
			seen += len(answer)
			for i, a := range answer {
				if slices.ContainsFunc(answer[i+1:], func(b reflect.Value) bool { return overlap(a, b) }) {
					t.Errorf("%s, %s: two lists of the answer share memory", name, what)
				}
				if slices.ContainsFunc(arguments, func(b reflect.Value) bool { return overlap(a, b) }) {
					t.Errorf("%s, %s: the answer shares memory with an argument", name, what)
				}
			}
		}
	}
	if seen < 100 {
		t.Errorf("only %d lists", seen)
	}
}

func TestNoArgumentIsWrittenIntoForSmallNets(t *testing.T) {
	t.Parallel()
	seen := 0
	tried(func(n impl.Net, signals []impl.Signal) {
		seen++
		if t.Failed() || seen%19 != 0 {
			return
		}
		from := ""
		if len(signals) > 0 {
			from = signals[0].Name
		}
		c := callOf(givenOf(n, signals, 5), from, slices.Repeat([]int{1 + seen%2}, len(n.Joints))).roomy()
		before := c.all()
		for name, f := range functions() {
			first := fmt.Sprint(f(c))
			if c.all() != before || fmt.Sprint(f(c)) != first {
				t.Errorf("%s: net %v\nsignals %v: it was written into, or has two answers", name, n, signals)
			}
		}
	})
}
