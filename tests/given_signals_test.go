package tests

import (
	"math"
	"strconv"
	"testing"

	"loop.example/lockbar/impl"
)

// posts are right beside yard: two of them at one place, each looking its own way.
func posts() []impl.Signal {
	return []impl.Signal{
		{Name: "s", Piece: 0, At: 90, Way: 1},
		{Name: "x", Piece: 2, At: 290, Way: 1},
		{Name: "y", Piece: 3, At: 10, Way: -1},
		{Name: "z", Piece: 2, At: 290, Way: -1},
		{Name: "q", Piece: 6, At: 350, Way: 1},
	}
}

// manySignals are right beside a piece that is long enough.
func manySignals(count int) []impl.Signal {
	var s []impl.Signal
	for i := range count {
		s = append(s, impl.Signal{Name: "s" + strconv.Itoa(i), Piece: 0, At: 1 + i, Way: 1})
	}
	return s
}

func TestSignalsRight(t *testing.T) {
	none := impl.Fault{}
	wantSignals(t, "some", yard(), posts(), none)
	wantSignals(t, "nil", yard(), nil, none)
	wantSignals(t, "an empty list", yard(), []impl.Signal{}, none)
	s := posts()
	s[0].Name, s[1].Name, s[2].Name = "a", "w", "k"
	wantSignals(t, "the names of a piece, a switch and a crossing", yard(), s, none)
}

func TestSignalsBesideAWrongNet(t *testing.T) {
	first := impl.Fault{Code: 1}
	wantSignals(t, "the zero value", impl.Net{}, nil, first)
	wantSignals(t, "the zero value, with signals", impl.Net{}, posts(), first)
	for what, spoil := range map[string]func(n *impl.Net){
		"piece 3":     func(n *impl.Net) { n.Pieces[3].Len = 0 },
		"joint 3":     func(n *impl.Net) { n.Joints[3].Kind = 0 },
		"name 3":      func(n *impl.Net) { n.Joints[3].Name = "" },
		"ends":        func(n *impl.Net) { n.Joints = n.Joints[:7] },
		"many pieces": func(n *impl.Net) { n.Pieces = ring(impl.MaxPieces + 1).Pieces },
	} {
		n := yard()
		spoil(&n)
		wantSignals(t, what, n, posts(), first)
		wantSignals(t, what+" and too many signals", n, make([]impl.Signal, impl.MaxSignals+1), first)
		wantSignals(t, what+" and a wrong signal", n, []impl.Signal{{Name: "s", Piece: 3, At: 0, Way: 1}}, first)
	}
}

func TestSignalCount(t *testing.T) {
	wantSignals(t, "MaxSignals", yard(), manySignals(impl.MaxSignals), impl.Fault{})
	wantSignals(t, "one more", yard(), manySignals(impl.MaxSignals+1), impl.Fault{Code: 2})
	wantSignals(t, "very many", yard(), make([]impl.Signal, 100000), impl.Fault{Code: 2})
}

func TestSignalNames(t *testing.T) {
	for i := range posts() {
		for _, name := range wrongNames() {
			s := posts()
			s[i].Name = name
			wantSignals(t, "signal "+strconv.Quote(name), yard(), s, impl.Fault{Code: 3, At: i})
		}
	}
	for c := range 256 {
		s, want := posts(), impl.Fault{Code: 3, At: 2}
		s[2].Name = "x" + string([]byte{byte(c)})
		if signOk(c) {
			want = impl.Fault{}
		}
		wantSignals(t, "sign "+strconv.Itoa(c), yard(), s, want)
	}
	s := posts()
	s[4].Name = "abcdefghijklmnopqrst"
	wantSignals(t, "MaxName signs", yard(), s, impl.Fault{})
}

func TestSignalPieceAndWay(t *testing.T) {
	for i := range posts() {
		for _, p := range outside(0, len(yard().Pieces)-1) {
			s := posts()
			s[i].Piece = p
			wantSignals(t, "at piece "+strconv.Itoa(p), yard(), s, impl.Fault{Code: 3, At: i})
		}
		for _, way := range []int{math.MinInt, -2, 0, 2, 3, math.MaxInt} {
			s := posts()
			s[i].Way = way
			wantSignals(t, "Way "+strconv.Itoa(way), yard(), s, impl.Fault{Code: 3, At: i})
		}
	}
	s := posts()
	s[4].Piece, s[4].At = 0, 1
	wantSignals(t, "at the first piece", yard(), s, impl.Fault{})
	s[4].Piece, s[4].At = 6, 699
	wantSignals(t, "at the last piece", yard(), s, impl.Fault{})
}

func TestSignalAt(t *testing.T) {
	for p, piece := range yard().Pieces {
		for _, way := range []int{1, -1} {
			for _, at := range []int{1, 2, piece.Len / 2, piece.Len - 1} {
				s := []impl.Signal{{Name: "s", Piece: p, At: at, Way: way}}
				wantSignals(t, "At "+strconv.Itoa(at), yard(), s, impl.Fault{})
			}
			for _, at := range outside(1, piece.Len-1) {
				s := append(posts()[4:], impl.Signal{Name: "s", Piece: p, At: at, Way: way})
				wantSignals(t, "At "+strconv.Itoa(at), yard(), s, impl.Fault{Code: 3, At: 1})
			}
		}
	}
}

func TestSignalsAtShortAndLongPieces(t *testing.T) {
	n := stubs(3)
	n.Pieces[0].Len, n.Pieces[1].Len, n.Pieces[2].Len = 1, 2, impl.MaxLen
	for _, way := range []int{1, -1} {
		for _, c := range []struct {
			piece, at int
			right     bool
		}{
			{0, -1, false}, {0, 0, false}, {0, 1, false}, {0, 2, false},
			{1, 0, false}, {1, 1, true}, {1, 2, false},
			{2, 0, false}, {2, 1, true}, {2, impl.MaxLen - 1, true}, {2, impl.MaxLen, false},
		} {
			want := impl.Fault{Code: 3}
			if c.right {
				want = impl.Fault{}
			}
			s := []impl.Signal{{Name: "s", Piece: c.piece, At: c.at, Way: way}}
			wantSignals(t, "piece "+strconv.Itoa(c.piece)+" At "+strconv.Itoa(c.at), n, s, want)
		}
	}
}

func TestDoubleSignals(t *testing.T) {
	for i := range posts() {
		for ahead := range i {
			s := posts()
			s[i].Name = s[ahead].Name
			wantSignals(t, "the Name of one ahead", yard(), s, impl.Fault{Code: 4, At: i})

			s = posts()
			s[i].Piece, s[i].At, s[i].Way = s[ahead].Piece, s[ahead].At, s[ahead].Way
			wantSignals(t, "the place and Way of one ahead", yard(), s, impl.Fault{Code: 4, At: i})
		}
	}
	both := []impl.Signal{{Name: "s", Piece: 1, At: 50, Way: 1}, {Name: "x", Piece: 1, At: 50, Way: -1}}
	wantSignals(t, "one place, each its own way", yard(), both, impl.Fault{})
	both[1].Way = 1
	wantSignals(t, "one place, one way", yard(), both, impl.Fault{Code: 4, At: 1})
	both[1].At = 51
	wantSignals(t, "one Way, one piece, another At", yard(), both, impl.Fault{})
	both[1].At, both[1].Piece = 50, 2
	wantSignals(t, "one Way, one At, another piece", yard(), both, impl.Fault{})
}

func TestFirstFaultOfSignals(t *testing.T) {
	s := manySignals(impl.MaxSignals + 1)
	s[3].Way = 0
	s[5].At = 0
	s[1].Name = "s0"
	s[2].At = s[0].At
	wantSignals(t, "each of the faults", yard(), s, impl.Fault{Code: 2})
	s = s[:impl.MaxSignals]
	wantSignals(t, "the first that is wrong", yard(), s, impl.Fault{Code: 3, At: 3})
	s[3].Way = 1
	wantSignals(t, "a later wrong one ahead of an earlier double one", yard(), s, impl.Fault{Code: 3, At: 5})
	s[5].At = 99
	wantSignals(t, "a Name ahead of a place", yard(), s, impl.Fault{Code: 4, At: 1})
	s[1].Name, s[2].Name = "s1", "s0"
	s[1].At, s[2].At = s[0].At, 98
	wantSignals(t, "a place ahead of a Name", yard(), s, impl.Fault{Code: 4, At: 1})
	s[1].At = 97
	wantSignals(t, "the last fault", yard(), s, impl.Fault{Code: 4, At: 2})
	s[2].Name = "s2"
	wantSignals(t, "no fault", yard(), s, impl.Fault{})
}

func TestSpoiltSignalsAreAnswered(t *testing.T) {
	far := []int{math.MinInt, math.MinInt32, 0, math.MaxInt32, math.MaxInt}
	for _, a := range far {
		for _, b := range far {
			for _, c := range far {
				s := []impl.Signal{{Name: "s", Piece: a, At: b, Way: c}}
				wantSignals(t, "far numbers", yard(), s, impl.Fault{Code: 3})
				wantSignals(t, "far numbers beside no net", impl.Net{}, s, impl.Fault{Code: 1})
			}
		}
	}
}
