package tests

import (
	"math"
	"reflect"
	"slices"
	"strconv"
	"testing"

	"loop.example/lockbar/impl"
)

func piece(name string, length int) impl.Piece {
	return impl.Piece{Name: name, Len: length, Speed: 100, Brake: 10}
}

func end(p, side int) impl.End { return impl.End{Piece: p, Side: side} }

func buffer(e impl.End) impl.Joint {
	return impl.Joint{Kind: impl.JEnd, Ends: []impl.End{e}}
}

func plain(a, b impl.End) impl.Joint {
	return impl.Joint{Kind: impl.JPlain, Ends: []impl.End{a, b}}
}

func points(name string, tip, left, right impl.End) impl.Joint {
	return impl.Joint{Kind: impl.JSwitch, Name: name, Ends: []impl.End{tip, left, right}}
}

func crossing(name string, a, b, c, d impl.End) impl.Joint {
	return impl.Joint{Kind: impl.JCross, Name: name, Ends: []impl.End{a, b, c, d}}
}

// yard has each kind of joint.
//
// Pieces: 0 a, 1 b, 2 c, 3 d, 4 e, 5 f, 6 g.
// Joints: 0 and 4 to 6 buffers, 1 plain, 2 the switch w, 3 the crossing k.
//
//	buffer - a - plain - b - w (left c, right d)
//	c - k - e - buffer, d - k - f - buffer, g - buffer at both ends
func yard() impl.Net {
	return impl.Net{
		Pieces: []impl.Piece{piece("a", 100), piece("b", 200), piece("c", 300), piece("d", 400), piece("e", 500), piece("f", 600), piece("g", 700)},
		Joints: []impl.Joint{
			buffer(end(0, 0)),
			plain(end(0, 1), end(1, 0)),
			points("w", end(1, 1), end(2, 0), end(3, 0)),
			crossing("k", end(2, 1), end(4, 0), end(3, 1), end(5, 0)),
			buffer(end(4, 1)),
			buffer(end(5, 1)),
			buffer(end(6, 0)),
			buffer(end(6, 1)),
		},
	}
}

// ring is right: pieces one behind the other, the last one before the first, a plain joint between each two.
func ring(pieces int) impl.Net {
	var n impl.Net
	for i := range pieces {
		n.Pieces = append(n.Pieces, piece("p"+strconv.Itoa(i), 100))
		n.Joints = append(n.Joints, plain(end(i, 1), end((i+1)%pieces, 0)))
	}
	return n
}

// stubs is right but for its size: pieces that hang on nothing, a buffer at both ends of each.
func stubs(pieces int) impl.Net {
	var n impl.Net
	for i := range pieces {
		n.Pieces = append(n.Pieces, piece("p"+strconv.Itoa(i), 100))
		n.Joints = append(n.Joints, buffer(end(i, 0)), buffer(end(i, 1)))
	}
	return n
}

func copyNet(n impl.Net) impl.Net {
	n.Pieces = slices.Clone(n.Pieces)
	n.Joints = slices.Clone(n.Joints)
	for i := range n.Joints {
		n.Joints[i].Ends = slices.Clone(n.Joints[i].Ends)
	}
	return n
}

// wantNet asks twice, and looks that the net stands as it stood.
func wantNet(t *testing.T, what string, n impl.Net, want impl.Fault) {
	t.Helper()
	before := copyNet(n)
	for range 2 {
		if got := impl.NetOk(n); got != want {
			t.Errorf("%s: NetOk is %v, want %v", what, got, want)
		}
	}
	if !reflect.DeepEqual(n, before) {
		t.Errorf("%s: NetOk changed the net", what)
	}
}

// wantSignals asks twice, and looks that the net and the signals stand as they stood.
func wantSignals(t *testing.T, what string, n impl.Net, signals []impl.Signal, want impl.Fault) {
	t.Helper()
	netBefore, signalsBefore := copyNet(n), slices.Clone(signals)
	for range 2 {
		if got := impl.SignalsOk(n, signals); got != want {
			t.Errorf("%s: SignalsOk is %v, want %v", what, got, want)
		}
	}
	if !reflect.DeepEqual(n, netBefore) || !reflect.DeepEqual(signals, signalsBefore) {
		t.Errorf("%s: SignalsOk changed an argument", what)
	}
}

// outside are numbers around low .. high that are not in it, the farthest ones among them.
func outside(low, high int) []int {
	return []int{math.MinInt, math.MinInt + 1, -high, low - 1, high + 1, math.MaxInt - 1, math.MaxInt}
}

// wrongNames are none, or have a sign too many or a sign that no name has.
func wrongNames() []string {
	return []string{"", "abcdefghijklmnopqrstu", "A", "aB", "a b", " a", "a ", "a-b", "a.b", "\x00", "a\x00", "ä", "é1", "a\xff", "a\n", "０"}
}

func signOk(c int) bool {
	return c >= 'a' && c <= 'z' || c >= '0' && c <= '9' || c == '_'
}
