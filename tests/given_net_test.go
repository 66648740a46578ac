package tests

import (
	"math"
	"strconv"
	"testing"

	"loop.example/lockbar/impl"
)

func TestNetRight(t *testing.T) {
	none := impl.Fault{}
	wantNet(t, "each kind of joint", yard(), none)
	wantNet(t, "one piece between buffers", stubs(1), none)
	wantNet(t, "one piece that is a ring", ring(1), none)
	wantNet(t, "a ring of two", ring(2), none)
	wantNet(t, "a switch with both ends of a piece", impl.Net{
		Pieces: []impl.Piece{piece("a", 1), piece("b", 1)},
		Joints: []impl.Joint{points("w", end(0, 0), end(1, 0), end(1, 1)), buffer(end(0, 1))},
	}, none)
	wantNet(t, "a crossing with all ends of two pieces", impl.Net{
		Pieces: []impl.Piece{piece("a", 1), piece("b", 1)},
		Joints: []impl.Joint{crossing("k", end(0, 0), end(1, 1), end(0, 1), end(1, 0))},
	}, none)
	n := yard()
	n.Joints[2].Name, n.Joints[3].Name = "a", "b"
	wantNet(t, "joints with the names of pieces", n, none)
}

func TestNetSize(t *testing.T) {
	size := impl.Fault{Code: 1}
	wantNet(t, "the zero value", impl.Net{}, size)
	wantNet(t, "empty lists", impl.Net{Pieces: []impl.Piece{}, Joints: []impl.Joint{}}, size)
	wantNet(t, "joints without pieces", impl.Net{Joints: yard().Joints}, size)
	wantNet(t, "MaxPieces pieces", ring(impl.MaxPieces), impl.Fault{})
	wantNet(t, "a piece more", ring(impl.MaxPieces+1), size)

	n := stubs(impl.MaxJoints / 2)
	if len(n.Joints) != impl.MaxJoints {
		t.Fatal(len(n.Joints))
	}
	wantNet(t, "MaxJoints joints", n, impl.Fault{})
	last := len(n.Pieces)
	n.Pieces = append(n.Pieces, piece("last", 1))
	n.Joints = append(n.Joints, plain(end(last, 0), end(last, 1)))
	wantNet(t, "a joint more", n, size)
	wantNet(t, "very many pieces", impl.Net{Pieces: make([]impl.Piece, 100000)}, size)
	wantNet(t, "very many joints", impl.Net{Pieces: stubs(1).Pieces, Joints: make([]impl.Joint, 100000)}, size)
}

func TestLimitsAreThoseOfTheDocument(t *testing.T) {
	got := [...]int{impl.MaxPieces, impl.MaxJoints, impl.MaxName, impl.MaxLen, impl.MaxSpeed, impl.MaxBrake, impl.MaxSignals, impl.JEnd, impl.JPlain, impl.JSwitch, impl.JCross}
	want := [...]int{100, 120, 20, 10000000, 10000, 1000, 60, 1, 2, 3, 4}
	if got != want {
		t.Errorf("%v, want %v", got, want)
	}
}

func TestPieceNumbers(t *testing.T) {
	for _, c := range []struct {
		what  string
		field func(p *impl.Piece) *int
		most  int
	}{
		{"Len", func(p *impl.Piece) *int { return &p.Len }, impl.MaxLen},
		{"Speed", func(p *impl.Piece) *int { return &p.Speed }, impl.MaxSpeed},
		{"Brake", func(p *impl.Piece) *int { return &p.Brake }, impl.MaxBrake},
	} {
		for p := range yard().Pieces {
			for _, v := range []int{1, 2, c.most - 1, c.most} {
				n := yard()
				*c.field(&n.Pieces[p]) = v
				wantNet(t, c.what+" "+strconv.Itoa(v), n, impl.Fault{})
			}
			for _, v := range outside(1, c.most) {
				n := yard()
				*c.field(&n.Pieces[p]) = v
				wantNet(t, c.what+" "+strconv.Itoa(v), n, impl.Fault{Code: 2, At: p})
			}
		}
	}
}

func TestPieceNames(t *testing.T) {
	for p := range yard().Pieces {
		for _, name := range wrongNames() {
			n := yard()
			n.Pieces[p].Name = name
			wantNet(t, "piece "+strconv.Quote(name), n, impl.Fault{Code: 2, At: p})
		}
		for ahead := range p {
			n := yard()
			n.Pieces[p].Name = n.Pieces[ahead].Name
			wantNet(t, "the Name of one ahead", n, impl.Fault{Code: 2, At: p})
		}
	}
	for _, name := range []string{"z", "0", "9", "_", "____", "klmnopqrstuvwxyz0123", "456789_abcdefghijklm", "007"} {
		n := yard()
		n.Pieces[3].Name = name
		wantNet(t, "piece "+name, n, impl.Fault{})
	}
	for c := range 256 {
		n, want := stubs(1), impl.Fault{Code: 2}
		n.Pieces[0].Name = "x" + string([]byte{byte(c)}) + "x"
		if signOk(c) {
			want = impl.Fault{}
		}
		wantNet(t, "sign "+strconv.Itoa(c), n, want)
	}
}

func TestJointKinds(t *testing.T) {
	for j := range yard().Joints {
		for _, kind := range outside(impl.JEnd, impl.JCross) {
			n := yard()
			n.Joints[j].Kind = kind
			wantNet(t, "Kind "+strconv.Itoa(kind), n, impl.Fault{Code: 3, At: j})
		}
		for _, kind := range []int{impl.JEnd, impl.JPlain, impl.JSwitch, impl.JCross} {
			n := yard()
			if n.Joints[j].Kind == kind {
				continue
			}
			n.Joints[j].Kind = kind
			wantNet(t, "the Kind of another number of Ends", n, impl.Fault{Code: 3, At: j})
		}
	}
}

func TestJointEnds(t *testing.T) {
	for j, joint := range yard().Joints {
		for count := range 8 {
			if count == len(joint.Ends) {
				continue
			}
			n := yard()
			n.Joints[j].Ends = make([]impl.End, count)
			wantNet(t, "another number of Ends", n, impl.Fault{Code: 3, At: j})
		}
		n := yard()
		n.Joints[j].Ends = nil
		wantNet(t, "no Ends", n, impl.Fault{Code: 3, At: j})
		n = yard()
		n.Joints[j].Ends = make([]impl.End, 10000)
		wantNet(t, "very many Ends", n, impl.Fault{Code: 3, At: j})
		for e := range joint.Ends {
			for _, p := range outside(0, len(n.Pieces)-1) {
				n := yard()
				n.Joints[j].Ends[e].Piece = p
				wantNet(t, "an End of piece "+strconv.Itoa(p), n, impl.Fault{Code: 3, At: j})
			}
			for _, side := range []int{math.MinInt, -1, 2, 3, math.MaxInt} {
				n := yard()
				n.Joints[j].Ends[e].Side = side
				wantNet(t, "an End of Side "+strconv.Itoa(side), n, impl.Fault{Code: 3, At: j})
			}
		}
	}
}

func TestNamesOfBuffersAndPlainJoints(t *testing.T) {
	for _, j := range []int{0, 1, 4, 5, 6, 7} {
		for _, name := range []string{"a", "w", "k", "free", "A", " ", "\x00", "abcdefghijklmnopqrstu"} {
			n := yard()
			n.Joints[j].Name = name
			wantNet(t, "a Name where none is", n, impl.Fault{Code: 4, At: j})
		}
	}
}

func TestNamesOfSwitchesAndCrossings(t *testing.T) {
	for _, j := range []int{2, 3} {
		for _, name := range wrongNames() {
			n := yard()
			n.Joints[j].Name = name
			wantNet(t, "joint "+strconv.Quote(name), n, impl.Fault{Code: 4, At: j})
		}
		for _, name := range []string{"z", "_", "0", "abcdefghijklmnopqrst"} {
			n := yard()
			n.Joints[j].Name = name
			wantNet(t, "joint "+name, n, impl.Fault{})
		}
		for c := range 256 {
			n, want := yard(), impl.Fault{Code: 4, At: j}
			n.Joints[j].Name = string([]byte{byte(c)}) + "x"
			if signOk(c) {
				want = impl.Fault{}
			}
			wantNet(t, "sign "+strconv.Itoa(c), n, want)
		}
	}
	n := yard()
	n.Joints[3].Name = "w"
	wantNet(t, "a crossing with the Name of a switch ahead", n, impl.Fault{Code: 4, At: 3})

	n = yard()
	n.Joints[2], n.Joints[3] = n.Joints[3], n.Joints[2]
	n.Joints[3].Name = "k"
	wantNet(t, "a switch with the Name of a crossing ahead", n, impl.Fault{Code: 4, At: 3})
}

func TestEndsThatAreLooseOrDouble(t *testing.T) {
	for j, joint := range yard().Joints {
		if joint.Kind != impl.JEnd {
			continue
		}
		n := yard()
		n.Joints = append(n.Joints[:j], n.Joints[j+1:]...)
		wantNet(t, "an end in no joint", n, impl.Fault{Code: 5, At: joint.Ends[0].Piece})
	}
	for p := range yard().Pieces {
		for side := range 2 {
			n := yard()
			n.Joints = append(n.Joints, buffer(end(p, side)))
			wantNet(t, "an end in two joints", n, impl.Fault{Code: 5, At: p})
		}
	}
	n := yard()
	n.Joints[1].Ends[1] = end(0, 1)
	wantNet(t, "an end twice in one joint", n, impl.Fault{Code: 5, At: 0})

	n = yard()
	n.Joints[2].Ends[2] = end(6, 1)
	wantNet(t, "an end loose, another double", n, impl.Fault{Code: 5, At: 3})

	n = yard()
	n.Joints = nil
	wantNet(t, "no joints", n, impl.Fault{Code: 5, At: 0})

	n = stubs(1)
	n.Joints[1].Ends[0] = end(0, 0)
	wantNet(t, "one end twice, the other loose", n, impl.Fault{Code: 5, At: 0})

	n = ring(1)
	n.Joints[0].Ends[0] = end(0, 0)
	wantNet(t, "one end twice in one joint, the other loose", n, impl.Fault{Code: 5, At: 0})
}

func TestFirstFaultOfANet(t *testing.T) {
	n := yard()
	n.Joints = append(n.Joints, buffer(end(0, 0)), buffer(end(2, 0)))
	n.Joints[7].Name = "free"
	n.Joints[3].Name = "w"
	n.Joints[6].Kind = 5
	n.Joints[4].Ends = nil
	n.Pieces[6].Name = "a"
	n.Pieces[5].Len = 0
	for len(n.Joints) <= impl.MaxJoints {
		n.Joints = append(n.Joints, impl.Joint{})
	}
	wantNet(t, "each of the faults", n, impl.Fault{Code: 1})

	n.Joints = n.Joints[:10]
	wantNet(t, "a piece's numbers ahead of a piece's name", n, impl.Fault{Code: 2, At: 5})
	n.Pieces[5].Len = 1
	wantNet(t, "a later piece ahead of an earlier joint", n, impl.Fault{Code: 2, At: 6})
	n.Pieces[6].Name = "g"
	wantNet(t, "the first of two joints", n, impl.Fault{Code: 3, At: 4})
	n.Joints[4].Ends = []impl.End{end(4, 1)}
	wantNet(t, "a later joint ahead of an earlier name", n, impl.Fault{Code: 3, At: 6})
	n.Joints[6].Kind = impl.JEnd
	wantNet(t, "the first of two names", n, impl.Fault{Code: 4, At: 3})
	n.Joints[3].Name = "k"
	wantNet(t, "a later name ahead of an earlier end", n, impl.Fault{Code: 4, At: 7})
	n.Joints[7].Name = ""
	wantNet(t, "the first of two ends", n, impl.Fault{Code: 5, At: 0})
	n.Joints = append(n.Joints[:8], n.Joints[9:]...)
	wantNet(t, "the last fault", n, impl.Fault{Code: 5, At: 2})
	n.Joints = n.Joints[:8]
	wantNet(t, "no fault", n, impl.Fault{})
}

func TestSpoiltNetsAreAnswered(t *testing.T) {
	far := []int{math.MinInt, math.MinInt32, -1, 0, math.MaxInt32, math.MaxInt}
	for _, a := range far {
		for _, b := range far {
			e := impl.End{Piece: a, Side: b}
			ends := []impl.End{e, e, e, e}
			wantNet(t, "far pieces", impl.Net{Pieces: []impl.Piece{{Name: "a", Len: a, Speed: b, Brake: a}}}, impl.Fault{Code: 2})
			for kind := range 6 {
				n := impl.Net{Pieces: stubs(1).Pieces, Joints: []impl.Joint{{Kind: kind, Name: "x", Ends: ends[:kind%5]}}}
				want := impl.Fault{Code: 3}
				if a == 0 && b == 0 && (kind == impl.JEnd || kind == impl.JPlain) {
					want = impl.Fault{Code: 4}
				} else if a == 0 && b == 0 && (kind == impl.JSwitch || kind == impl.JCross) {
					want = impl.Fault{Code: 5}
				}
				wantNet(t, "far joints of Kind "+strconv.Itoa(kind), n, want)
			}
		}
	}
}
