package impl

const (
	MaxPieces = 100
	MaxJoints = 120
	MaxName   = 20
	MaxLen    = 10000000
	MaxSpeed  = 10000
	MaxBrake  = 1000
)

const (
	JEnd    = 1
	JPlain  = 2
	JSwitch = 3
	JCross  = 4
)

// tip is the place of a switch's tip among its ends; the places behind it are the Lies to them.
const tip = 0

// Piece is a piece of track, with its length, its limit of speed, and how much trains brake on it.
type Piece struct {
	Name  string
	Len   int
	Speed int
	Brake int
}

// End is one of the two ends of a piece, 0 or 1.
type End struct {
	Piece int
	Side  int
}

// Joint is where ends meet: a buffer (one), a plain joint (two), a switch (its tip, left, right), a crossing (two that go through, and two others).
type Joint struct {
	Kind int
	Name string
	Ends []End
}

// Net is a track.
type Net struct {
	Pieces []Piece
	Joints []Joint
}

// Fault is what is wrong with a net, and at which piece or joint.
type Fault struct {
	Code int
	At   int
}

// NetOk tells the first fault of a net, by its code and then by its place; the zero value when it is right.
func NetOk(n Net) Fault {
	if !netSizeOk(n) {
		return Fault{Code: 1}
	}
	if p := firstWrongPiece(n.Pieces); p >= 0 {
		return Fault{Code: 2, At: p}
	}
	if j := firstWrongJoint(n); j >= 0 {
		return Fault{Code: 3, At: j}
	}
	if j := firstWrongJointName(n.Joints); j >= 0 {
		return Fault{Code: 4, At: j}
	}
	if p := firstLoosePiece(n); p >= 0 {
		return Fault{Code: 5, At: p}
	}
	return Fault{}
}

// jointKind is what a joint's Kind stands for: a type for each of them. Ends are told by their places in the joint.
type jointKind interface {
	endCount() int
	beyond(place int) []int
}

type bufferKind struct{}

type plainKind struct{}

type switchKind struct{}

type crossKind struct{}

func (bufferKind) endCount() int { return 1 }

func (plainKind) endCount() int { return 2 }

func (switchKind) endCount() int { return 3 }

func (crossKind) endCount() int { return 4 }

func (bufferKind) beyond(int) []int { return nil }

func (plainKind) beyond(place int) []int { return []int{1 - place} }

// beyond tells left ahead of right, as routes and flanks are told.
func (switchKind) beyond(place int) []int {
	if place == tip {
		return []int{tip + 1, tip + 2}
	}
	return []int{tip}
}

func (crossKind) beyond(place int) []int { return []int{place ^ 1} }

// kindOf answers false for a number that is no Kind.
func kindOf(kind int) (jointKind, bool) {
	switch kind {
	case JEnd:
		return bufferKind{}, true
	case JPlain:
		return plainKind{}, true
	case JSwitch:
		return switchKind{}, true
	case JCross:
		return crossKind{}, true
	}
	return nil, false
}

func hasName(k jointKind) bool {
	switch k.(type) {
	case switchKind, crossKind:
		return true
	default:
		return false
	}
}

func netSizeOk(n Net) bool {
	return len(n.Pieces) > 0 && len(n.Pieces) <= MaxPieces && len(n.Joints) <= MaxJoints
}

// firstWrongPiece answers -1 when there is none; so do the other first.. functions.
func firstWrongPiece(pieces []Piece) int {
	ahead := map[string]int{}
	for i, p := range pieces {
		if !pieceOk(p) || ahead[p.Name] > 0 {
			return i
		}
		ahead[p.Name]++
	}
	return -1
}

func pieceOk(p Piece) bool {
	return nameOk(p.Name) && within(p.Len, 1, MaxLen) && within(p.Speed, 1, MaxSpeed) && within(p.Brake, 1, MaxBrake)
}

func nameOk(name string) bool {
	if !within(len(name), 1, MaxName) {
		return false
	}
	for i := range len(name) {
		if !nameSign(name[i]) {
			return false
		}
	}
	return true
}

func nameSign(c byte) bool {
	return c >= 'a' && c <= 'z' || c >= '0' && c <= '9' || c == '_'
}

func within(v, low, high int) bool {
	return v >= low && v <= high
}

func firstWrongJoint(n Net) int {
	for i, j := range n.Joints {
		if !jointOk(j, len(n.Pieces)) {
			return i
		}
	}
	return -1
}

func jointOk(j Joint, pieces int) bool {
	k, ok := kindOf(j.Kind)
	if !ok || len(j.Ends) != k.endCount() {
		return false
	}
	for _, e := range j.Ends {
		if !within(e.Piece, 0, pieces-1) || !within(e.Side, 0, 1) {
			return false
		}
	}
	return true
}

func firstWrongJointName(joints []Joint) int {
	ahead := map[string]int{}
	for i, j := range joints {
		k, ok := kindOf(j.Kind)
		if !ok || !jointNameOk(k, j.Name, ahead) {
			return i
		}
		ahead[j.Name]++
	}
	return -1
}

func jointNameOk(k jointKind, name string, ahead map[string]int) bool {
	if hasName(k) {
		return nameOk(name) && ahead[name] == 0
	}
	return name == ""
}

// firstLoosePiece looks for an end that does not stand in just one place of one joint.
func firstLoosePiece(n Net) int {
	stands := map[End]int{}
	for _, j := range n.Joints {
		for _, e := range j.Ends {
			stands[e]++
		}
	}
	for p := range n.Pieces {
		if stands[End{Piece: p, Side: 0}] != 1 || stands[End{Piece: p, Side: 1}] != 1 {
			return p
		}
	}
	return -1
}

const MaxSignals = 60

// Signal stands beside a piece, for those who look as it says.
type Signal struct {
	Name  string
	Piece int
	At    int
	Way   int
}

// SignalsOk tells the first fault of signals beside a net, by its code and then by its place; the zero value when they are right.
func SignalsOk(n Net, signals []Signal) Fault {
	if NetOk(n) != (Fault{}) {
		return Fault{Code: 1}
	}
	if len(signals) > MaxSignals {
		return Fault{Code: 2}
	}
	if i := firstWrongSignal(n.Pieces, signals); i >= 0 {
		return Fault{Code: 3, At: i}
	}
	if i := firstDoubleSignal(signals); i >= 0 {
		return Fault{Code: 4, At: i}
	}
	return Fault{}
}

func firstWrongSignal(pieces []Piece, signals []Signal) int {
	for i, s := range signals {
		if !signalOk(pieces, s) {
			return i
		}
	}
	return -1
}

func signalOk(pieces []Piece, s Signal) bool {
	if !nameOk(s.Name) || !within(s.Piece, 0, len(pieces)-1) {
		return false
	}
	return (s.Way == 1 || s.Way == -1) && within(s.At, 1, pieces[s.Piece].Len-1)
}

// post is where a signal stands and how it looks, without its name.
type post struct {
	piece int
	at    int
	way   int
}

func firstDoubleSignal(signals []Signal) int {
	names := map[string]int{}
	posts := map[post]int{}
	for i, s := range signals {
		here := post{piece: s.Piece, at: s.At, way: s.Way}
		if names[s.Name] > 0 || posts[here] > 0 {
			return i
		}
		names[s.Name]++
		posts[here]++
	}
	return -1
}
