package tests

import (
	"testing"

	"loop.example/lockbar/impl"
)

func TestRouteNumbersAreThoseOfTheDocument(t *testing.T) {
	got := [...]int{impl.MaxRoutes, impl.MaxOver, impl.FBuffer, impl.FSignal, impl.FSwitch, impl.FOpen}
	want := [...]int{300, 100000, 1, 2, 3, 4}
	if got != want {
		t.Errorf("%v, want %v", got, want)
	}
}

func TestRoutesOfAYard(t *testing.T) {
	wantRoutes(t, "each kind of joint", yard(), posts(), 20,
		"0>1 steps 0+ 1+ 2+ lies 2< parts 0:90-100 1:0-200 2:0-290 over 2:290-300 flanks 2=signal:2",
		"0>-1 steps 0+ 1+ 3+ 5+ lies 2> crosses 3 parts 0:90-100 1:0-200 3:0-400 5:0-600 flanks 2=signal:3",
		"1>-1 steps 2+ 4+ crosses 3 parts 2:290-300 4:0-500",
		"2>-1 steps 3- 1- 0- lies 2> parts 3:0-10 1:0-200 0:0-100 flanks 2=signal:3",
		"3>-1 steps 2- 1- 0- lies 2< parts 2:0-290 1:0-200 0:0-100 flanks 2=signal:2",
		"4>-1 steps 6+ parts 6:350-700")
	wantRoutes(t, "no signals", yard(), nil, 20)
	wantRoutes(t, "an empty list of signals", yard(), []impl.Signal{}, 20)
}

// The order is that of the signals in their list, wherever they stand.
func TestRoutesFollowTheListOfSignals(t *testing.T) {
	s := posts()
	s[0], s[4] = s[4], s[0]
	s[1], s[3] = s[3], s[1]
	wantRoutes(t, "the list the other way round", yard(), s, 0,
		"0>-1 steps 6+ parts 6:350-700",
		"1>-1 steps 2- 1- 0- lies 2< parts 2:0-290 1:0-200 0:0-100 flanks 2=signal:2",
		"2>-1 steps 3- 1- 0- lies 2> parts 3:0-10 1:0-200 0:0-100 flanks 2=signal:1",
		"3>-1 steps 2+ 4+ crosses 3 parts 2:290-300 4:0-500",
		"4>3 steps 0+ 1+ 2+ lies 2< parts 0:90-100 1:0-200 2:0-290 flanks 2=signal:2",
		"4>-1 steps 0+ 1+ 3+ 5+ lies 2> crosses 3 parts 0:90-100 1:0-200 3:0-400 5:0-600 flanks 2=signal:1")
}

func TestRouteEndsAtTheNearestSignal(t *testing.T) {
	n := impl.Net{
		Pieces: []impl.Piece{piece("a", 100), piece("b", 100)},
		Joints: []impl.Joint{buffer(end(0, 0)), plain(end(0, 1), end(1, 0)), buffer(end(1, 1))},
	}
	wantRoutes(t, "on its own piece, and on the next one", n, []impl.Signal{
		post("s", 0, 10, 1), post("far", 0, 90, 1), post("mid", 0, 50, 1), post("b3", 1, 99, 1), post("b1", 1, 1, 1), post("b2", 1, 40, 1),
	}, 0,
		"0>2 steps 0+ parts 0:10-50",
		"1>4 steps 0+ 1+ parts 0:90-100 1:0-1",
		"2>1 steps 0+ parts 0:50-90",
		"3>-1 steps 1+ parts 1:99-100",
		"4>5 steps 1+ parts 1:1-40",
		"5>3 steps 1+ parts 1:40-99")
	wantRoutes(t, "the other Way", n, []impl.Signal{
		post("s", 1, 90, -1), post("far", 1, 10, -1), post("mid", 1, 50, -1), post("a1", 0, 1, -1), post("a3", 0, 99, -1), post("a2", 0, 60, -1),
	}, 0,
		"0>2 steps 1- parts 1:50-90",
		"1>4 steps 1- 0- parts 1:0-10 0:99-100",
		"2>1 steps 1- parts 1:10-50",
		"3>-1 steps 0- parts 0:0-1",
		"4>5 steps 0- parts 0:60-99",
		"5>3 steps 0- parts 0:1-60")
	wantRoutes(t, "signals that look against it do not end it", n, []impl.Signal{
		post("s", 0, 10, 1), post("x", 0, 50, -1), post("y", 1, 50, -1), post("z", 0, 10, -1), post("q", 0, 5, 1),
	}, 0,
		"0>-1 steps 0+ 1+ parts 0:10-100 1:0-100",
		"1>3 steps 0- parts 0:10-50",
		"2>1 steps 1- 0- parts 1:0-50 0:50-100",
		"3>-1 steps 0- parts 0:0-10",
		"4>0 steps 0+ parts 0:5-10")
}

// turnedRow is a, b and c between two buffers, a and b with their end 1 ahead.
func turnedRow() impl.Net {
	return impl.Net{
		Pieces: []impl.Piece{piece("a", 10), piece("b", 20), piece("c", 30)},
		Joints: []impl.Joint{buffer(end(0, 1)), plain(end(1, 1), end(0, 0)), plain(end(1, 0), end(2, 0)), buffer(end(2, 1))},
	}
}

// Pieces stand in a row whichever of their ends comes first.
func TestRouteOverPiecesThatLieAgainstIt(t *testing.T) {
	wantRoutes(t, "a row", turnedRow(), []impl.Signal{post("s", 0, 4, -1), post("x", 2, 7, -1), post("y", 2, 9, 1)}, 10,
		"0>2 steps 0- 1- 2+ parts 0:0-4 1:0-20 2:0-9 over 2:9-19",
		"1>-1 steps 2- 1+ 0+ parts 2:0-7 1:0-20 0:0-10",
		"2>-1 steps 2+ parts 2:9-30")
}

// fan is a - w (left b, right v), v (left c, right d), all of them up to buffers.
func fan() impl.Net {
	return impl.Net{
		Pieces: []impl.Piece{piece("a", 10), piece("b", 20), piece("m", 5), piece("c", 30), piece("d", 40)},
		Joints: []impl.Joint{
			buffer(end(0, 0)),
			points("w", end(0, 1), end(1, 0), end(2, 0)),
			points("v", end(2, 1), end(3, 0), end(4, 0)),
			buffer(end(1, 1)), buffer(end(3, 1)), buffer(end(4, 1)),
		},
	}
}

func TestRoutesFromTipsAndToThem(t *testing.T) {
	wantRoutes(t, "left ahead of right, at each tip", fan(), []impl.Signal{post("s", 0, 3, 1)}, 9,
		"0>-1 steps 0+ 1+ lies 1< parts 0:3-10 1:0-20 flanks 1=buffer:4 1=buffer:5",
		"0>-1 steps 0+ 2+ 3+ lies 1> 2< parts 0:3-10 2:0-5 3:0-30 flanks 1=buffer:3 2=buffer:5",
		"0>-1 steps 0+ 2+ 4+ lies 1> 2> parts 0:3-10 2:0-5 4:0-40 flanks 1=buffer:3 2=buffer:4")
	wantRoutes(t, "to the tips", fan(), []impl.Signal{post("d", 4, 1, -1), post("c", 3, 2, -1), post("b", 1, 3, -1), post("a", 0, 8, -1)}, 9,
		"0>3 steps 4- 2- 0- lies 2> 1> parts 4:0-1 2:0-5 0:8-10 over 0:0-8 flanks 2=signal:1 1=signal:2",
		"1>3 steps 3- 2- 0- lies 2< 1> parts 3:0-2 2:0-5 0:8-10 over 0:0-8 flanks 2=signal:0 1=signal:2",
		"2>3 steps 1- 0- lies 1< parts 1:0-3 0:8-10 over 0:0-8 flanks 1=signal:1 1=signal:0",
		"3>-1 steps 0- parts 0:0-8")
}

func TestRoutesBackToTheirOwnSignal(t *testing.T) {
	wantRoutes(t, "a ring of one piece", ring(1), []impl.Signal{post("s", 0, 40, 1), post("x", 0, 30, -1)}, 0,
		"0>0 steps 0+ 0+ parts 0:40-100 0:0-40",
		"1>1 steps 0- 0- parts 0:0-30 0:30-100")
	wantRoutes(t, "a ring of three", ring(3), []impl.Signal{post("s", 1, 40, 1)}, 0,
		"0>0 steps 1+ 2+ 0+ 1+ parts 1:40-100 2:0-100 0:0-100 1:0-40")
	wantRoutes(t, "another signal of the own piece is nearer", ring(2), []impl.Signal{post("s", 0, 60, 1), post("x", 0, 20, 1)}, 0,
		"0>1 steps 0+ 1+ 0+ parts 0:60-100 1:0-100 0:0-20",
		"1>0 steps 0+ parts 0:20-60")
	wantRoutes(t, "a signal on the way", ring(2), []impl.Signal{post("s", 0, 60, 1), post("x", 1, 20, 1)}, 0,
		"0>1 steps 0+ 1+ parts 0:60-100 1:0-20",
		"1>0 steps 1+ 0+ parts 1:20-100 0:0-60")

	siding := impl.Net{
		Pieces: []impl.Piece{piece("a", 10), piece("b", 20)},
		Joints: []impl.Joint{points("w", end(0, 1), end(0, 0), end(1, 0)), buffer(end(1, 1))},
	}
	wantRoutes(t, "over a switch", siding, []impl.Signal{post("s", 0, 4, 1), post("x", 0, 6, -1), post("y", 1, 5, -1)}, 3,
		"0>0 steps 0+ 0+ lies 0< parts 0:4-10 0:0-4 over 0:4-7 flanks 0=signal:2",
		"0>-1 steps 0+ 1+ lies 0> parts 0:4-10 1:0-20 flanks 0=signal:1",
		"1>1 steps 0- 0- lies 0< parts 0:0-6 0:6-10 over 0:3-6 flanks 0=signal:2",
		"2>1 steps 1- 0- lies 0> parts 1:0-5 0:6-10 over 0:3-6 flanks 0=signal:1")
}

func TestCrossings(t *testing.T) {
	eight := impl.Net{
		Pieces: []impl.Piece{piece("a", 10), piece("b", 20)},
		Joints: []impl.Joint{crossing("k", end(0, 1), end(1, 0), end(1, 1), end(0, 0))},
	}
	wantRoutes(t, "gone over twice", eight, []impl.Signal{post("s", 0, 4, 1), post("x", 1, 5, -1)}, 8,
		"0>0 steps 0+ 1+ 0+ crosses 0 0 parts 0:4-10 1:0-20 0:0-4 over 0:4-10",
		"1>1 steps 1- 0- 1- crosses 0 0 parts 1:0-5 0:0-10 1:5-20 over 1:0-5")

	grid := impl.Net{
		Pieces: []impl.Piece{piece("a", 10), piece("b", 20), piece("c", 30), piece("d", 40), piece("e", 50), piece("f", 60), piece("g", 70)},
		Joints: []impl.Joint{
			buffer(end(0, 0)), buffer(end(3, 0)), buffer(end(5, 0)),
			crossing("k", end(0, 1), end(1, 0), end(3, 1), end(4, 0)),
			crossing("l", end(5, 1), end(6, 0), end(1, 1), end(2, 0)),
			buffer(end(2, 1)), buffer(end(4, 1)), buffer(end(6, 1)),
		},
	}
	wantRoutes(t, "one after the other, and each from all its ends", grid, []impl.Signal{
		post("a", 0, 5, 1), post("c", 2, 5, -1), post("d", 3, 5, 1), post("e", 4, 5, -1), post("f", 5, 5, 1), post("g", 6, 5, -1),
	}, 1000,
		"0>-1 steps 0+ 1+ 2+ crosses 3 4 parts 0:5-10 1:0-20 2:0-30",
		"1>-1 steps 2- 1- 0- crosses 4 3 parts 2:0-5 1:0-20 0:0-10",
		"2>-1 steps 3+ 4+ crosses 3 parts 3:5-40 4:0-50",
		"3>-1 steps 4- 3- crosses 3 parts 4:0-5 3:0-40",
		"4>-1 steps 5+ 6+ crosses 4 parts 5:5-60 6:0-70",
		"5>-1 steps 6- 5- crosses 4 parts 6:0-5 5:0-60")
}

// balloon is buffer - a - w, and b from w's left end round to its right one.
func balloon() impl.Net {
	return impl.Net{
		Pieces: []impl.Piece{piece("a", 10), piece("b", 20)},
		Joints: []impl.Joint{buffer(end(0, 0)), points("w", end(0, 1), end(1, 0), end(1, 1))},
	}
}

func TestASwitchInTwoWays(t *testing.T) {
	wantRoutes(t, "round to the other end of the switch", balloon(), []impl.Signal{post("s", 0, 4, 1)}, 0)
	wantRoutes(t, "a signal ends it ahead of the switch", balloon(), []impl.Signal{post("s", 0, 4, 1), post("x", 1, 8, 1)}, 30,
		"0>1 steps 0+ 1+ lies 1< parts 0:4-10 1:0-8 over 1:8-20 flanks 1=signal:1",
		"1>-1 steps 1+ 0- lies 1> parts 1:8-20 0:0-10 flanks 1=open:1")
	wantRoutes(t, "from the left end and from the right one", balloon(), []impl.Signal{post("x", 1, 8, -1), post("y", 1, 5, 1)}, 0,
		"0>-1 steps 1- 0- lies 1< parts 1:0-8 0:0-10 flanks 1=signal:1",
		"1>-1 steps 1+ 0- lies 1> parts 1:5-20 0:0-10 flanks 1=signal:0")

	// a comes to v's left end, b goes from v's tip round to its right end: there it would come to b as it was there.
	round := impl.Net{
		Pieces: []impl.Piece{piece("a", 10), piece("b", 20)},
		Joints: []impl.Joint{buffer(end(0, 0)), points("v", end(1, 0), end(0, 1), end(1, 1))},
	}
	wantRoutes(t, "round to where it was, without a signal", round, []impl.Signal{post("s", 0, 4, 1)}, 0)
	wantRoutes(t, "a signal ends it there", round, []impl.Signal{post("s", 0, 4, 1), post("x", 1, 8, 1)}, 0,
		"0>1 steps 0+ 1+ lies 1< parts 0:4-10 1:0-8 flanks 1=signal:1",
		"1>1 steps 1+ 1+ lies 1> parts 1:8-20 1:0-8 flanks 1=signal:0")
	wantRoutes(t, "the other way round", round, []impl.Signal{post("x", 1, 8, -1)}, 0,
		"0>-1 steps 1- 0- lies 1< parts 1:0-8 0:0-10 flanks 1=buffer:0",
		"0>0 steps 1- 1- lies 1> parts 1:0-8 1:8-20 flanks 1=buffer:0")
}
