package tests

import (
	"fmt"
	"slices"

	"loop.example/lockbar/impl"
)

// smallNets shows every right net of so many pieces of length 4, but for the order of its joints.
func smallNets(pieces int, show func(n impl.Net)) {
	var n impl.Net
	var free []impl.End
	for i := range pieces {
		n.Pieces = append(n.Pieces, piece(fmt.Sprint("p", i), 4))
		free = append(free, end(i, 0), end(i, 1))
	}
	joinAll(n, free, show)
}

// joinAll puts the first free end into each joint that it can stand in, with all choices of the ends beside it.
func joinAll(n impl.Net, free []impl.End, show func(n impl.Net)) {
	if len(free) == 0 {
		show(copyNet(n))
		return
	}
	name := fmt.Sprint("j", len(n.Joints))
	for _, beside := range choices(free[1:], 3) {
		rest := without(free[1:], beside)
		for _, j := range jointsOf(name, free[0], beside) {
			joined := n
			joined.Joints = append(slices.Clone(n.Joints), j)
			joinAll(joined, rest, show)
		}
	}
}

func choices(ends []impl.End, most int) [][]impl.End {
	all := [][]impl.End{nil}
	if most == 0 {
		return all
	}
	for i, e := range ends {
		for _, more := range choices(ends[i+1:], most-1) {
			all = append(all, append([]impl.End{e}, more...))
		}
	}
	return all
}

func without(ends, some []impl.End) []impl.End {
	return slices.DeleteFunc(slices.Clone(ends), func(e impl.End) bool { return slices.Contains(some, e) })
}

func jointsOf(name string, e impl.End, beside []impl.End) []impl.Joint {
	switch len(beside) {
	case 0:
		return []impl.Joint{buffer(e)}
	case 1:
		return []impl.Joint{plain(e, beside[0])}
	case 2:
		a, b := beside[0], beside[1]
		return []impl.Joint{points(name, e, a, b), points(name, e, b, a), points(name, a, e, b), points(name, a, b, e), points(name, b, e, a), points(name, b, a, e)}
	}
	a, b, c := beside[0], beside[1], beside[2]
	return []impl.Joint{crossing(name, e, a, b, c), crossing(name, e, b, a, c), crossing(name, e, c, a, b)}
}

// smallPosts puts signals at the pieces of a small net: choice has a digit of base 6 for each piece.
func smallPosts(pieces, choice int) []impl.Signal {
	var all []impl.Signal
	add := func(p, at, way int) { all = append(all, post(fmt.Sprint("s", len(all)), p, at, way)) }
	for p := range pieces {
		switch choice % 6 {
		case 1:
			add(p, 2, 1)
		case 2:
			add(p, 1, -1)
		case 3:
			add(p, 1, -1)
			add(p, 3, 1)
		case 4:
			add(p, 3, 1)
			add(p, 1, 1)
		case 5:
			add(p, 2, -1)
			add(p, 3, -1)
			add(p, 2, 1)
		}
		choice /= 6
	}
	return all
}

// dice is a row of numbers that looks as if thrown, the same in each run.
type dice uint64

func (d *dice) throw(below int) int {
	*d = *d*6364136223846793005 + 1442695040888963407
	return int(uint64(*d) >> 33 % uint64(below))
}

// thrownNet is a right net with more pieces than all of smallNets could be gone through, and with many switches.
func thrownNet(d *dice, pieces int) impl.Net {
	var n impl.Net
	var free []impl.End
	for i := range pieces {
		n.Pieces = append(n.Pieces, piece(fmt.Sprint("p", i), 2+d.throw(7)))
		free = append(free, end(i, 0), end(i, 1))
	}
	for i := range free {
		j := i + d.throw(len(free)-i)
		free[i], free[j] = free[j], free[i]
	}
	counts := []int{0, 1, 1, 2, 2, 2, 2, 3}
	for len(free) > 0 {
		beside := min(counts[d.throw(len(counts))], len(free)-1)
		joints := jointsOf(fmt.Sprint("j", len(n.Joints)), free[0], free[1:1+beside])
		n.Joints = append(n.Joints, joints[d.throw(len(joints))])
		free = free[1+beside:]
	}
	return n
}

func thrownPosts(d *dice, n impl.Net, most int) []impl.Signal {
	var all []impl.Signal
	for range d.throw(most + 1) {
		p := d.throw(len(n.Pieces))
		s := post(fmt.Sprint("s", len(all)), p, 1+d.throw(n.Pieces[p].Len-1), 1-2*d.throw(2))
		if impl.SignalsOk(n, append(all, s)) == (impl.Fault{}) {
			all = append(all, s)
		}
	}
	return all
}
