package tests

import (
	"cmp"
	"math"
	"slices"
	"strconv"
	"strings"
	"testing"

	"loop.example/g00943/impl"
)

// The following functions say by the definitions what the program should find. They do not ask it.

func cellTaken(l impl.Lattice, m impl.Motion, v impl.Vec) impl.Vec { return cellOf(l, place(m, v)) }

func plainCells(l impl.Lattice) []impl.Vec {
	var cells []impl.Vec
	for x := range l.A {
		for y := range l.C {
			cells = append(cells, impl.Vec{X: x, Y: y})
		}
	}
	return cells
}

func compareVecs(u impl.Vec, v impl.Vec) int {
	return cmp.Or(cmp.Compare(u.X, v.X), cmp.Compare(u.Y, v.Y))
}

func isFixedBy(l impl.Lattice, m impl.Motion, v impl.Vec) bool { return cellTaken(l, m, v) == v }

func fixedCells(l impl.Lattice, m impl.Motion) int64 {
	count := int64(0)
	for _, v := range plainCells(l) {
		if isFixedBy(l, m, v) {
			count++
		}
	}
	return count
}

// cellWays has for each cell the cells to which the motions of a group take it, in the order of the
// motions.
func cellWays(l impl.Lattice, group []impl.Motion) map[impl.Vec][]impl.Vec {
	ways := map[impl.Vec][]impl.Vec{}
	for _, v := range plainCells(l) {
		for _, m := range group {
			ways[v] = append(ways[v], cellTaken(l, m, v))
		}
	}
	return ways
}

func orbitFrom(ways []impl.Vec) []impl.Vec {
	orbit := slices.Clone(ways)
	slices.SortFunc(orbit, compareVecs)
	return slices.Compact(orbit)
}

func orbitsFrom(l impl.Lattice, ways map[impl.Vec][]impl.Vec) [][]impl.Vec {
	var orbits [][]impl.Vec
	for _, v := range plainCells(l) {
		// A cell that is not the first of its orbit has been told with it.
		if orbit := orbitFrom(ways[v]); orbit[0] == v {
			orbits = append(orbits, orbit)
		}
	}
	return orbits
}

func orbitsText(orbits [][]impl.Vec) string {
	var texts []string
	for _, orbit := range orbits {
		var cells []string
		for _, v := range orbit {
			cells = append(cells, strconv.FormatInt(v.X, 10)+","+strconv.FormatInt(v.Y, 10))
		}
		texts = append(texts, strings.Join(cells, " "))
	}
	return strings.Join(texts, " | ")
}

// someGroups has groups of a lattice with a great index: the identity alone, all motions, all shifts,
// and closures of one and of two motions.
func someGroups(p plane) [][]impl.Motion {
	all := allMotions(p.frame, p.l)
	shifts := slices.DeleteFunc(slices.Clone(all), func(m impl.Motion) bool { return m.M != unitMat })
	groups := [][]impl.Motion{{identity}, all, shifts}
	for i := 0; i < len(all); i += len(all)/12 + 1 {
		groups = append(groups, closedByProducts(p.l, all[i:i+1]))
		groups = append(groups, closedByProducts(p.l, []impl.Motion{all[i], all[(i*7+5)%len(all)]}))
	}
	return groups
}

// otherVecs has vectors that are not cells, some of which become cells when they are reduced.
func otherVecs(l impl.Lattice) []impl.Vec {
	vecs := []impl.Vec{
		{X: l.A}, {X: -1}, {Y: l.C}, {Y: -1}, {X: l.A, Y: l.C}, {X: -1, Y: -1}, {X: l.A - 1, Y: l.C}, {X: l.A, Y: l.C - 1},
		{X: l.A - 1, Y: -1}, {X: -1, Y: l.C - 1}, {X: -l.A}, {Y: -l.C}, {X: l.B, Y: l.C}, {X: -l.B, Y: -l.C},
		{X: math.MaxInt64 - l.A + 1}, {Y: math.MaxInt64 - l.C + 1}, {X: math.MinInt64 + l.A},
	}
	vecs = slices.Concat(vecs, someVecs(), edgeVecs(), wrongVecs())
	return slices.DeleteFunc(vecs, func(v impl.Vec) bool { return slices.Contains(plainCells(l), v) })
}

func TestOrbits(t *testing.T) {
	sixth, third, quarter := motionWith(0, -1, 1, 1, 0, 0), motionWith(-1, -1, 1, 0, 0, 0), motionWith(0, -1, 1, 0, 0, 0)
	for _, c := range []struct {
		frame  int64
		l      impl.Lattice
		makers []impl.Motion
		want   string
	}{
		{impl.FrameSquare, impl.Lattice{A: 1, C: 1}, nil, "0,0"},
		{impl.FrameSquare, impl.Lattice{A: 1, C: 1}, []impl.Motion{quarter, motionWith(1, 0, 0, -1, 0, 0)}, "0,0"},
		{impl.FrameHexagonal, impl.Lattice{A: 1, C: 1}, []impl.Motion{sixth, motionWith(0, 1, 1, 0, 0, 0)}, "0,0"},
		{impl.FrameSquare, impl.Lattice{A: 3, C: 2}, nil, "0,0 | 0,1 | 1,0 | 1,1 | 2,0 | 2,1"},
		{impl.FrameHexagonal, impl.Lattice{A: 2, B: 1, C: 2}, nil, "0,0 | 0,1 | 1,0 | 1,1"},
		{impl.FrameSquare, impl.Lattice{A: 3, C: 2}, []impl.Motion{motionWith(-1, 0, 0, -1, 1, 0)}, "0,0 1,0 | 0,1 1,1 | 2,0 | 2,1"},
		{impl.FrameSquare, impl.Lattice{A: 2, B: 1, C: 2}, []impl.Motion{motionWith(-1, 0, 0, -1, 0, 0)}, "0,0 | 0,1 1,1 | 1,0"},
		{impl.FrameSquare, impl.Lattice{A: 3, C: 3}, []impl.Motion{quarter}, "0,0 | 0,1 0,2 1,0 2,0 | 1,1 1,2 2,1 2,2"},
		{impl.FrameSquare, impl.Lattice{A: 5, B: 2, C: 1}, []impl.Motion{quarter}, "0,0 | 1,0 2,0 3,0 4,0"},
		{impl.FrameSquare, impl.Lattice{A: 2, C: 2}, []impl.Motion{motionWith(0, 1, 1, 0, 0, 0)}, "0,0 | 0,1 1,0 | 1,1"},
		{impl.FrameSquare, impl.Lattice{A: 2, C: 2}, []impl.Motion{motionWith(0, 1, 1, 0, 1, 0)}, "0,0 0,1 1,0 1,1"},
		{impl.FrameSquare, impl.Lattice{A: 4, C: 1}, []impl.Motion{motionWith(1, 0, 0, 1, 2, 0)}, "0,0 2,0 | 1,0 3,0"},
		{impl.FrameSquare, impl.Lattice{A: 4, C: 2}, []impl.Motion{motionWith(1, 0, 0, -1, 2, 0)}, "0,0 2,0 | 0,1 2,1 | 1,0 3,0 | 1,1 3,1"},
		{impl.FrameSquare, impl.Lattice{A: 1, C: 4}, []impl.Motion{motionWith(-1, 0, 0, -1, 0, 0)}, "0,0 | 0,1 0,3 | 0,2"},
		{impl.FrameSquare, impl.Lattice{A: 3, C: 2}, []impl.Motion{motionWith(1, 0, 0, 1, 1, 1)}, "0,0 0,1 1,0 1,1 2,0 2,1"},
		{impl.FrameHexagonal, impl.Lattice{A: 3, B: 1, C: 1}, []impl.Motion{third}, "0,0 | 1,0 | 2,0"},
		{impl.FrameHexagonal, impl.Lattice{A: 3, B: 1, C: 1}, []impl.Motion{sixth}, "0,0 | 1,0 2,0"},
		{impl.FrameHexagonal, impl.Lattice{A: 2, C: 2}, []impl.Motion{third}, "0,0 | 0,1 1,0 1,1"},
		{impl.FrameHexagonal, impl.Lattice{A: 7, B: 2, C: 1}, []impl.Motion{third}, "0,0 | 1,0 2,0 4,0 | 3,0 5,0 6,0"},
	} {
		group := closedByProducts(c.l, c.makers)
		orbits, code := impl.OrbitsOf(c.frame, c.l, group)
		if s := orbitsText(orbits); s != c.want || code != impl.ErrNone {
			t.Errorf("OrbitsOf(%d, %v, %v) = %q, %d, want %q", c.frame, c.l, group, s, code, c.want)
		}
		for _, orbit := range orbits {
			for _, v := range orbit {
				if r, code := impl.OrbitOf(c.frame, c.l, group, v); !slices.Equal(r, orbit) || code != impl.ErrNone {
					t.Errorf("OrbitOf(%d, %v, %v, %v) = %v, %d, want %v", c.frame, c.l, group, v, r, code, orbit)
				}
			}
		}
		checkNumbers(t, plane{c.frame, c.l}, group, orbits)
	}
}

// checkNumbers checks that the numbers tell the orbits apart.
func checkNumbers(t *testing.T, p plane, group []impl.Motion, orbits [][]impl.Vec) {
	t.Helper()
	cells := plainCells(p.l)
	want := make([]int64, len(cells))
	for i, orbit := range orbits {
		for _, v := range orbit {
			want[slices.Index(cells, v)] = int64(i)
		}
	}
	if numbers, code := impl.OrbitNumbers(p.frame, p.l, group); !slices.Equal(numbers, want) || code != impl.ErrNone {
		t.Errorf("OrbitNumbers(%v, %v) = %v, %d, want %v", p, group, numbers, code, want)
	}
	if count, code := impl.CountOrbits(p.frame, p.l, group); count != int64(len(orbits)) || code != impl.ErrNone {
		t.Errorf("CountOrbits(%v, %v) = %d, %d, want %d", p, group, count, code, len(orbits))
	}
}

// checkMean checks promise 7 with the program's own numbers.
func checkMean(t *testing.T, p plane, group []impl.Motion) {
	t.Helper()
	sum := int64(0)
	for _, m := range group {
		fixed, code := impl.CountFixed(p.frame, p.l, m)
		if code != impl.ErrNone {
			t.Fatalf("CountFixed(%v, %v) = %d, %d", p, m, fixed, code)
		}
		sum += fixed
	}
	if count, code := impl.CountOrbits(p.frame, p.l, group); count*int64(len(group)) != sum || code != impl.ErrNone {
		t.Errorf("CountOrbits(%v, %v) = %d, %d, but %d motions fix %d cells", p, group, count, code, len(group), sum)
	}
}

// checkDivision checks with the program's own results that each cell is in one orbit, and that orbits
// and their cells are in order.
func checkDivision(t *testing.T, p plane, group []impl.Motion) {
	t.Helper()
	orbits, code := impl.OrbitsOf(p.frame, p.l, group)
	if code != impl.ErrNone {
		t.Fatalf("OrbitsOf(%v, %v) = %v, %d", p, group, orbits, code)
	}
	for i, orbit := range orbits {
		isInOrder := slices.IsSortedFunc(orbit, compareVecs) && (i == 0 || compareVecs(orbits[i-1][0], orbit[0]) < 0)
		if len(orbit) == 0 || !isInOrder {
			t.Errorf("OrbitsOf(%v, %v) = %v is out of order", p, group, orbits)
		}
	}
	all := slices.Concat(orbits...)
	slices.SortFunc(all, compareVecs)
	if cells, _ := impl.CellsOf(p.l); !slices.Equal(all, cells) {
		t.Errorf("OrbitsOf(%v, %v) = %v", p, group, orbits)
	}
}

// checkCell checks the orbit, the motions that fix a cell, and that the product of their numbers is the
// number of motions of the group.
func checkCell(t *testing.T, p plane, group []impl.Motion, v impl.Vec, ways []impl.Vec) {
	t.Helper()
	orbit, code := impl.OrbitOf(p.frame, p.l, group, v)
	if want := orbitFrom(ways); !slices.Equal(orbit, want) || code != impl.ErrNone {
		t.Errorf("OrbitOf(%v, %v, %v) = %v, %d, want %v", p, group, v, orbit, code, want)
	}
	var want []impl.Motion
	for i, m := range group {
		if ways[i] == v {
			want = append(want, m)
		}
	}
	fixing, code := impl.StabiliserOf(p.frame, p.l, group, v)
	if !slices.Equal(fixing, want) || code != impl.ErrNone {
		t.Errorf("StabiliserOf(%v, %v, %v) = %v, %d, want %v", p, group, v, fixing, code, want)
	}
	if len(orbit)*len(fixing) != len(group) {
		t.Errorf("%v %v: %d motions, but %d cells in the orbit of %v times %d motions that fix it", p, group, len(group), len(orbit), v, len(fixing))
	}
}

func checkMover(t *testing.T, p plane, group []impl.Motion, u impl.Vec, v impl.Vec, ways []impl.Vec) {
	t.Helper()
	var want impl.Motion
	wantCode := int64(impl.ErrNotFound)
	if i := slices.Index(ways, v); i >= 0 {
		want, wantCode = group[i], impl.ErrNone
	}
	if m, code := impl.MoverOf(p.frame, p.l, group, u, v); m != want || code != wantCode {
		t.Errorf("MoverOf(%v, %v, %v, %v) = %v, %d, want %v, %d", p, group, u, v, m, code, want, wantCode)
	}
}

// checkOrbits compares all results for a group with the definitions, those for cells only for each
// step-th cell or pair of cells.
func checkOrbits(t *testing.T, p plane, group []impl.Motion, step int) {
	t.Helper()
	ways := cellWays(p.l, group)
	want := orbitsFrom(p.l, ways)
	if orbits, code := impl.OrbitsOf(p.frame, p.l, group); orbitsText(orbits) != orbitsText(want) || code != impl.ErrNone {
		t.Errorf("OrbitsOf(%v, %v) = %v, %d, want %v", p, group, orbits, code, want)
	}
	checkDivision(t, p, group)
	checkNumbers(t, p, group, want)
	checkMean(t, p, group)
	cells := plainCells(p.l)
	for i := 0; i < len(cells); i += step {
		checkCell(t, p, group, cells[i], ways[cells[i]])
		for j := i / step % step; j < len(cells); j += step {
			checkMover(t, p, group, cells[i], cells[j], ways[cells[i]])
		}
	}
}

// TestOrbitsOfManyGroups also checks that the groups are of the kinds that differ here.
func TestOrbitsOfManyGroups(t *testing.T) {
	single, whole, fixedByAll, fixedByOne, shifting := 0, 0, 0, 0, 0
	for _, p := range fewPlanes() {
		for _, group := range groupsOf(p) {
			checkOrbits(t, p, group, 1)
			orbits, _ := impl.OrbitsOf(p.frame, p.l, group)
			for _, orbit := range orbits {
				switch len(orbit) {
				case 1:
					fixedByAll++
				case len(group):
					fixedByOne++
				}
			}
			switch cells := int(p.l.A * p.l.C); {
			case cells == 1:
			case len(orbits) == 1:
				whole++
			case len(orbits) == cells:
				single++
			}
			if shifts, _ := impl.ShiftsOf(p.frame, p.l, group); len(shifts) > 1 {
				shifting++
			}
		}
	}
	if min(single, whole, fixedByAll, fixedByOne, shifting) < 20 {
		t.Errorf("the groups are too much alike: %d, %d, %d, %d, %d", single, whole, fixedByAll, fixedByOne, shifting)
	}
}

func TestOrbitsOfGreatLattices(t *testing.T) {
	for _, p := range greatPlanes() {
		for _, group := range someGroups(p) {
			checkOrbits(t, p, group, 13)
		}
	}
}

func TestOrbitsOfAllLattices(t *testing.T) {
	for _, frame := range bothFrames() {
		for i, l := range latticesUpTo(64) {
			mats, _ := impl.LatticeMats(frame, l)
			makers := []impl.Motion{{M: mats[i%len(mats)], T: impl.Vec{X: int64(i) % l.A, Y: int64(i) % l.C}}}
			checkOrbits(t, plane{frame, l}, closedByProducts(l, makers), 17)
		}
	}
}

// TestOrbitsOfIdentityAndOfAllMotions has the least and the greatest group of each lattice: the first
// one leaves each cell alone, the other one takes each cell to each cell.
func TestOrbitsOfIdentityAndOfAllMotions(t *testing.T) {
	for _, p := range slices.Concat(fewPlanes(), greatPlanes()) {
		least, greatest := []impl.Motion{identity}, allMotions(p.frame, p.l)
		cells := plainCells(p.l)
		mats, _ := impl.LatticeMats(p.frame, p.l)
		if count, code := impl.CountOrbits(p.frame, p.l, least); count != int64(len(cells)) || code != impl.ErrNone {
			t.Errorf("CountOrbits(%v, identity) = %d, %d", p, count, code)
		}
		if orbits, code := impl.OrbitsOf(p.frame, p.l, greatest); len(orbits) != 1 || !slices.Equal(orbits[0], cells) || code != impl.ErrNone {
			t.Errorf("OrbitsOf(%v, all motions) = %v, %d", p, orbits, code)
		}
		last := cells[len(cells)-1]
		if list, code := impl.StabiliserOf(p.frame, p.l, least, last); !slices.Equal(list, least) || code != impl.ErrNone {
			t.Errorf("StabiliserOf(%v, identity, %v) = %v, %d", p, last, list, code)
		}
		if list, code := impl.StabiliserOf(p.frame, p.l, greatest, last); len(list) != len(mats) || code != impl.ErrNone {
			t.Errorf("StabiliserOf(%v, all motions, %v) = %v, %d", p, last, list, code)
		}
		if m, code := impl.MoverOf(p.frame, p.l, greatest, last, impl.Vec{}); m.M != mats[0] || code != impl.ErrNone {
			t.Errorf("MoverOf(%v, all motions, %v, 0,0) = %v, %d", p, last, m, code)
		}
	}
}

func TestCountFixed(t *testing.T) {
	for _, c := range []struct {
		frame int64
		l     impl.Lattice
		m     impl.Motion
		want  int64
	}{
		{impl.FrameSquare, impl.Lattice{A: 1, C: 1}, motionWith(0, -1, 1, 0, 1000, -999), 1},
		{impl.FrameSquare, impl.Lattice{A: 8, C: 8}, identity, 64},
		{impl.FrameSquare, impl.Lattice{A: 8, C: 8}, motionWith(1, 0, 0, 1, 1000, -1000), 64},
		{impl.FrameSquare, impl.Lattice{A: 8, C: 8}, motionWith(1, 0, 0, 1, 0, 4), 0},
		{impl.FrameSquare, impl.Lattice{A: 8, C: 8}, motionWith(1, 0, 0, 1, 999, 0), 0},
		{impl.FrameSquare, impl.Lattice{A: 3, C: 2}, motionWith(-1, 0, 0, -1, 1, 0), 2},
		{impl.FrameSquare, impl.Lattice{A: 3, C: 2}, motionWith(-1, 0, 0, -1, -5, 8), 2},
		{impl.FrameSquare, impl.Lattice{A: 3, C: 2}, motionWith(-1, 0, 0, -1, 0, 1), 0},
		{impl.FrameSquare, impl.Lattice{A: 2, C: 2}, motionWith(-1, 0, 0, -1, 0, 0), 4},
		{impl.FrameSquare, impl.Lattice{A: 4, C: 4}, motionWith(-1, 0, 0, -1, 0, 0), 4},
		{impl.FrameSquare, impl.Lattice{A: 4, C: 4}, motionWith(-1, 0, 0, -1, 1, 0), 0},
		{impl.FrameSquare, impl.Lattice{A: 3, C: 3}, motionWith(0, -1, 1, 0, 0, 0), 1},
		{impl.FrameSquare, impl.Lattice{A: 4, C: 4}, motionWith(0, 1, 1, 0, 0, 0), 4},
		{impl.FrameSquare, impl.Lattice{A: 4, C: 4}, motionWith(0, 1, 1, 0, 2, 2), 4},
		{impl.FrameSquare, impl.Lattice{A: 4, C: 4}, motionWith(0, 1, 1, 0, 1, 1), 0},
		{impl.FrameSquare, impl.Lattice{A: 4, C: 4}, motionWith(0, 1, 1, 0, -1, 1), 4},
		{impl.FrameSquare, impl.Lattice{A: 4, C: 2}, motionWith(1, 0, 0, -1, 0, 0), 8},
		{impl.FrameSquare, impl.Lattice{A: 4, C: 2}, motionWith(1, 0, 0, -1, 2, 0), 0},
		{impl.FrameSquare, impl.Lattice{A: 5, B: 2, C: 1}, motionWith(0, -1, 1, 0, 3, 3), 1},
		{impl.FrameHexagonal, impl.Lattice{A: 3, B: 1, C: 1}, motionWith(-1, -1, 1, 0, 0, 0), 3},
		{impl.FrameHexagonal, impl.Lattice{A: 3, B: 1, C: 1}, motionWith(-1, -1, 1, 0, 1, 0), 0},
		{impl.FrameHexagonal, impl.Lattice{A: 3, B: 1, C: 1}, motionWith(0, -1, 1, 1, 0, 0), 1},
		{impl.FrameHexagonal, impl.Lattice{A: 7, B: 2, C: 1}, motionWith(-1, -1, 1, 0, 0, 0), 1},
	} {
		if n, code := impl.CountFixed(c.frame, c.l, c.m); n != c.want || code != impl.ErrNone {
			t.Errorf("CountFixed(%d, %v, %v) = %d, %d, want %d", c.frame, c.l, c.m, n, code, c.want)
		}
	}
}

// TestCountFixedByMotions has motions that are not reduced, too.
func TestCountFixedByMotions(t *testing.T) {
	none, some, all := 0, 0, 0
	check := func(p plane, m impl.Motion) {
		want := fixedCells(p.l, m)
		if n, code := impl.CountFixed(p.frame, p.l, m); n != want || code != impl.ErrNone {
			t.Errorf("CountFixed(%v, %v) = %d, %d, want %d", p, m, n, code, want)
		}
		switch {
		case want == 0:
			none++
		case want < p.l.A*p.l.C:
			some++
		case m.M != unitMat && want > 1:
			all++
		}
	}
	for _, p := range slices.Concat(fewPlanes(), greatPlanes()) {
		for _, m := range allMotions(p.frame, p.l) {
			check(p, m)
		}
		mats, _ := impl.LatticeMats(p.frame, p.l)
		for _, m := range motionsOf(mats, slices.Concat(someVecs(), edgeVecs())) {
			if isLimitedVec(m.T) {
				check(p, m)
			}
		}
	}
	for _, frame := range bothFrames() {
		for _, l := range latticesUpTo(64) {
			mats, _ := impl.LatticeMats(frame, l)
			for _, m := range motionsOf(mats, []impl.Vec{{}, {X: -7, Y: 12}}) {
				check(plane{frame, l}, m)
			}
		}
	}
	if min(none, some, all) < 100 {
		t.Errorf("the motions are too much alike: %d, %d, %d", none, some, all)
	}
}

func TestCountFixedByUnsuitable(t *testing.T) {
	for _, p := range slices.Concat(fewPlanes(), greatPlanes()) {
		for _, m := range unsuitableMotions(p) {
			if n, code := impl.CountFixed(p.frame, p.l, m); n != 0 || code != impl.ErrRange {
				t.Errorf("CountFixed(%v, %v) = %d, %d", p, m, n, code)
			}
		}
	}
}

func TestStabilisersAndMovers(t *testing.T) {
	l := impl.Lattice{A: 4, C: 4}
	group := closedByProducts(l, []impl.Motion{motionWith(0, -1, 1, 0, 0, 0)})
	for _, c := range []struct {
		u, v   impl.Vec
		fixing string
		mover  string
	}{
		{impl.Vec{}, impl.Vec{}, "-1,0,0,-1;0,0 0,-1,1,0;0,0 0,1,-1,0;0,0 1,0,0,1;0,0", "-1,0,0,-1;0,0"},
		{impl.Vec{X: 2, Y: 2}, impl.Vec{X: 2, Y: 2}, "-1,0,0,-1;0,0 0,-1,1,0;0,0 0,1,-1,0;0,0 1,0,0,1;0,0", "-1,0,0,-1;0,0"},
		{impl.Vec{X: 2}, impl.Vec{X: 2}, "-1,0,0,-1;0,0 1,0,0,1;0,0", "-1,0,0,-1;0,0"},
		{impl.Vec{X: 2}, impl.Vec{Y: 2}, "-1,0,0,-1;0,0 1,0,0,1;0,0", "0,-1,1,0;0,0"},
		{impl.Vec{X: 1}, impl.Vec{X: 1}, "1,0,0,1;0,0", "1,0,0,1;0,0"},
		{impl.Vec{X: 1}, impl.Vec{Y: 1}, "1,0,0,1;0,0", "0,-1,1,0;0,0"},
		{impl.Vec{Y: 1}, impl.Vec{X: 1}, "1,0,0,1;0,0", "0,1,-1,0;0,0"},
		{impl.Vec{X: 1}, impl.Vec{X: 3}, "1,0,0,1;0,0", "-1,0,0,-1;0,0"},
		{impl.Vec{X: 1}, impl.Vec{X: 2}, "1,0,0,1;0,0", ""},
		{impl.Vec{}, impl.Vec{X: 2, Y: 2}, "-1,0,0,-1;0,0 0,-1,1,0;0,0 0,1,-1,0;0,0 1,0,0,1;0,0", ""},
	} {
		list, code := impl.StabiliserOf(impl.FrameSquare, l, group, c.u)
		if s := plainListText(list); s != c.fixing || code != impl.ErrNone {
			t.Errorf("StabiliserOf(%v, %v) = %q, %d, want %q", l, c.u, s, code, c.fixing)
		}
		m, code := impl.MoverOf(impl.FrameSquare, l, group, c.u, c.v)
		isWrong := plainMotionText(m) != c.mover || code != impl.ErrNone
		if c.mover == "" {
			isWrong = m != impl.Motion{} || code != impl.ErrNotFound
		}
		if isWrong {
			t.Errorf("MoverOf(%v, %v, %v) = %v, %d, want %q", l, c.u, c.v, m, code, c.mover)
		}
	}
}

// TestMoverBetweenShifts has a group in which shifts take cells to cells, and several motions do.
func TestMoverBetweenShifts(t *testing.T) {
	l := impl.Lattice{A: 4, C: 1}
	group := closedByProducts(l, []impl.Motion{motionWith(1, 0, 0, -1, 1, 0)})
	for _, c := range []struct {
		u, v int64
		want string
	}{
		{0, 1, "1,0,0,-1;1,0"}, {0, 3, "1,0,0,-1;3,0"}, {0, 2, "1,0,0,1;2,0"}, {3, 0, "1,0,0,-1;1,0"}, {3, 1, "1,0,0,1;2,0"}, {2, 2, "1,0,0,1;0,0"},
	} {
		m, code := impl.MoverOf(impl.FrameSquare, l, group, impl.Vec{X: c.u}, impl.Vec{X: c.v})
		if plainMotionText(m) != c.want || code != impl.ErrNone {
			t.Errorf("MoverOf(%d, %d) = %v, %d, want %q", c.u, c.v, m, code, c.want)
		}
	}
}

// checkOrbitErrors calls all functions that expect a group, with arguments for which they return a code.
func checkOrbitErrors(t *testing.T, frame int64, l impl.Lattice, list []impl.Motion, vecs []impl.Vec, want int64) {
	t.Helper()
	if orbits, code := impl.OrbitsOf(frame, l, list); len(orbits) != 0 || code != want {
		t.Errorf("OrbitsOf(%d, %v, %v) = %v, %d", frame, l, list, orbits, code)
	}
	if numbers, code := impl.OrbitNumbers(frame, l, list); len(numbers) != 0 || code != want {
		t.Errorf("OrbitNumbers(%d, %v, %v) = %v, %d", frame, l, list, numbers, code)
	}
	if count, code := impl.CountOrbits(frame, l, list); count != 0 || code != want {
		t.Errorf("CountOrbits(%d, %v, %v) = %d, %d", frame, l, list, count, code)
	}
	for i, v := range vecs {
		checkCellErrors(t, frame, l, list, v, want)
		checkMoverError(t, frame, l, list, v, vecs[len(vecs)-1-i], want)
	}
}

func checkCellErrors(t *testing.T, frame int64, l impl.Lattice, list []impl.Motion, v impl.Vec, want int64) {
	t.Helper()
	if orbit, code := impl.OrbitOf(frame, l, list, v); len(orbit) != 0 || code != want {
		t.Errorf("OrbitOf(%d, %v, %v, %v) = %v, %d", frame, l, list, v, orbit, code)
	}
	if motions, code := impl.StabiliserOf(frame, l, list, v); len(motions) != 0 || code != want {
		t.Errorf("StabiliserOf(%d, %v, %v, %v) = %v, %d", frame, l, list, v, motions, code)
	}
	checkMoverError(t, frame, l, list, v, v, want)
}

func checkMoverError(t *testing.T, frame int64, l impl.Lattice, list []impl.Motion, u impl.Vec, v impl.Vec, want int64) {
	t.Helper()
	if m, code := impl.MoverOf(frame, l, list, u, v); m != (impl.Motion{}) || code != want {
		t.Errorf("MoverOf(%d, %v, %v, %v, %v) = %v, %d", frame, l, list, u, v, m, code)
	}
}

// TestOrbitsOfBrokenGroups has cells in different orbits, so that ErrRange comes before ErrNotFound.
func TestOrbitsOfBrokenGroups(t *testing.T) {
	for _, p := range fewPlanes() {
		groups := groupsOf(p)
		step := len(groups)/10 + 1
		last := impl.Vec{X: p.l.A - 1, Y: p.l.C - 1}
		for i := 0; i < len(groups); i += step {
			for _, list := range brokenGroups(p, groups[i]) {
				checkOrbitErrors(t, p.frame, p.l, list, []impl.Vec{{}, last, {X: -1}, {X: 1001}}, impl.ErrRange)
			}
		}
	}
}

// TestOrbitsOfOtherVecs has each vector beside a cell, on both sides, and beside itself.
func TestOrbitsOfOtherVecs(t *testing.T) {
	check := func(p plane, group []impl.Motion) {
		cells := plainCells(p.l)
		for i, v := range otherVecs(p.l) {
			checkCellErrors(t, p.frame, p.l, group, v, impl.ErrRange)
			cell := cells[i%len(cells)]
			checkMoverError(t, p.frame, p.l, group, v, cell, impl.ErrRange)
			checkMoverError(t, p.frame, p.l, group, cell, v, impl.ErrRange)
		}
	}
	for _, p := range fewPlanes() {
		check(p, allMotions(p.frame, p.l))
	}
	for _, p := range slices.Concat(fewPlanes(), greatPlanes()) {
		check(p, []impl.Motion{identity})
	}
}

// TestOrbitsOfWrongPlanes has motions, lists and vectors that would be wrong too, so that the order of
// the errors shows.
func TestOrbitsOfWrongPlanes(t *testing.T) {
	motions := []impl.Motion{identity, motionWith(-1, 0, 0, -1, 0, 0), motionWith(1, 1, 0, 1, 0, 0), {}, {M: unitMat, T: impl.Vec{X: 1001}}, motionWith(math.MinInt64, 0, 0, 1, 0, 0)}
	vecs := []impl.Vec{{}, {X: 1}, {X: -1}, {Y: 1001}, {X: math.MinInt64}}
	check := func(frame int64, l impl.Lattice) {
		for _, m := range motions {
			if n, code := impl.CountFixed(frame, l, m); n != 0 || code != impl.ErrInvalid {
				t.Errorf("CountFixed(%d, %v, %v) = %d, %d", frame, l, m, n, code)
			}
			for _, list := range [][]impl.Motion{nil, {m}, {identity, m}, {m, identity}} {
				checkOrbitErrors(t, frame, l, list, vecs, impl.ErrInvalid)
			}
		}
	}
	for _, frame := range bothFrames() {
		for _, w := range wrongLattices() {
			check(frame, w)
		}
	}
	for _, frame := range wrongFrames() {
		for _, l := range append(wrongLattices(), impl.Lattice{A: 1, C: 1}, impl.Lattice{A: 8, C: 8}) {
			check(frame, l)
		}
	}
}

// checkOrbitsAreNew overwrites the orbits of one call one by one, and checks those that are left and
// those of two other calls.
func checkOrbitsAreNew(t *testing.T, call func() [][]impl.Vec) {
	t.Helper()
	first, second := call(), call()
	want := orbitsText(second)
	for i, orbit := range first {
		rest := orbitsText(first[i+1:])
		overwrite(orbit, impl.Vec{X: -7})
		if after := orbitsText(first[i+1:]); after != rest {
			t.Errorf("orbits share memory: %q, then %q", rest, after)
		}
	}
	overwrite(first, nil)
	if third := call(); orbitsText(second) != want || orbitsText(third) != want {
		t.Errorf("OrbitsOf = %v, then %v, want %q", second, third, want)
	}
}

func TestOrbitListsShareNoMemory(t *testing.T) {
	for _, p := range slices.Concat(fewPlanes(), greatPlanes()[:2]) {
		groups := someGroups(p)
		last := impl.Vec{X: p.l.A - 1, Y: p.l.C - 1}
		for _, group := range groups {
			frame, l, before := p.frame, p.l, slices.Clone(group)
			checkIsNew(t, "OrbitOf", func() []impl.Vec { r, _ := impl.OrbitOf(frame, l, group, last); return r }, impl.Vec{X: -7})
			checkIsNew(t, "OrbitNumbers", func() []int64 { r, _ := impl.OrbitNumbers(frame, l, group); return r }, -7)
			checkIsNew(t, "StabiliserOf", func() []impl.Motion { r, _ := impl.StabiliserOf(frame, l, group, last); return r }, impl.Motion{M: impl.Mat{A: -7}})
			checkOrbitsAreNew(t, func() [][]impl.Vec { r, _ := impl.OrbitsOf(frame, l, group); return r })
			if !slices.Equal(group, before) {
				t.Fatalf("a result shares memory with an argument: %v, %v", p, before)
			}
			checkIsKept(t, "OrbitOf", group, func(s []impl.Motion) { impl.OrbitOf(frame, l, s, last) })
			checkIsKept(t, "OrbitsOf", group, func(s []impl.Motion) { impl.OrbitsOf(frame, l, s) })
			checkIsKept(t, "OrbitNumbers", group, func(s []impl.Motion) { impl.OrbitNumbers(frame, l, s) })
			checkIsKept(t, "CountOrbits", group, func(s []impl.Motion) { impl.CountOrbits(frame, l, s) })
			checkIsKept(t, "StabiliserOf", group, func(s []impl.Motion) { impl.StabiliserOf(frame, l, s, last) })
			checkIsKept(t, "MoverOf", group, func(s []impl.Motion) { impl.MoverOf(frame, l, s, last, impl.Vec{}) })
		}
	}
}
