package tests

import (
	"fmt"
	"math"
	"slices"
	"strings"
	"testing"

	"loop.example/g00943/impl"
)

// The following functions say by the definitions what the program should find. They do not ask it.

// firstWitness looks for the first cell of the full lattice whose colour a motion changes.
func firstWitness(p impl.Pattern, full impl.Lattice, m impl.Motion) (impl.Vec, bool) {
	for _, v := range plainCells(full) {
		if shade(p, place(m, v)) != shade(p, v) {
			return v, true
		}
	}
	return impl.Vec{}, false
}

func groupByTrying(p impl.Pattern, full impl.Lattice) []impl.Motion {
	return slices.DeleteFunc(allMotions(p.Frame, full), func(m impl.Motion) bool {
		_, isBroken := firstWitness(p, full, m)
		return isBroken
	})
}

// motionOf expects the text of a motion.
func motionOf(s string) impl.Motion {
	var m impl.Motion
	fmt.Sscanf(s, "%d,%d,%d,%d;%d,%d", &m.M.A, &m.M.B, &m.M.C, &m.M.D, &m.T.X, &m.T.Y)
	return m
}

// paintedPattern has a scattered colour for each orbit of a group, so that the group keeps it.
func paintedPattern(p plane, group []impl.Motion, k int64, next func(int64) int64) impl.Pattern {
	q := impl.Pattern{Frame: p.frame, Lattice: p.l}
	ways, colours := cellWays(p.l, group), map[impl.Vec]int64{}
	for _, v := range plainCells(p.l) {
		first := orbitFrom(ways[v])[0]
		if first == v {
			colours[v] = next(k)
		}
		q.Colours = append(q.Colours, colours[first])
	}
	return q
}

// aboutPoint has the motions with all suitable matrices that do not move a vector.
func aboutPoint(p plane, v impl.Vec) []impl.Motion {
	var list []impl.Motion
	for _, mat := range pointMatsOf(p.frame) {
		if u := image(mat, v); keepsLattice(mat, p.l) {
			list = append(list, reducedMotion(p.l, impl.Motion{M: mat, T: impl.Vec{X: v.X - u.X, Y: v.Y - u.Y}}))
		}
	}
	return list
}

// paintedPatterns has patterns with symmetries of all kinds: for lattices of few cells those of all groups
// of two motions, for others those of motions about a point, all of them or those that one makes.
func paintedPatterns() []impl.Pattern {
	var list []impl.Pattern
	next := scatter(10)
	for _, p := range fewPlanes() {
		for i, group := range groupsOf(p) {
			list = append(list, paintedPattern(p, group, 2+int64(i%9), next))
		}
	}
	for _, p := range greatPlanes() {
		for _, group := range someGroups(p) {
			list = append(list, paintedPattern(p, group, 10, next))
		}
	}
	for i, l := range latticesUpTo(64) {
		p, v := plane{int64(i % 2), l}, impl.Vec{X: next(l.A), Y: next(l.C)}
		group := aboutPoint(p, v)
		if len(group) <= 4 && i%11 != 0 {
			continue
		}
		for _, makers := range [][]impl.Motion{group, group[:1], group[1:2]} {
			list = append(list, paintedPattern(p, closedByProducts(l, makers), 2+next(9), next))
		}
	}
	return list
}

// spreadPatterns are not lean: their colours are those of patterns with symmetries, and some of the motions
// that are suitable for their lattices are not suitable for the full ones, or the other way round.
func spreadPatterns() []impl.Pattern {
	var list []impl.Pattern
	for _, p := range []plane{{impl.FrameSquare, impl.Lattice{A: 2, C: 2}}, {impl.FrameHexagonal, impl.Lattice{A: 3, B: 1, C: 1}}, {impl.FrameSquare, impl.Lattice{A: 5, B: 2, C: 1}}, {impl.FrameHexagonal, impl.Lattice{A: 2, B: 1, C: 2}}} {
		for i, group := range groupsOf(p) {
			q := paintedPattern(p, group, 4, scatter(uint64(i)))
			for _, n := range []int64{2, 3} {
				list = append(list, withLattice(q, impl.Lattice{A: p.l.A * n, B: p.l.B, C: p.l.C}), withLattice(q, impl.Lattice{A: p.l.A * n, B: p.l.B * n, C: p.l.C * n}))
			}
		}
	}
	return list
}

func TestGroupsOfPatterns(t *testing.T) {
	const allOfSquare = "-1,0,0,-1;0,0 -1,0,0,1;0,0 0,-1,-1,0;0,0 0,-1,1,0;0,0 0,1,-1,0;0,0 0,1,1,0;0,0 1,0,0,-1;0,0 1,0,0,1;0,0"
	const alongAxes = "-1,0,0,-1;0,0 -1,0,0,1;0,0 1,0,0,-1;0,0 1,0,0,1;0,0"
	const allOfHexagon = "-1,-1,0,1;0,0 -1,-1,1,0;0,0 -1,0,0,-1;0,0 -1,0,1,1;0,0 0,-1,-1,0;0,0 0,-1,1,1;0,0 0,1,-1,-1;0,0 0,1,1,0;0,0 1,0,-1,-1;0,0 1,0,0,1;0,0 1,1,-1,0;0,0 1,1,0,-1;0,0"
	for _, c := range []struct{ p, want string }{
		{"S 1,0,1 7", allOfSquare}, {"S 8,3,8 " + strings.Repeat("3", 64), allOfSquare}, {"S 3,1,2 000000", allOfSquare},
		{"S 2,1,1 01", allOfSquare}, {"S 2,0,2 0110", allOfSquare}, {"S 2,0,2 0001", allOfSquare}, {"S 4,0,1 0121", alongAxes}, {"S 2,0,2 0123", alongAxes}, {"S 2,0,2 0101", alongAxes},
		{"S 4,0,1 1210", "-1,0,0,-1;2,0 -1,0,0,1;2,0 1,0,0,-1;0,0 1,0,0,1;0,0"},
		{"S 1,0,4 1210", "-1,0,0,-1;0,2 -1,0,0,1;0,0 1,0,0,-1;0,2 1,0,0,1;0,0"},
		{"S 3,0,1 012", "1,0,0,-1;0,0 1,0,0,1;0,0"}, {"S 1,0,3 012", "-1,0,0,1;0,0 1,0,0,1;0,0"}, {"S 3,0,2 001122", "1,0,0,-1;0,0 1,0,0,1;0,0"},
		{"S 3,0,2 012210", "-1,0,0,-1;2,1 -1,0,0,1;2,1 1,0,0,-1;0,0 1,0,0,1;0,0"},
		{"S 2,0,2 0010", "-1,0,0,-1;0,0 -1,0,0,1;0,0 0,-1,-1,0;1,1 0,-1,1,0;1,1 0,1,-1,0;1,1 0,1,1,0;1,1 1,0,0,-1;0,0 1,0,0,1;0,0"},
		{"S 5,2,1 01234", "1,0,0,1;0,0"}, {"S 5,2,1 01111", "-1,0,0,-1;0,0 0,-1,1,0;0,0 0,1,-1,0;0,0 1,0,0,1;0,0"},
		{"S 5,2,1 11101", "-1,0,0,-1;1,0 0,-1,1,0;4,0 0,1,-1,0;2,0 1,0,0,1;0,0"}, {"S 5,2,1 01221", "-1,0,0,-1;0,0 1,0,0,1;0,0"},
		{"H 1,0,1 4", allOfHexagon}, {"H 3,1,1 022", allOfHexagon}, {"H 3,0,2 444444", allOfHexagon}, {"H 2,0,2 1000", allOfHexagon}, {"H 4,0,2 10001000", allOfHexagon},
		{"H 3,1,1 202", "-1,-1,0,1;2,0 -1,-1,1,0;0,0 -1,0,0,-1;2,0 -1,0,1,1;0,0 0,-1,-1,0;0,0 0,-1,1,1;2,0 0,1,-1,-1;0,0 0,1,1,0;2,0 1,0,-1,-1;2,0 1,0,0,1;0,0 1,1,-1,0;2,0 1,1,0,-1;0,0"},
		{"H 3,1,1 012", "-1,-1,1,0;0,0 -1,0,1,1;0,0 0,-1,-1,0;0,0 0,1,-1,-1;0,0 1,0,0,1;0,0 1,1,0,-1;0,0"},
		{"H 3,0,3 012201120", "-1,-1,1,0;0,0 -1,0,1,1;0,0 0,-1,-1,0;0,0 0,1,-1,-1;0,0 1,0,0,1;0,0 1,1,0,-1;0,0"},
		{"H 3,0,3 012120201", "0,1,1,0;0,0 1,0,0,1;0,0"}, {"S 3,0,3 012120201", "0,1,1,0;0,0 1,0,0,1;0,0"},
		{"H 7,2,1 0112122", "-1,-1,1,0;0,0 0,1,-1,-1;0,0 1,0,0,1;0,0"}, {"H 7,2,1 0123456", "1,0,0,1;0,0"},
		{"H 2,0,1 01", "-1,0,0,-1;0,0 -1,0,1,1;0,0 1,0,-1,-1;0,0 1,0,0,1;0,0"},
	} {
		p := patternOf(c.p)
		list, code := impl.GroupOfPattern(p)
		if plainListText(list) != c.want || code != impl.ErrNone {
			t.Errorf("GroupOfPattern(%q) = %s, %d, want %s", c.p, plainListText(list), code, c.want)
		}
		if n, code := impl.CountSymmetries(p); n != int64(len(list)) || code != impl.ErrNone {
			t.Errorf("CountSymmetries(%q) = %d, %d, want %d", c.p, n, code, len(list))
		}
	}
}

// TestWitnesses has symmetries, too: they have the text "" instead of a witness.
func TestWitnesses(t *testing.T) {
	for _, c := range []struct{ p, m, want string }{
		{"S 1,0,1 7", "0,1,-1,0;1000,-999", ""}, {"H 8,0,8 " + strings.Repeat("3", 64), "0,-1,1,1;-1000,1000", ""},
		{"S 4,0,1 0121", "1,0,0,1;1,0", "0,0"}, {"S 4,0,1 0121", "1,0,0,1;2,0", "0,0"}, {"S 4,0,1 0121", "1,0,0,1;4,7", ""}, {"S 4,0,1 0121", "-1,0,0,1;-1000,13", ""},
		{"S 4,0,1 0012", "-1,0,0,1;1,0", "2,0"}, {"S 4,0,1 0012", "-1,0,0,1;-999,55", "2,0"}, {"S 4,0,1 0012", "1,0,0,1;1,0", "1,0"}, {"S 4,0,1 0012", "1,0,0,1;-1,0", "0,0"},
		{"S 1,0,4 0012", "1,0,0,-1;0,1", "0,2"}, {"S 1,0,4 0012", "1,0,0,-1;-1000,-999", "0,2"}, {"S 1,0,4 0012", "-1,0,0,1;77,1000", ""},
		{"S 2,0,2 0001", "1,0,0,1;1,0", "0,1"}, {"S 2,0,2 0001", "1,0,0,1;0,1", "1,0"}, {"S 2,0,2 0001", "1,0,0,1;1,1", "0,0"}, {"S 2,0,2 0001", "1,0,0,1;-999,1000", "0,1"}, {"S 2,0,2 0001", "0,1,-1,0;0,0", ""},
		{"S 2,0,4 00010001", "1,0,0,-1;0,0", "0,1"}, {"S 2,0,4 00010001", "1,0,0,-1;1,2", ""}, {"S 4,0,2 01100110", "1,0,0,1;1,0", "0,0"}, {"S 4,0,2 01100110", "0,1,1,0;3,5", ""},
		{"S 4,0,1 0101", "1,0,0,1;1,0", "0,0"}, {"S 4,0,1 0101", "1,0,0,1;2,0", ""}, {"H 6,0,1 001001", "1,0,0,1;1,0", "1,0"}, {"H 6,0,1 001001", "1,0,0,1;2,0", "0,0"}, {"H 6,0,1 001001", "1,0,0,1;3,0", ""},
		{"S 3,0,1 012", "-1,0,0,-1;0,0", "1,0"}, {"S 3,0,1 011", "-1,0,0,-1;0,0", ""}, {"S 3,0,1 011", "-1,0,0,-1;1,0", "0,0"}, {"S 3,0,1 011", "-1,0,0,-1;999,-1000", ""},
		{"H 3,1,1 012", "-1,-1,1,0;0,0", ""}, {"H 3,1,1 012", "0,-1,1,1;0,0", "1,0"}, {"H 3,1,1 012", "0,-1,1,1;1,0", "0,0"}, {"H 7,2,1 0112122", "-1,0,0,-1;0,0", "1,0"}, {"H 7,2,1 0112122", "-1,0,0,-1;2,1", "1,0"},
		{"S 5,2,1 01234", "0,-1,1,0;0,0", "1,0"}, {"S 5,2,1 11101", "0,-1,1,0;4,0", ""}, {"S 5,2,1 11101", "0,-1,1,0;-6,-15", ""}, {"S 5,2,1 11101", "0,-1,1,0;3,0", "0,0"}, {"S 5,2,1 11101", "0,-1,1,0;2,0", "2,0"},
	} {
		p, m := patternOf(c.p), motionOf(c.m)
		v, code := impl.WitnessAgainst(p, m)
		isSymmetry, other := impl.IsSymmetry(p, m)
		want, wantCode := impl.Vec{}, int64(impl.ErrNotFound)
		if c.want != "" {
			fmt.Sscanf(c.want, "%d,%d", &want.X, &want.Y)
			wantCode = impl.ErrNone
		}
		if v != want || code != wantCode {
			t.Errorf("WitnessAgainst(%q, %q) = %v, %d, want %q", c.p, c.m, v, code, c.want)
		}
		if isSymmetry != (c.want == "") || other != impl.ErrNone {
			t.Errorf("IsSymmetry(%q, %q) = %v, %d", c.p, c.m, isSymmetry, other)
		}
	}
}

// checkWitness compares with the definition, for a motion that need not be reduced, and tells whether it
// is a symmetry.
func checkWitness(t *testing.T, p impl.Pattern, full impl.Lattice, m impl.Motion) bool {
	t.Helper()
	want, isBroken := firstWitness(p, full, m)
	wantCode := int64(impl.ErrNone)
	if !isBroken {
		wantCode = impl.ErrNotFound
	}
	v, code := impl.WitnessAgainst(p, m)
	if v != want || code != wantCode {
		t.Errorf("WitnessAgainst(%v, %v) = %v, %d, want %v, %d", p, m, v, code, want, wantCode)
	}
	if isSymmetry, code := impl.IsSymmetry(p, m); isSymmetry == isBroken || code != impl.ErrNone {
		t.Errorf("IsSymmetry(%v, %v) = %v, %d", p, m, isSymmetry, code)
	}
	// The witness is mapped to a vector that is not valid if the motion leads to the edge of the plane.
	if u, other := impl.ApplyMotion(m, v); code == impl.ErrNone && other == impl.ErrNone {
		before, _ := impl.ColourAt(p, v)
		after, _ := impl.ColourAt(p, u)
		if before == after {
			t.Errorf("WitnessAgainst(%v, %v) = %v, but %d becomes %d", p, m, v, before, after)
		}
	}
	return !isBroken
}

// farMotion adds a vector of a lattice that leads as far as it may, in one of four directions.
func farMotion(l impl.Lattice, m impl.Motion, direction int64) impl.Motion {
	sides := [4]impl.Vec{{X: 1, Y: 1}, {X: 1, Y: -1}, {X: -1, Y: 1}, {X: -1, Y: -1}}[direction%4]
	far := impl.Vec{X: 1000 * sides.X, Y: 1000 * sides.Y}
	for !hasVec(l, impl.Vec{X: far.X - m.T.X, Y: far.Y - m.T.Y}) {
		far.X -= sides.X
		if far.X*sides.X == 1000-l.A {
			far = impl.Vec{X: 1000 * sides.X, Y: far.Y - sides.Y}
		}
	}
	return impl.Motion{M: m.M, T: far}
}

// checkGroupOfPattern checks promise 10 and the rest of the guarantee of chapter 10, and returns the full
// lattice and the group. Of many motions, only some are tried against witnesses, beside all symmetries.
func checkGroupOfPattern(t *testing.T, p impl.Pattern) (impl.Lattice, []impl.Motion) {
	t.Helper()
	full := leanBySearch(p).Lattice
	want := groupByTrying(p, full)
	group, code := impl.GroupOfPattern(p)
	if !slices.Equal(group, want) || code != impl.ErrNone {
		t.Fatalf("GroupOfPattern(%v) = %s, %d, want %s", p, plainListText(group), code, plainListText(want))
	}
	if n, code := impl.CountSymmetries(p); n != int64(len(want)) || code != impl.ErrNone {
		t.Errorf("CountSymmetries(%v) = %d, %d, want %d", p, n, code, len(want))
	}
	if !isGroupByDefinition(p.Frame, full, group) || !impl.IsGroup(p.Frame, full, group) {
		t.Errorf("GroupOfPattern(%v) = %s is no group", p, plainListText(group))
	}
	if shifts, _ := impl.ShiftsOf(p.Frame, full, group); !slices.Equal(shifts, []impl.Vec{{}}) {
		t.Errorf("GroupOfPattern(%v) = %s has the shifts %v", p, plainListText(group), shifts)
	}
	all := allMotions(p.Frame, full)
	for i, m := range all {
		isListed := slices.Contains(group, m)
		if i%(len(all)/40+1) != 0 && !isListed {
			continue
		}
		if checkWitness(t, p, full, m) != isListed || checkWitness(t, p, full, farMotion(full, m, int64(i))) != isListed {
			t.Errorf("GroupOfPattern(%v) = %s, but %v", p, plainListText(group), m)
		}
	}
	return full, group
}

// TestGroupsOfManyPatterns also checks that patterns of all kinds are there: with groups of each number of
// motions, lean ones and others.
func TestGroupsOfManyPatterns(t *testing.T) {
	sizes := map[int]int{}
	lean, other := 0, 0
	for _, p := range slices.Concat(smallPatterns(), greatPatterns(), everyLattice(), paintedPatterns(), spreadPatterns()) {
		full, group := checkGroupOfPattern(t, p)
		sizes[len(group)]++
		if full == p.Lattice {
			lean++
		} else {
			other++
		}
	}
	for _, size := range []int{1, 2, 3, 4, 6, 8, 12} {
		if sizes[size] < 20 {
			t.Errorf("only %d groups of %d motions", sizes[size], size)
		}
	}
	if len(sizes) != 7 || min(lean, other) < 1000 {
		t.Errorf("groups of %v motions, %d lean patterns, %d others", sizes, lean, other)
	}
}

func TestSites(t *testing.T) {
	for _, c := range []struct{ p, want string }{
		{"S 1,0,1 7", "0,0"}, {"H 8,0,8 " + strings.Repeat("3", 64), "0,0"}, {"S 4,0,1 0121", "0,0 | 1,0 3,0 | 2,0"}, {"S 4,0,1 1210", "0,0 2,0 | 1,0 | 3,0"},
		{"S 1,0,4 0012", "0,0 | 0,1 | 0,2 | 0,3"}, {"S 1,0,4 0001", "0,0 0,2 | 0,1 | 0,3"}, {"S 2,0,2 0110", "0,0 | 1,0"}, {"S 2,0,2 0101", "0,0 | 0,1"}, {"S 2,0,2 0001", "0,0 | 0,1 1,0 | 1,1"},
		{"S 2,0,2 0010", "0,0 1,1 | 0,1 | 1,0"}, {"S 2,0,2 0123", "0,0 | 0,1 | 1,0 | 1,1"}, {"S 3,0,2 012210", "0,0 2,1 | 0,1 2,0 | 1,0 1,1"}, {"S 5,2,1 01111", "0,0 | 1,0 2,0 3,0 4,0"},
		{"S 5,2,1 01221", "0,0 | 1,0 4,0 | 2,0 3,0"}, {"S 5,2,1 01234", "0,0 | 1,0 | 2,0 | 3,0 | 4,0"}, {"H 3,1,1 012", "0,0 | 1,0 | 2,0"}, {"H 3,1,1 202", "0,0 2,0 | 1,0"}, {"H 7,2,1 0112122", "0,0 | 1,0 2,0 4,0 | 3,0 5,0 6,0"},
		{"H 2,0,2 1000", "0,0 | 0,1 1,0 1,1"}, {"H 4,0,2 10001000", "0,0 | 0,1 1,0 1,1"}, {"H 3,0,3 012201120", "0,0 | 1,0 | 2,0"},
		// Both cells of the one colour are fixed, so that cells of one colour need not be in one orbit.
		{"S 4,0,1 0102", "0,0 2,0 | 1,0 | 3,0"}, {"S 6,0,1 012321", "0,0 | 1,0 5,0 | 2,0 4,0 | 3,0"}, {"S 3,0,1 001", "0,0 1,0 | 2,0"}, {"S 6,0,1 001011", "0,0 | 1,0 | 2,0 | 3,0 | 4,0 | 5,0"},
	} {
		p := patternOf(c.p)
		sites, code := impl.SitesOf(p)
		if orbitsText(sites) != c.want || code != impl.ErrNone {
			t.Errorf("SitesOf(%q) = %q, %d, want %q", c.p, orbitsText(sites), code, c.want)
		}
	}
}

func TestSiteSymmetries(t *testing.T) {
	for _, c := range []struct {
		p    string
		x, y int64
		want string
	}{
		{"S 1,0,1 7", 0, 0, "-1,0,0,-1;0,0 -1,0,0,1;0,0 0,-1,-1,0;0,0 0,-1,1,0;0,0 0,1,-1,0;0,0 0,1,1,0;0,0 1,0,0,-1;0,0 1,0,0,1;0,0"},
		{"S 4,0,1 0121", 0, 0, "-1,0,0,-1;0,0 -1,0,0,1;0,0 1,0,0,-1;0,0 1,0,0,1;0,0"}, {"S 4,0,1 0121", 1, 0, "1,0,0,-1;0,0 1,0,0,1;0,0"}, {"S 4,0,1 0121", 2, 0, "-1,0,0,-1;0,0 -1,0,0,1;0,0 1,0,0,-1;0,0 1,0,0,1;0,0"},
		{"S 4,0,1 1210", 3, 0, "-1,0,0,-1;2,0 -1,0,0,1;2,0 1,0,0,-1;0,0 1,0,0,1;0,0"}, {"S 4,0,1 1210", 0, 0, "1,0,0,-1;0,0 1,0,0,1;0,0"}, {"S 3,0,2 012210", 1, 1, "1,0,0,-1;0,0 1,0,0,1;0,0"},
		{"S 2,0,2 0010", 0, 0, "-1,0,0,-1;0,0 -1,0,0,1;0,0 1,0,0,-1;0,0 1,0,0,1;0,0"},
		{"S 5,2,1 01111", 0, 0, "-1,0,0,-1;0,0 0,-1,1,0;0,0 0,1,-1,0;0,0 1,0,0,1;0,0"}, {"S 5,2,1 01111", 4, 0, "1,0,0,1;0,0"}, {"S 5,2,1 11101", 3, 0, "-1,0,0,-1;1,0 0,-1,1,0;4,0 0,1,-1,0;2,0 1,0,0,1;0,0"}, {"S 5,2,1 11101", 0, 0, "1,0,0,1;0,0"},
		{"H 3,1,1 202", 0, 0, "-1,-1,1,0;0,0 -1,0,1,1;0,0 0,-1,-1,0;0,0 0,1,-1,-1;0,0 1,0,0,1;0,0 1,1,0,-1;0,0"}, {"H 2,0,2 1000", 0, 1, "-1,0,0,-1;0,0 -1,0,1,1;0,0 1,0,-1,-1;0,0 1,0,0,1;0,0"},
		{"H 4,0,2 10001000", 0, 1, "-1,0,0,-1;0,0 -1,0,1,1;0,0 1,0,-1,-1;0,0 1,0,0,1;0,0"}, {"H 7,2,1 0112122", 1, 0, "1,0,0,1;0,0"},
	} {
		p, v := patternOf(c.p), impl.Vec{X: c.x, Y: c.y}
		if list, code := impl.SiteSymmetries(p, v); plainListText(list) != c.want || code != impl.ErrNone {
			t.Errorf("SiteSymmetries(%q, %v) = %s, %d, want %s", c.p, v, plainListText(list), code, c.want)
		}
	}
}

// checkSites compares with the definitions, and checks with the program's own results that each cell is in
// one site, and that the cells of a site have one colour and equally many symmetries.
func checkSites(t *testing.T, p impl.Pattern, full impl.Lattice, group []impl.Motion) {
	t.Helper()
	ways := cellWays(full, group)
	sites, code := impl.SitesOf(p)
	if want := orbitsFrom(full, ways); orbitsText(sites) != orbitsText(want) || code != impl.ErrNone {
		t.Fatalf("SitesOf(%v) = %v, %d, want %v", p, sites, code, want)
	}
	for _, site := range sites {
		for _, v := range site {
			var want []impl.Motion
			for i, m := range group {
				if ways[v][i] == v {
					want = append(want, m)
				}
			}
			list, code := impl.SiteSymmetries(p, v)
			if !slices.Equal(list, want) || code != impl.ErrNone {
				t.Errorf("SiteSymmetries(%v, %v) = %s, %d, want %s", p, v, plainListText(list), code, plainListText(want))
			}
			if len(list)*len(site) != len(group) || shade(p, v) != shade(p, site[0]) || !isStrictlyIncreasing(list) {
				t.Errorf("the site %v of %v, at %v: %s", site, p, v, plainListText(list))
			}
		}
	}
	all := slices.Concat(sites...)
	slices.SortFunc(all, compareVecs)
	if cells, _ := impl.CellsOf(full); !slices.Equal(all, cells) {
		t.Errorf("SitesOf(%v) = %v", p, sites)
	}
}

// checkUnbroken tries all motions, all others but the symmetries, none, and every few of them.
func checkUnbroken(t *testing.T, p impl.Pattern, full impl.Lattice, group []impl.Motion) {
	t.Helper()
	all := allMotions(p.Frame, full)
	isSymmetry := func(m impl.Motion) bool { return slices.Contains(group, m) }
	lists := [][]impl.Motion{all, group, slices.DeleteFunc(slices.Clone(all), isSymmetry), nil, {}}
	for _, step := range []int{2, 3, 7} {
		var few []impl.Motion
		for i := step - 1; i < len(all); i += step {
			few = append(few, all[i])
		}
		lists = append(lists, few)
	}
	for _, list := range lists {
		want := slices.DeleteFunc(slices.Clone(list), func(m impl.Motion) bool { return !isSymmetry(m) })
		if r, code := impl.Unbroken(p, list); !slices.Equal(r, want) || code != impl.ErrNone {
			t.Errorf("Unbroken(%v, %s) = %s, %d, want %s", p, plainListText(list), plainListText(r), code, plainListText(want))
		}
	}
}

func TestSitesOfManyPatterns(t *testing.T) {
	for _, p := range slices.Concat(smallPatterns(), greatPatterns(), paintedPatterns(), spreadPatterns()) {
		full := leanBySearch(p).Lattice
		group := groupByTrying(p, full)
		checkSites(t, p, full, group)
		checkUnbroken(t, p, full, group)
	}
}

// TestGroupsOfSamePatterns checks that the group depends on the colours alone, not on Lattice.
func TestGroupsOfSamePatterns(t *testing.T) {
	for _, p := range slices.Concat(greatPatterns(), repeatedPatterns(), paintedPatterns(), spreadPatterns()) {
		lean := leanBySearch(p)
		group, code := impl.GroupOfPattern(p)
		if want, other := impl.GroupOfPattern(lean); !slices.Equal(group, want) || code != other {
			t.Errorf("GroupOfPattern(%v) = %s, %d, want %s, %d", p, plainListText(group), code, plainListText(want), other)
		}
		sites, code := impl.SitesOf(p)
		if want, other := impl.SitesOf(lean); orbitsText(sites) != orbitsText(want) || code != other {
			t.Errorf("SitesOf(%v) = %v, %d, want %v, %d", p, sites, code, want, other)
		}
	}
}

// somePatterns has lean patterns and others, with few and with many symmetries.
func somePatterns() []impl.Pattern {
	var list []impl.Pattern
	for _, s := range []string{
		"S 1,0,1 7", "H 1,0,1 0", "S 4,0,1 0121", "S 2,0,2 0101", "S 2,0,2 0110", "S 4,0,4 " + strings.Repeat("5", 16), "S 5,2,1 11101", "S 3,0,2 012210", "H 3,1,1 202", "H 7,2,1 0112122", "H 4,0,2 10001000",
		"H 3,0,3 012120201", "H 2,0,1 01", "S 8,0,8 " + strings.Repeat("01", 32), "H 8,0,8 " + strings.Repeat("0110", 16), "S 6,0,1 001011", "S 64,63,1 " + strings.Repeat("0112", 16),
	} {
		list = append(list, patternOf(s))
	}
	for _, some := range [][]impl.Pattern{greatPatterns(), paintedPatterns(), spreadPatterns()} {
		for i := 0; i < len(some); i += len(some) / 30 {
			list = append(list, some[i])
		}
	}
	return list
}

func checkUnsuitable(t *testing.T, p impl.Pattern, group []impl.Motion, m impl.Motion) {
	t.Helper()
	if isSymmetry, code := impl.IsSymmetry(p, m); isSymmetry || code != impl.ErrRange {
		t.Errorf("IsSymmetry(%v, %v) = %v, %d", p, m, isSymmetry, code)
	}
	if v, code := impl.WitnessAgainst(p, m); v != (impl.Vec{}) || code != impl.ErrRange {
		t.Errorf("WitnessAgainst(%v, %v) = %v, %d", p, m, v, code)
	}
	for _, list := range [][]impl.Motion{{m}, append(slices.Clone(group), m), append([]impl.Motion{m}, group...), slices.Insert(slices.Clone(group), len(group)/2, m)} {
		checkNotUnbroken(t, p, list, impl.ErrRange)
	}
}

func checkNotUnbroken(t *testing.T, p impl.Pattern, list []impl.Motion, want int64) {
	t.Helper()
	if r, code := impl.Unbroken(p, list); len(r) != 0 || code != want {
		t.Errorf("Unbroken(%v, %s) = %s, %d, want none, %d", p, plainListText(list), plainListText(r), code, want)
	}
}

// TestUnsuitableMotionsOfPatterns also checks that there are motions that are suitable for Lattice alone,
// and that those which are suitable for the full lattice alone are not refused.
func TestUnsuitableMotionsOfPatterns(t *testing.T) {
	onlyLattice, onlyFull := 0, 0
	for _, p := range somePatterns() {
		full := leanBySearch(p).Lattice
		group := groupByTrying(p, full)
		unsuitable := unsuitableMotions(plane{p.Frame, full})
		for i := 0; i < len(unsuitable); i += 3 {
			checkUnsuitable(t, p, group, unsuitable[i])
		}
		for _, m := range motionsOf(pointMatsOf(p.Frame), []impl.Vec{{}, {X: 1}, {Y: -1000}}) {
			isOfLattice, isOfFull := isSuitableByDefinition(p.Frame, p.Lattice, m), isSuitableByDefinition(p.Frame, full, m)
			switch {
			case !isOfFull:
				checkUnsuitable(t, p, group, m)
			case !isOfLattice:
				checkWitness(t, p, full, m)
				onlyFull++
			}
			if isOfLattice && !isOfFull {
				onlyLattice++
			}
		}
	}
	if min(onlyLattice, onlyFull) < 20 {
		t.Errorf("%d motions are suitable for Lattice alone, %d for the full lattice alone", onlyLattice, onlyFull)
	}
}

// TestUnbrokenOfOtherLists has lists of suitable motions that are not reduced, stand twice or are out of
// order.
func TestUnbrokenOfOtherLists(t *testing.T) {
	for _, p := range somePatterns() {
		full := leanBySearch(p).Lattice
		for _, list := range [][]impl.Motion{groupByTrying(p, full), allMotions(p.Frame, full)} {
			for i := 0; i < len(list); i += len(list)/12 + 1 {
				m := list[i]
				checkNotUnbroken(t, p, slices.Insert(slices.Clone(list), i, m), impl.ErrRange)
				checkNotUnbroken(t, p, []impl.Motion{m, m}, impl.ErrRange)
				if i > 0 {
					swapped := slices.Clone(list)
					swapped[i-1], swapped[i] = swapped[i], swapped[i-1]
					checkNotUnbroken(t, p, swapped, impl.ErrRange)
					checkNotUnbroken(t, p, append(slices.Clone(list), list[0]), impl.ErrRange)
					checkNotUnbroken(t, p, append([]impl.Motion{m}, list...), impl.ErrRange)
				}
				for _, v := range []impl.Vec{{X: full.A}, {X: -full.A}, {X: full.B, Y: full.C}, {X: -full.B, Y: -full.C}} {
					far := impl.Motion{M: m.M, T: plus(m.T, v)}
					moved := slices.Clone(list)
					moved[i] = far
					checkNotUnbroken(t, p, moved, impl.ErrRange)
					checkNotUnbroken(t, p, []impl.Motion{far}, impl.ErrRange)
				}
			}
		}
	}
}

// TestSiteSymmetriesOfOtherVecs has cells of Lattice among the vectors that are no cells of the full
// lattice.
func TestSiteSymmetriesOfOtherVecs(t *testing.T) {
	cells := 0
	for _, p := range somePatterns() {
		full := leanBySearch(p).Lattice
		other := slices.Concat(otherVecs(full), otherVecs(p.Lattice), plainCells(p.Lattice))
		for _, v := range other {
			if slices.Contains(plainCells(full), v) {
				continue
			}
			if list, code := impl.SiteSymmetries(p, v); len(list) != 0 || code != impl.ErrRange {
				t.Errorf("SiteSymmetries(%v, %v) = %s, %d", p, v, plainListText(list), code)
			}
			if slices.Contains(plainCells(p.Lattice), v) {
				cells++
			}
		}
	}
	if cells < 100 {
		t.Errorf("only %d cells of Lattice alone", cells)
	}
}

// TestSymmetriesOfWrongPatterns has other arguments that are wrong, too, as ErrInvalid comes first.
func TestSymmetriesOfWrongPatterns(t *testing.T) {
	motions := []impl.Motion{identity, {}, {M: unitMat, T: impl.Vec{X: 1001}}, motionWith(0, 1, 1, 0, 2, -3), motionWith(1, 1, 0, 1, 0, 0), motionWith(math.MinInt64, 0, 0, 1, 0, 0)}
	for _, w := range wrongPatterns() {
		if list, code := impl.GroupOfPattern(w); len(list) != 0 || code != impl.ErrInvalid {
			t.Errorf("GroupOfPattern(%v) = %v, %d", w, list, code)
		}
		if n, code := impl.CountSymmetries(w); n != 0 || code != impl.ErrInvalid {
			t.Errorf("CountSymmetries(%v) = %d, %d", w, n, code)
		}
		if sites, code := impl.SitesOf(w); len(sites) != 0 || code != impl.ErrInvalid {
			t.Errorf("SitesOf(%v) = %v, %d", w, sites, code)
		}
		for _, v := range []impl.Vec{{}, {X: 1, Y: -1}, {X: 1001}, {Y: math.MinInt64}} {
			if list, code := impl.SiteSymmetries(w, v); len(list) != 0 || code != impl.ErrInvalid {
				t.Errorf("SiteSymmetries(%v, %v) = %v, %d", w, v, list, code)
			}
		}
		checkNotUnbroken(t, w, nil, impl.ErrInvalid)
		for _, m := range motions {
			if isSymmetry, code := impl.IsSymmetry(w, m); isSymmetry || code != impl.ErrInvalid {
				t.Errorf("IsSymmetry(%v, %v) = %v, %d", w, m, isSymmetry, code)
			}
			if v, code := impl.WitnessAgainst(w, m); v != (impl.Vec{}) || code != impl.ErrInvalid {
				t.Errorf("WitnessAgainst(%v, %v) = %v, %d", w, m, v, code)
			}
			for _, list := range [][]impl.Motion{{m}, {m, m}, {m, identity}} {
				checkNotUnbroken(t, w, list, impl.ErrInvalid)
			}
		}
	}
}

func TestSymmetriesShareNoMemory(t *testing.T) {
	wrong := impl.Motion{M: impl.Mat{A: -7}}
	for _, p := range somePatterns() {
		full := leanBySearch(p).Lattice
		group, all := groupByTrying(p, full), allMotions(p.Frame, full)
		half, before, colours := impl.Motion{M: impl.Mat{A: -1, D: -1}, T: impl.Vec{X: 3, Y: -2}}, slices.Concat(group, all), slices.Clone(p.Colours)
		checkIsNew(t, "GroupOfPattern", func() []impl.Motion { r, _ := impl.GroupOfPattern(p); return r }, wrong)
		checkIsNew(t, "SiteSymmetries", func() []impl.Motion { r, _ := impl.SiteSymmetries(p, impl.Vec{}); return r }, wrong)
		checkIsNew(t, "Unbroken", func() []impl.Motion { r, _ := impl.Unbroken(p, all); return r }, wrong)
		checkIsNew(t, "Unbroken", func() []impl.Motion { r, _ := impl.Unbroken(p, group); return r }, wrong)
		checkOrbitsAreNew(t, func() [][]impl.Vec { r, _ := impl.SitesOf(p); return r })
		if !slices.Equal(slices.Concat(group, all), before) || !slices.Equal(p.Colours, colours) {
			t.Fatalf("a result shares memory with an argument: %v, %v", p, before)
		}
		checkIsKept(t, "Unbroken", all, func(s []impl.Motion) { impl.Unbroken(p, s) })
		checkIsKept(t, "Unbroken", group, func(s []impl.Motion) { impl.Unbroken(p, s) })
		checkColoursAreKept(t, "GroupOfPattern", p, func(q impl.Pattern) { impl.GroupOfPattern(q) })
		checkColoursAreKept(t, "IsSymmetry", p, func(q impl.Pattern) { impl.IsSymmetry(q, half) })
		checkColoursAreKept(t, "WitnessAgainst", p, func(q impl.Pattern) { impl.WitnessAgainst(q, half) })
		checkColoursAreKept(t, "CountSymmetries", p, func(q impl.Pattern) { impl.CountSymmetries(q) })
		checkColoursAreKept(t, "SiteSymmetries", p, func(q impl.Pattern) { impl.SiteSymmetries(q, impl.Vec{}) })
		checkColoursAreKept(t, "SitesOf", p, func(q impl.Pattern) { impl.SitesOf(q) })
		checkColoursAreKept(t, "Unbroken", p, func(q impl.Pattern) { impl.Unbroken(q, group) })
	}
}
