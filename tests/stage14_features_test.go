package tests

import (
	"math"
	"slices"
	"strings"
	"testing"

	"loop.example/g00943/impl"
)

// The following functions say by the definitions what the program should find. They do not ask it.

// line is the axis of a reflection or a glide: all points whose determinant with the direction is half of the
// offset. Offsets are reduced, so that lines are alike exactly if they are equal.
type line struct {
	direction impl.Vec
	offset    int64
}

// lineOf uses that a reflection matrix changes the sign of determinants with its axis.
func lineOf(l impl.Lattice, m impl.Motion) line {
	direction, b := shortAxis(m.M), basisOf(l)
	// Shifts by vectors of the lattice change the offset by multiples of this.
	step := 2 * divisor(det(direction, b[0]), det(direction, b[1]))
	return line{direction, (det(direction, m.T)%step + step) % step}
}

// linesWith has the mirror lines and the glide lines of a group for a reflection matrix.
func (table mirrorTable) linesWith(l impl.Lattice, group []impl.Motion, mat impl.Mat) (map[line]bool, map[line]bool) {
	mirrors, glides := map[line]bool{}, map[line]bool{}
	for _, m := range group {
		if m.M != mat {
			continue
		}
		for _, r := range table.reflections[mat] {
			if hasVec(l, plus(r.T, negative(m.T))) {
				mirrors[lineOf(l, r)] = true
			}
		}
		for _, v := range nearLattice(l) {
			glides[lineOf(l, impl.Motion{M: mat, T: plus(m.T, v)})] = true
		}
	}
	for axis := range mirrors {
		delete(glides, axis)
	}
	return mirrors, glides
}

// lineCounts has the numbers of mirror lines and of glide lines.
type lineCounts struct{ mirrors, glides int64 }

func (table mirrorTable) countBySearch(l impl.Lattice, group []impl.Motion) lineCounts {
	var counts lineCounts
	for _, mat := range matsOf(group) {
		if isMirrorMat(mat) {
			mirrors, glides := table.linesWith(l, group, mat)
			counts.mirrors += int64(len(mirrors))
			counts.glides += int64(len(glides))
		}
	}
	return counts
}

// linesOfNames has the numbers of the lines of the seventeen groups.
func linesOfNames() map[string]lineCounts {
	return map[string]lineCounts{
		"p1": {0, 0}, "p2": {0, 0}, "pm": {2, 0}, "pg": {0, 2}, "cm": {1, 1}, "pmm": {4, 0}, "pmg": {2, 2}, "pgg": {0, 4}, "cmm": {2, 2},
		"p4": {0, 0}, "p4m": {6, 2}, "p4g": {2, 6}, "p3": {0, 0}, "p3m1": {3, 3}, "p31m": {3, 3}, "p6": {0, 0}, "p6m": {6, 6},
	}
}

func isTurnBy(m impl.Mat, n int64) bool { return m.A*m.D-m.B*m.C == 1 && orderByPowers(m) == n }

// fixedCounts has, for each cell in order, how many motions of a list take it to itself.
func fixedCounts(l impl.Lattice, list []impl.Motion) []int64 {
	var counts []int64
	for _, v := range plainCells(l) {
		count := int64(0)
		for _, m := range list {
			if cellTaken(l, m, v) == v {
				count++
			}
		}
		counts = append(counts, count)
	}
	return counts
}

func turningBySearch(l impl.Lattice, group []impl.Motion, n int64) []impl.Vec {
	turns := slices.DeleteFunc(slices.Clone(group), func(m impl.Motion) bool { return !isTurnBy(m.M, n) })
	counts := fixedCounts(l, turns)
	var sites []impl.Vec
	for i, v := range plainCells(l) {
		if counts[i] > 0 {
			sites = append(sites, v)
		}
	}
	return sites
}

func swapped(v impl.Vec) impl.Vec { return impl.Vec{X: v.Y, Y: v.X} }

// mirrored looks for the lattice of the same index that has the swapped vectors of the basis.
func mirrored(p impl.Pattern) impl.Pattern {
	b := basisOf(p.Lattice)
	for _, l := range latticesWith(p.Lattice.A * p.Lattice.C) {
		if !hasVec(l, swapped(b[0])) || !hasVec(l, swapped(b[1])) {
			continue
		}
		q := impl.Pattern{Frame: p.Frame, Lattice: l}
		for _, v := range plainCells(l) {
			q.Colours = append(q.Colours, shade(p, swapped(v)))
		}
		return q
	}
	panic("no lattice")
}

// isTurnedInto tries all rotations, each followed by all shifts.
func isTurnedInto(p impl.Pattern, q impl.Pattern) bool {
	for _, mat := range pointMatsOf(p.Frame) {
		b := basisOf(p.Lattice)
		if isMirrorMat(mat) || !hasVec(q.Lattice, image(mat, b[0])) || !hasVec(q.Lattice, image(mat, b[1])) {
			continue
		}
		for _, shift := range plainCells(q.Lattice) {
			m := impl.Motion{M: mat, T: shift}
			if !slices.ContainsFunc(plainCells(p.Lattice), func(v impl.Vec) bool { return shade(q, place(m, v)) != shade(p, v) }) {
				return true
			}
		}
	}
	return false
}

// vecsText has the texts of vectors, separated by blanks.
func vecsText(list []impl.Vec) string { return orbitsText([][]impl.Vec{list}) }

func turnOrders() []int64 { return []int64{2, 3, 4, 6} }

// wrongOrders has numbers that are no orders of rotations, or become such orders when they are cut off.
func wrongOrders() []int64 {
	return []int64{0, 1, 5, 7, 8, 9, 12, 24, -1, -2, -3, -4, -5, -6, -7, 256 + 2, 256 + 6, 1<<16 + 4, 1<<32 + 3, 1<<32 + 6, -1<<32 + 2, 1<<62 + 4, math.MaxInt64, math.MaxInt64 - 1, math.MinInt64, math.MinInt64 + 2, math.MinInt64 + 6}
}

// standardPatterns paints each standard group a few times.
func standardPatterns() []impl.Pattern {
	var list []impl.Pattern
	next := scatter(14)
	for _, c := range standardCases() {
		for _, k := range []int64{1, 2, 3, 10, 10} {
			list = append(list, paintedPattern(c.p, c.group(), k, next))
		}
	}
	return list
}

// betweenCells has patterns whose quarter turns or third turns are about points that are no vectors.
func betweenCells() []impl.Pattern {
	var list []impl.Pattern
	next := scatter(141)
	for range 15 {
		for _, side := range []int64{4, 6, 8} {
			p := plane{impl.FrameSquare, impl.Lattice{A: side, C: side}}
			list = append(list, paintedPattern(p, groupBy(p.l, "0,-1,1,0;1,0"), 10, next))
		}
		for _, side := range []int64{3, 6} {
			p := plane{impl.FrameHexagonal, impl.Lattice{A: side, C: side}}
			list = append(list, paintedPattern(p, groupBy(p.l, "-1,-1,1,0;1,0"), 10, next))
		}
	}
	return list
}

func checkLineCounts(t *testing.T, p impl.Pattern, want lineCounts) {
	t.Helper()
	if n, code := impl.CountMirrorLines(p); n != want.mirrors || code != impl.ErrNone {
		t.Errorf("CountMirrorLines(%s) = %d, %d, want %d", plainPatternText(p), n, code, want.mirrors)
	}
	if n, code := impl.CountGlideLines(p); n != want.glides || code != impl.ErrNone {
		t.Errorf("CountGlideLines(%s) = %d, %d, want %d", plainPatternText(p), n, code, want.glides)
	}
}

func checkHanded(t *testing.T, p impl.Pattern, want bool) {
	t.Helper()
	if isHanded, code := impl.IsHanded(p); isHanded != want || code != impl.ErrNone {
		t.Errorf("IsHanded(%s) = %v, %d, want %v", plainPatternText(p), isHanded, code, want)
	}
}

func checkUnit(t *testing.T, p impl.Pattern, cells int64, motions int64) {
	t.Helper()
	if a, b, code := impl.UnitOf(p); a != cells || b != motions || code != impl.ErrNone {
		t.Errorf("UnitOf(%s) = %d, %d, %d, want %d, %d", plainPatternText(p), a, b, code, cells, motions)
	}
}

func checkBestSite(t *testing.T, p impl.Pattern, want impl.Vec, most int64) {
	t.Helper()
	if v, n, code := impl.BestSite(p); v != want || n != most || code != impl.ErrNone {
		t.Errorf("BestSite(%s) = %v, %d, %d, want %v, %d", plainPatternText(p), v, n, code, want, most)
	}
}

func checkTurningSites(t *testing.T, p impl.Pattern, n int64, want []impl.Vec) {
	t.Helper()
	if list, code := impl.TurningSites(p, n); !slices.Equal(list, want) || code != impl.ErrNone {
		t.Errorf("TurningSites(%s, %d) = %v, %d, want %v", plainPatternText(p), n, list, code, want)
	}
}

func checkNoTurningSites(t *testing.T, p impl.Pattern, n int64, want int64) {
	t.Helper()
	if list, code := impl.TurningSites(p, n); len(list) != 0 || code != want {
		t.Errorf("TurningSites(%v, %d) = %v, %d, want none, %d", p, n, list, code, want)
	}
}

func checkOtherHand(t *testing.T, p impl.Pattern, want impl.Pattern) {
	t.Helper()
	if q, code := impl.OtherHand(p); !arePatternsEqual(q, want) || code != impl.ErrNone {
		t.Errorf("OtherHand(%s) = %v, %d, want %v", plainPatternText(p), q, code, want)
	}
}

func TestLines(t *testing.T) {
	for _, c := range []struct {
		p    string
		want lineCounts
	}{
		// Without reflections there are no lines.
		{"S 5,2,1 02210", lineCounts{0, 0}}, {"H 7,2,1 0123456", lineCounts{0, 0}}, {"S 5,2,1 00011", lineCounts{0, 0}}, {"H 2,0,3 000001", lineCounts{0, 0}}, {"S 5,2,1 01111", lineCounts{0, 0}}, {"S 5,3,1 11611", lineCounts{0, 0}},
		{"H 7,2,1 0112122", lineCounts{0, 0}}, {"H 7,2,1 0111111", lineCounts{0, 0}}, {"S 3,0,3 012345678", lineCounts{0, 0}},
		// All reflections are mirrors here,
		{"S 3,0,1 012", lineCounts{2, 0}}, {"S 1,0,3 012", lineCounts{2, 0}}, {"H 1,0,4 0012", lineCounts{2, 0}}, {"H 2,1,2 6117", lineCounts{2, 0}}, {"S 4,0,1 0121", lineCounts{4, 0}}, {"S 2,0,2 0123", lineCounts{4, 0}}, {"H 2,0,1 01", lineCounts{4, 0}},
		// and there are glides alone here.
		{"S 3,0,4 978585973232", lineCounts{0, 2}}, {"S 4,0,3 220102202120", lineCounts{0, 2}}, {"H 3,1,4 012120011110", lineCounts{0, 2}}, {"H 12,4,1 101202202101", lineCounts{0, 4}},
		{"S 4,1,1 0011", lineCounts{2, 2}}, {"H 1,0,4 0011", lineCounts{2, 2}},
		// These lattices are centred for all reflection matrices.
		{"S 3,1,1 012", lineCounts{1, 1}}, {"S 3,0,3 012120201", lineCounts{1, 1}}, {"H 1,0,3 012", lineCounts{1, 1}}, {"S 3,1,1 001", lineCounts{2, 2}}, {"H 3,0,1 011", lineCounts{2, 2}},
		{"H 3,1,1 012", lineCounts{3, 3}}, {"H 3,0,3 110001100", lineCounts{3, 3}}, {"H 6,2,2 034254239234", lineCounts{3, 3}}, {"H 3,1,1 011", lineCounts{6, 6}}, {"H 2,0,2 1000", lineCounts{6, 6}},
		// These are centred for two of four.
		{"S 2,0,2 0001", lineCounts{6, 2}}, {"S 2,1,1 01", lineCounts{6, 2}}, {"S 4,0,4 1861168181166118", lineCounts{2, 6}},
		// These have one colour, or are not lean.
		{"S 1,0,1 0", lineCounts{6, 2}}, {"S 8,3,8 " + strings.Repeat("9", 64), lineCounts{6, 2}}, {"H 1,0,1 3", lineCounts{6, 6}}, {"H 64,63,1 " + strings.Repeat("1", 64), lineCounts{6, 6}},
		{"S 4,0,1 0101", lineCounts{4, 0}}, {"S 2,0,2 0101", lineCounts{4, 0}}, {"S 6,0,1 012012", lineCounts{2, 0}}, {"S 4,0,2 01100110", lineCounts{6, 2}}, {"S 2,0,4 01011010", lineCounts{6, 2}}, {"H 4,0,2 10001000", lineCounts{6, 6}}, {"H 3,0,3 012201120", lineCounts{3, 3}},
	} {
		p := patternOf(c.p)
		checkLineCounts(t, p, c.want)
		checkHanded(t, p, c.want == lineCounts{})
	}
}

// TestLinesOfEachMirror has, for the reflection matrices of a group in their order, the numbers of the lines
// along their axes.
func TestLinesOfEachMirror(t *testing.T) {
	table := newMirrorTable()
	for _, c := range []struct {
		p    string
		want []lineCounts
	}{
		{"S 5,2,1 01111", nil}, {"S 3,0,1 012", []lineCounts{{2, 0}}}, {"S 3,0,4 978585973232", []lineCounts{{0, 2}}}, {"S 3,1,1 012", []lineCounts{{1, 1}}}, {"S 4,0,1 0121", []lineCounts{{2, 0}, {2, 0}}}, {"S 4,1,1 0011", []lineCounts{{2, 0}, {0, 2}}},
		{"H 1,0,4 0011", []lineCounts{{2, 0}, {0, 2}}}, {"H 12,4,1 101202202101", []lineCounts{{0, 2}, {0, 2}}}, {"S 3,1,1 001", []lineCounts{{1, 1}, {1, 1}}},
		// The matrices along the axes come first and last, those of the diagonals between them.
		{"S 1,0,1 0", []lineCounts{{2, 0}, {1, 1}, {1, 1}, {2, 0}}}, {"S 2,0,2 0001", []lineCounts{{2, 0}, {1, 1}, {1, 1}, {2, 0}}}, {"S 2,1,1 01", []lineCounts{{1, 1}, {2, 0}, {2, 0}, {1, 1}}},
		{"S 4,0,4 1861168181166118", []lineCounts{{0, 2}, {1, 1}, {1, 1}, {0, 2}}}, {"H 3,1,1 012", []lineCounts{{1, 1}, {1, 1}, {1, 1}}}, {"H 3,1,1 011", []lineCounts{{1, 1}, {1, 1}, {1, 1}, {1, 1}, {1, 1}, {1, 1}}},
	} {
		lean := leanBySearch(patternOf(c.p))
		group := groupByTrying(lean, lean.Lattice)
		var found []lineCounts
		var sum lineCounts
		for _, mat := range matsOf(group) {
			if isMirrorMat(mat) {
				mirrors, glides := table.linesWith(lean.Lattice, group, mat)
				found = append(found, lineCounts{int64(len(mirrors)), int64(len(glides))})
			}
		}
		for _, counts := range c.want {
			sum.mirrors += counts.mirrors
			sum.glides += counts.glides
		}
		if !slices.Equal(found, c.want) {
			t.Errorf("the lines of %q are %v, want %v", c.p, found, c.want)
		}
		checkLineCounts(t, lean, sum)
	}
}

func TestUnits(t *testing.T) {
	for _, c := range []struct {
		p              string
		cells, motions int64
	}{
		// No common divisor:
		{"S 1,0,1 7", 1, 8}, {"H 1,0,1 7", 1, 12}, {"S 5,2,1 02210", 5, 1}, {"S 3,0,1 012", 3, 2}, {"S 5,2,1 00011", 5, 2}, {"S 5,2,1 01111", 5, 4}, {"H 7,2,1 0112122", 7, 3}, {"H 7,2,1 0111111", 7, 6}, {"H 7,2,1 0123456", 7, 1},
		{"S 64,2,1 " + strings.Repeat("0", 63) + "1", 32, 1},
		// Some:
		{"S 4,0,1 0121", 1, 1}, {"S 3,0,2 012210", 3, 2}, {"S 2,0,2 0001", 1, 2}, {"S 2,0,2 0123", 1, 1}, {"S 3,0,4 978585973232", 6, 1}, {"H 12,4,1 101202202101", 3, 1}, {"S 4,0,4 1861168181166118", 2, 1},
		{"H 3,1,1 012", 1, 2}, {"H 3,1,1 011", 1, 4}, {"H 2,0,2 1000", 1, 3}, {"H 3,0,3 110001100", 3, 2}, {"H 8,0,8 1" + strings.Repeat("0", 63), 16, 3}, {"S 8,0,8 1" + strings.Repeat("0", 63), 8, 1}, {"S 6,0,6 1" + strings.Repeat("0", 35), 9, 2}, {"H 6,0,6 1" + strings.Repeat("0", 35), 3, 1},
		// These have one colour, or are not lean.
		{"S 8,0,8 " + strings.Repeat("3", 64), 1, 8}, {"H 5,2,2 " + strings.Repeat("3", 10), 1, 12}, {"S 4,0,1 0101", 1, 2}, {"S 4,0,2 01100110", 1, 4}, {"S 6,0,1 012012", 3, 2}, {"H 4,0,2 10001000", 1, 3}, {"H 6,3,1 012012", 3, 2},
	} {
		checkUnit(t, patternOf(c.p), c.cells, c.motions)
	}
}

func TestBestSites(t *testing.T) {
	for _, c := range []struct {
		p    string
		want impl.Vec
		most int64
	}{
		{"S 1,0,1 7", impl.Vec{}, 8}, {"H 1,0,1 7", impl.Vec{}, 12}, {"S 5,2,1 01111", impl.Vec{}, 4}, {"S 5,2,1 11101", impl.Vec{X: 3}, 4}, {"H 3,1,1 202", impl.Vec{X: 1}, 12}, {"H 3,1,1 220", impl.Vec{X: 2}, 12}, {"H 7,2,1 0112122", impl.Vec{}, 3}, {"S 5,2,1 00011", impl.Vec{X: 1}, 2}, {"H 2,0,2 0001", impl.Vec{X: 1, Y: 1}, 12}, {"H 2,0,2 0100", impl.Vec{Y: 1}, 12},
		// The first one of several is told.
		{"S 4,0,1 0121", impl.Vec{}, 4}, {"S 4,0,1 1210", impl.Vec{X: 1}, 4}, {"S 1,0,4 1210", impl.Vec{Y: 1}, 4}, {"S 2,0,2 0010", impl.Vec{Y: 1}, 8}, {"S 2,0,2 0100", impl.Vec{Y: 1}, 8}, {"S 2,0,2 0001", impl.Vec{}, 8}, {"S 2,1,1 01", impl.Vec{}, 8}, {"S 3,0,2 012210", impl.Vec{}, 2}, {"S 3,0,1 012", impl.Vec{}, 2}, {"H 3,1,1 012", impl.Vec{}, 6}, {"S 4,0,1 0011", impl.Vec{}, 2}, {"S 4,0,1 0102", impl.Vec{X: 1}, 4},
		// Only the unit fixes any cell.
		{"S 5,2,1 02210", impl.Vec{}, 1}, {"H 7,2,1 0123456", impl.Vec{}, 1}, {"S 3,0,4 978585973232", impl.Vec{}, 1}, {"H 3,1,4 012120011110", impl.Vec{}, 1},
		// These are not lean.
		{"S 4,0,1 0101", impl.Vec{}, 4}, {"S 8,0,1 12101210", impl.Vec{X: 1}, 4}, {"S 4,0,2 01100110", impl.Vec{}, 8}, {"S 2,0,8 0001000100010001", impl.Vec{Y: 1}, 4}, {"H 6,0,1 001001", impl.Vec{X: 2}, 4},
	} {
		checkBestSite(t, patternOf(c.p), c.want, c.most)
	}
}

func TestTurningSites(t *testing.T) {
	for _, c := range []struct {
		p string
		// The cells for 2, 3, 4 and 6.
		want [4]string
	}{
		{"S 1,0,1 7", [4]string{"0,0", "", "0,0", ""}}, {"H 1,0,1 7", [4]string{"0,0", "0,0", "", "0,0"}}, {"S 5,2,1 02210", [4]string{}}, {"S 3,0,1 012", [4]string{}}, {"S 3,0,4 978585973232", [4]string{}},
		{"S 4,0,1 0121", [4]string{"0,0 2,0"}}, {"S 4,0,1 1210", [4]string{"1,0 3,0"}}, {"S 1,0,4 1210", [4]string{"0,1 0,3"}}, {"S 5,2,1 00011", [4]string{"1,0"}},
		// There are turns, but no cell is a centre.
		{"S 4,0,1 0110", [4]string{}}, {"S 1,0,4 0011", [4]string{}}, {"S 4,0,4 0021001212332133", [4]string{}}, {"H 3,0,3 001022121", [4]string{}},
		{"S 2,0,2 0001", [4]string{"0,0 0,1 1,0 1,1", "", "0,0 1,1"}}, {"S 2,0,2 0010", [4]string{"0,0 0,1 1,0 1,1", "", "0,1 1,0"}}, {"S 2,1,1 01", [4]string{"0,0 1,0", "", "0,0 1,0"}}, {"S 5,2,1 01111", [4]string{"0,0", "", "0,0"}}, {"S 5,2,1 11101", [4]string{"3,0", "", "3,0"}}, {"S 2,0,2 0123", [4]string{"0,0 0,1 1,0 1,1"}},
		{"H 3,1,1 012", [4]string{"", "0,0 1,0 2,0"}}, {"H 3,1,1 022", [4]string{"0,0", "0,0 1,0 2,0", "", "0,0"}}, {"H 3,1,1 202", [4]string{"1,0", "0,0 1,0 2,0", "", "1,0"}}, {"H 2,0,2 1000", [4]string{"0,0 0,1 1,0 1,1", "0,0", "", "0,0"}}, {"H 7,2,1 0112122", [4]string{"", "0,0"}}, {"H 7,2,1 0111111", [4]string{"0,0", "0,0", "", "0,0"}},
		// The sixth turns are about another cell than 0,0 here.
		{"H 2,0,2 0001", [4]string{"0,0 0,1 1,0 1,1", "1,1", "", "1,1"}},
		// These are not lean.
		{"S 4,0,1 0101", [4]string{"0,0 1,0"}}, {"S 4,0,2 01100110", [4]string{"0,0 1,0", "", "0,0 1,0"}}, {"S 8,3,8 " + strings.Repeat("9", 64), [4]string{"0,0", "", "0,0"}}, {"H 64,63,1 " + strings.Repeat("1", 64), [4]string{"0,0", "0,0", "", "0,0"}}, {"H 3,0,3 012201120", [4]string{"", "0,0 1,0 2,0"}}, {"H 4,0,2 10001000", [4]string{"0,0 0,1 1,0 1,1", "0,0", "", "0,0"}},
	} {
		for i, n := range turnOrders() {
			if list, code := impl.TurningSites(patternOf(c.p), n); vecsText(list) != c.want[i] || code != impl.ErrNone {
				t.Errorf("TurningSites(%q, %d) = %v, %d, want %q", c.p, n, list, code, c.want[i])
			}
		}
	}
}

func TestOtherHands(t *testing.T) {
	for _, c := range []struct{ p, want string }{
		{"S 1,0,1 7", "S 1,0,1 7"}, {"H 1,0,1 7", "H 1,0,1 7"}, {"S 4,0,1 0121", "S 1,0,4 0121"}, {"S 1,0,4 0012", "S 4,0,1 0012"}, {"S 2,0,2 0123", "S 2,0,2 0213"}, {"S 2,0,3 012345", "S 3,0,2 031425"}, {"H 3,0,1 012", "H 1,0,3 012"}, {"H 3,1,1 012", "H 3,1,1 021"}, {"S 2,1,1 01", "S 2,1,1 01"},
		// These are handed.
		{"S 5,2,1 01234", "S 5,3,1 03142"}, {"S 5,2,1 01111", "S 5,3,1 01111"}, {"S 5,2,1 11101", "S 5,3,1 10111"}, {"H 7,2,1 0112122", "H 7,4,1 0221211"}, {"H 7,2,1 0111111", "H 7,4,1 0111111"}, {"S 3,0,3 012345678", "S 3,0,3 036147258"},
		// These have one colour, or are not lean.
		{"S 8,3,8 " + strings.Repeat("9", 64), "S 1,0,1 9"}, {"H 64,63,1 " + strings.Repeat("1", 64), "H 1,0,1 1"}, {"S 4,0,1 0101", "S 1,0,2 01"}, {"S 2,0,2 0101", "S 2,0,1 01"}, {"S 4,0,2 01100110", "S 2,1,1 01"}, {"S 10,2,1 0123401234", "S 5,3,1 03142"}, {"H 6,0,1 001001", "H 1,0,3 001"},
	} {
		p := patternOf(c.p)
		checkOtherHand(t, p, patternOf(c.want))
		lean, _ := impl.LeanPattern(p)
		checkOtherHand(t, patternOf(c.want), lean)
	}
}

// checkLines compares with the search for lines, with the numbers that belong to the name, and by the rule of
// the document with chapters 6, 10 and 11, and returns the numbers.
func checkLines(t *testing.T, table mirrorTable, p impl.Pattern, lean impl.Pattern, group []impl.Motion) lineCounts {
	t.Helper()
	want := table.countBySearch(lean.Lattice, group)
	checkLineCounts(t, p, want)
	isHanded := !slices.ContainsFunc(group, func(m impl.Motion) bool { return isMirrorMat(m.M) })
	checkHanded(t, p, isHanded)
	if isHanded != (want == lineCounts{}) {
		t.Errorf("%s has %v lines, handed: %v", plainPatternText(p), want, isHanded)
	}
	name, _ := impl.NameOfPattern(p)
	if counts, isName := linesOfNames()[name]; counts != want || !isName {
		t.Errorf("%s has %v lines, but %q has %v", plainPatternText(p), want, name, counts)
	}
	full, _ := impl.FullLattice(p)
	own, _ := impl.GroupOfPattern(p)
	if counts := countByRule(t, p.Frame, full, own); counts != want {
		t.Errorf("%s has %v lines, want %v by its facts", plainPatternText(p), want, counts)
	}
	return want
}

func countByRule(t *testing.T, frame int64, l impl.Lattice, group []impl.Motion) lineCounts {
	t.Helper()
	var counts lineCounts
	mats, _ := impl.PointPart(frame, l, group)
	for _, mat := range mats {
		if kind, _ := impl.MatKind(mat); kind != -2 {
			continue
		}
		mayReflect := slices.ContainsFunc(group, func(m impl.Motion) bool {
			ok, _ := impl.MayReflect(frame, l, m)
			return ok && m.M == mat
		})
		isCentred, code := impl.IsCentred(frame, l, mat)
		if code != impl.ErrNone {
			t.Errorf("IsCentred(%d, %v, %v): code %d", frame, l, mat, code)
		}
		switch {
		case !mayReflect:
			counts.glides += 2
		case isCentred:
			counts.mirrors++
			counts.glides++
		default:
			counts.mirrors += 2
		}
	}
	return counts
}

// checkPromise checks promise 14 with the program's own results.
func checkPromise(t *testing.T, p impl.Pattern) {
	t.Helper()
	mirrors, one := impl.CountMirrorLines(p)
	glides, two := impl.CountGlideLines(p)
	isHanded, three := impl.IsHanded(p)
	if isHanded != (mirrors+glides == 0) || min(mirrors, glides) < 0 || one != impl.ErrNone || two != impl.ErrNone || three != impl.ErrNone {
		t.Errorf("%s has %d mirror lines, %d, and %d glide lines, %d, handed: %v, %d", plainPatternText(p), mirrors, one, glides, two, isHanded, three)
	}
}

// checkUnitAndBest compares with the definitions, and with the motions that chapter 10 has for each cell.
func checkUnitAndBest(t *testing.T, p impl.Pattern, l impl.Lattice, group []impl.Motion) {
	t.Helper()
	index, count := l.A*l.C, int64(len(group))
	checkUnit(t, p, index/divisor(index, count), count/divisor(index, count))
	counts := fixedCounts(l, group)
	most := slices.Max(counts)
	best := plainCells(l)[slices.Index(counts, most)]
	checkBestSite(t, p, best, most)
	if list, code := impl.SiteSymmetries(p, best); int64(len(list)) != most || code != impl.ErrNone {
		t.Errorf("BestSite(%s) = %v, %d, but SiteSymmetries = %s, %d", plainPatternText(p), best, most, plainListText(list), code)
	}
}

// checkTurning compares with the definition, and each cell with the motions that chapter 10 has for it.
func checkTurning(t *testing.T, p impl.Pattern, l impl.Lattice, group []impl.Motion) {
	t.Helper()
	for _, n := range turnOrders() {
		checkTurningSites(t, p, n, turningBySearch(l, group, n))
	}
	v, most, _ := impl.BestSite(p)
	cells := plainCells(l)
	for i := 0; i < len(cells); i += len(cells)/9 + 1 {
		list, _ := impl.SiteSymmetries(p, cells[i])
		if count := int64(len(list)); count > most || count == most && compareVecs(cells[i], v) < 0 {
			t.Errorf("BestSite(%s) = %v, %d, but %v has %d", plainPatternText(p), v, most, cells[i], count)
		}
		for _, n := range turnOrders() {
			sites, _ := impl.TurningSites(p, n)
			isCentre := slices.ContainsFunc(list, func(m impl.Motion) bool { kind, _ := impl.MatKind(m.M); return kind == n })
			if slices.Contains(sites, cells[i]) != isCentre {
				t.Errorf("TurningSites(%s, %d) = %v, but SiteSymmetries at %v is %s", plainPatternText(p), n, sites, cells[i], plainListText(list))
			}
		}
	}
}

// checkHands compares with the definition and with chapter 9, and asks for the other hand of the other hand.
func checkHands(t *testing.T, p impl.Pattern, lean impl.Pattern) {
	t.Helper()
	want := mirrored(lean)
	checkOtherHand(t, p, want)
	own, code := impl.LeanPattern(p)
	if moved, other := impl.MovePattern(own, motionWith(0, 1, 1, 0, 0, 0)); !arePatternsEqual(moved, want) || code != impl.ErrNone || other != impl.ErrNone {
		t.Errorf("MovePattern(LeanPattern(%s)) = %v, %d, %d, want %v", plainPatternText(p), moved, code, other, want)
	}
	q, _ := impl.OtherHand(p)
	checkOtherHand(t, q, lean)
	if again, code := impl.LeanPattern(q); !arePatternsEqual(again, q) || code != impl.ErrNone {
		t.Errorf("OtherHand(%s) = %v is not lean", plainPatternText(p), q)
	}
	mirrors, _ := impl.CountMirrorLines(p)
	glides, _ := impl.CountGlideLines(p)
	checkLineCounts(t, q, lineCounts{mirrors, glides})
	checkPromise(t, q)
}

// manyPatterns has lean patterns and others of both frames and of all seventeen names.
func manyPatterns() []impl.Pattern {
	list := slices.Concat(smallPatterns(), greatPatterns(), repeatedPatterns(), paintedPatterns(), spreadPatterns(), groupCasePatterns(), standardPatterns(), betweenCells())
	for i, p := range everyLattice() {
		if i%4 == 0 {
			list = append(list, p)
		}
	}
	return list
}

// featureKinds counts patterns by what their features have, so that no kind is missing.
type featureKinds map[string]int

func (kinds featureKinds) add(p impl.Pattern, lean impl.Pattern, group []impl.Motion, lines lineCounts) {
	switch {
	case lean.Lattice == impl.Lattice{A: 1, C: 1}:
		kinds["one colour"]++
	case lean.Lattice != p.Lattice:
		kinds["not lean"]++
	default:
		kinds["lean"]++
	}
	switch {
	case lines == lineCounts{}:
		kinds["no lines"]++
	case lines.glides == 0:
		kinds["mirrors alone"]++
	case lines.mirrors == 0:
		kinds["glides alone"]++
	case lines.mirrors != lines.glides:
		kinds["more of one kind"]++
	default:
		kinds["as many of both"]++
	}
	if divisor(lean.Lattice.A*lean.Lattice.C, int64(len(group))) > 1 {
		kinds["common divisor"]++
	} else {
		kinds["no common divisor"]++
	}
	kinds.addSites(lean.Lattice, group)
}

func (kinds featureKinds) addSites(l impl.Lattice, group []impl.Motion) {
	counts := fixedCounts(l, group)
	most := slices.Max(counts)
	several := len(slices.DeleteFunc(slices.Clone(counts), func(n int64) bool { return n != most })) > 1
	switch {
	case most == 1 && len(group) > 1:
		kinds["the unit alone fixes cells"]++
	case most == 1:
		kinds["the unit alone"]++
	case several && counts[0] != most:
		kinds["several best sites behind others"]++
	case several:
		kinds["several best sites"]++
	case counts[0] != most:
		kinds["one best site behind others"]++
	}
	for _, n := range turnOrders() {
		kind := "some cells for "
		switch found := len(turningBySearch(l, group, n)); {
		case found == 0 && slices.ContainsFunc(group, func(m impl.Motion) bool { return isTurnBy(m.M, n) }):
			kind = "turns without cells for "
		case found == 0:
			kind = "no cells for "
		case found == len(counts):
			kind = "all cells for "
		}
		kinds[kind+string(rune('0'+n))]++
	}
}

// featureKindsWanted leaves out sixth turns without cells, as their centres always are vectors.
func featureKindsWanted() []string {
	return []string{
		"one colour", "not lean", "lean", "no lines", "mirrors alone", "glides alone", "more of one kind", "as many of both", "common divisor", "no common divisor",
		"the unit alone fixes cells", "the unit alone", "several best sites behind others", "several best sites", "one best site behind others",
		"some cells for 2", "some cells for 3", "some cells for 4", "some cells for 6", "all cells for 2", "all cells for 3", "all cells for 4", "all cells for 6",
		"no cells for 2", "no cells for 3", "no cells for 4", "no cells for 6", "turns without cells for 2", "turns without cells for 3", "turns without cells for 4",
	}
}

// TestFeaturesOfManyPatterns also checks promise 14.
func TestFeaturesOfManyPatterns(t *testing.T) {
	table, kinds := newMirrorTable(), featureKinds{}
	for i, p := range manyPatterns() {
		lean := leanBySearch(p)
		group := groupByTrying(lean, lean.Lattice)
		lines := checkLines(t, table, p, lean, group)
		checkPromise(t, p)
		checkUnitAndBest(t, p, lean.Lattice, group)
		if i%3 == 0 || len(group) > 4 {
			checkTurning(t, p, lean.Lattice, group)
		}
		checkHands(t, p, lean)
		kinds.add(p, lean, group, lines)
	}
	for _, kind := range featureKindsWanted() {
		if kinds[kind] < 20 {
			t.Errorf("%d patterns of the kind %q", kinds[kind], kind)
		}
	}
}

// TestHandedPatternsAreNotTurnedIntoTheOtherHand checks what the word says: a pattern is handed exactly if no
// rotation followed by a shift takes it to its other hand.
func TestHandedPatternsAreNotTurnedIntoTheOtherHand(t *testing.T) {
	handed, other := 0, 0
	for i, p := range manyPatterns() {
		if i%5 != 0 {
			continue
		}
		lean := leanBySearch(p)
		q, _ := impl.OtherHand(p)
		isTurned := isTurnedInto(lean, q)
		checkHanded(t, p, !isTurned)
		if isTurned {
			other++
		} else {
			handed++
		}
	}
	if min(handed, other) < 200 {
		t.Errorf("%d patterns are handed, %d are not", handed, other)
	}
}

// TestFeaturesOfStandardPatterns checks that each name is there, for patterns with no more symmetries than the
// group that they are painted by.
func TestFeaturesOfStandardPatterns(t *testing.T) {
	found := map[string]int{}
	next := scatter(1400)
	for _, c := range standardCases() {
		frame, l, group, _ := impl.StandardGroup(c.name, c.n)
		count, _ := impl.CountOrbits(frame, l, group)
		for range 6 {
			p, code := impl.PaintOrbits(frame, l, group, scatteredColours(int(count), next))
			if name, _ := impl.NameOfPattern(p); name != c.name || code != impl.ErrNone {
				continue
			}
			found[c.name]++
			lines := linesOfNames()[c.name]
			checkLineCounts(t, p, lines)
			checkHanded(t, p, lines == lineCounts{})
			full, _ := impl.FullLattice(p)
			index := full.A * full.C
			d := divisor(index, rowOf(c.name).pointOrder)
			checkUnit(t, p, index/d, rowOf(c.name).pointOrder/d)
		}
	}
	for _, row := range groupRows() {
		if found[row.name] < 5 {
			t.Errorf("%d patterns with the name %q", found[row.name], row.name)
		}
	}
}

// TestFeaturesOfSamePatterns checks that the features depend on the colours alone, not on Lattice.
func TestFeaturesOfSamePatterns(t *testing.T) {
	for _, p := range slices.Concat(repeatedPatterns(), spreadPatterns(), somePatterns()) {
		lean := leanBySearch(p)
		for _, own := range [][2]impl.Pattern{{p, lean}, {lean, p}} {
			q, want := own[0], own[1]
			mirrors, _ := impl.CountMirrorLines(want)
			glides, _ := impl.CountGlideLines(want)
			checkLineCounts(t, q, lineCounts{mirrors, glides})
			isHanded, _ := impl.IsHanded(want)
			checkHanded(t, q, isHanded)
			cells, motions, _ := impl.UnitOf(want)
			checkUnit(t, q, cells, motions)
			v, most, _ := impl.BestSite(want)
			checkBestSite(t, q, v, most)
			for _, n := range turnOrders() {
				sites, _ := impl.TurningSites(want, n)
				checkTurningSites(t, q, n, sites)
			}
			hand, _ := impl.OtherHand(want)
			checkOtherHand(t, q, hand)
		}
	}
}

// TestFeaturesOfMovedPatterns checks that lines, hands and units do not depend on where a pattern is, and how
// it is turned.
func TestFeaturesOfMovedPatterns(t *testing.T) {
	for i, p := range slices.Concat(somePatterns(), standardPatterns()) {
		mirrors, _ := impl.CountMirrorLines(p)
		glides, _ := impl.CountGlideLines(p)
		isHanded, _ := impl.IsHanded(p)
		cells, motions, _ := impl.UnitOf(p)
		_, most, _ := impl.BestSite(p)
		mats := pointMatsOf(p.Frame)
		for j, v := range []impl.Vec{{}, {X: 1, Y: -2}, {X: -1000, Y: 999}} {
			moved, code := impl.MovePattern(p, impl.Motion{M: mats[(i+3*j)%len(mats)], T: v})
			if code != impl.ErrNone {
				t.Fatalf("MovePattern(%v): code %d", p, code)
			}
			checkLineCounts(t, moved, lineCounts{mirrors, glides})
			checkHanded(t, moved, isHanded)
			checkUnit(t, moved, cells, motions)
			if _, n, _ := impl.BestSite(moved); n != most {
				t.Errorf("BestSite(%s) has %d motions, and %d of %s", plainPatternText(moved), n, most, plainPatternText(p))
			}
		}
	}
}

func TestTurningSitesOfOtherOrders(t *testing.T) {
	for _, p := range slices.Concat(somePatterns(), standardPatterns()) {
		for _, n := range wrongOrders() {
			checkNoTurningSites(t, p, n, impl.ErrRange)
		}
	}
}

// TestFeaturesOfWrongPatterns has orders that are wrong, too, as ErrInvalid comes first.
func TestFeaturesOfWrongPatterns(t *testing.T) {
	for _, w := range wrongPatterns() {
		if n, code := impl.CountMirrorLines(w); n != 0 || code != impl.ErrInvalid {
			t.Errorf("CountMirrorLines(%v) = %d, %d", w, n, code)
		}
		if n, code := impl.CountGlideLines(w); n != 0 || code != impl.ErrInvalid {
			t.Errorf("CountGlideLines(%v) = %d, %d", w, n, code)
		}
		if isHanded, code := impl.IsHanded(w); isHanded || code != impl.ErrInvalid {
			t.Errorf("IsHanded(%v) = %v, %d", w, isHanded, code)
		}
		if a, b, code := impl.UnitOf(w); a != 0 || b != 0 || code != impl.ErrInvalid {
			t.Errorf("UnitOf(%v) = %d, %d, %d", w, a, b, code)
		}
		if v, n, code := impl.BestSite(w); v != (impl.Vec{}) || n != 0 || code != impl.ErrInvalid {
			t.Errorf("BestSite(%v) = %v, %d, %d", w, v, n, code)
		}
		q, code := impl.OtherHand(w)
		checkNoPattern(t, "OtherHand", q, code, impl.ErrInvalid)
		for _, n := range slices.Concat(turnOrders(), wrongOrders()) {
			checkNoTurningSites(t, w, n, impl.ErrInvalid)
		}
	}
}

// TestFeaturesOwnTheirMemory overwrites results one by one, and checks arguments and later results.
func TestFeaturesOwnTheirMemory(t *testing.T) {
	for _, p := range slices.Concat(somePatterns(), standardPatterns()) {
		before := slices.Clone(p.Colours)
		for _, n := range turnOrders() {
			checkIsNew(t, "TurningSites", func() []impl.Vec { list, _ := impl.TurningSites(p, n); return list }, impl.Vec{X: -7})
		}
		checkPatternIsNew(t, "OtherHand", func() (impl.Pattern, int64) { return impl.OtherHand(p) })
		want := mirrored(leanBySearch(p))
		q, _ := impl.OtherHand(p)
		overwrite(q.Colours, 7)
		checkOtherHand(t, p, want)
		if !slices.Equal(p.Colours, before) {
			t.Fatalf("a result shares memory with the argument %v", p)
		}
		q, _ = impl.OtherHand(p)
		overwrite(p.Colours, 7)
		if !arePatternsEqual(q, want) {
			t.Errorf("OtherHand = %v changes with its argument, want %v", q, want)
		}
	}
}

func TestFeaturesChangeNoArguments(t *testing.T) {
	for _, p := range slices.Concat(somePatterns(), standardPatterns()) {
		checkColoursAreKept(t, "CountMirrorLines", p, func(q impl.Pattern) { impl.CountMirrorLines(q) })
		checkColoursAreKept(t, "CountGlideLines", p, func(q impl.Pattern) { impl.CountGlideLines(q) })
		checkColoursAreKept(t, "IsHanded", p, func(q impl.Pattern) { impl.IsHanded(q) })
		checkColoursAreKept(t, "UnitOf", p, func(q impl.Pattern) { impl.UnitOf(q) })
		checkColoursAreKept(t, "BestSite", p, func(q impl.Pattern) { impl.BestSite(q) })
		checkColoursAreKept(t, "TurningSites", p, func(q impl.Pattern) { impl.TurningSites(q, 2); impl.TurningSites(q, 5) })
		checkColoursAreKept(t, "OtherHand", p, func(q impl.Pattern) { impl.OtherHand(q) })
	}
}

// TestFeaturesKeepNoState calls for other and for wrong patterns in between.
func TestFeaturesKeepNoState(t *testing.T) {
	for range 3 {
		for _, c := range []struct {
			p, hand string
			want    lineCounts
			most    int64
		}{{"S 1,0,1 0", "S 1,0,1 0", lineCounts{6, 2}, 8}, {"S 5,2,1 01111", "S 5,3,1 01111", lineCounts{}, 4}, {"H 3,1,1 012", "H 3,1,1 021", lineCounts{3, 3}, 6}, {"S 4,0,1 0101", "S 1,0,2 01", lineCounts{4, 0}, 4}} {
			p := patternOf(c.p)
			checkLineCounts(t, p, c.want)
			checkNoTurningSites(t, p, 5, impl.ErrRange)
			checkNoTurningSites(t, impl.Pattern{}, 2, impl.ErrInvalid)
			checkBestSite(t, p, impl.Vec{}, c.most)
			checkOtherHand(t, p, patternOf(c.hand))
		}
	}
}
