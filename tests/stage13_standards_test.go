package tests

import (
	"math"
	"math/big"
	"os"
	"os/exec"
	"slices"
	"strconv"
	"strings"
	"sync"
	"testing"

	"loop.example/g00943/impl"
)

// The following functions say by the document what the program should find. They do not ask it.

// standardTexts has the motions of the standard groups with n for the shift, as the closures are by hand.
func standardTexts() map[string]string {
	return map[string]string{
		"p1":  "1,0,0,1;0,0",
		"p2":  "-1,0,0,-1;0,0 1,0,0,1;0,0",
		"pm":  "1,0,0,-1;0,0 1,0,0,1;0,0",
		"pg":  "1,0,0,-1;n,0 1,0,0,1;0,0",
		"cm":  "0,1,1,0;0,0 1,0,0,1;0,0",
		"pmm": "-1,0,0,-1;0,0 -1,0,0,1;0,0 1,0,0,-1;0,0 1,0,0,1;0,0",
		"pmg": "-1,0,0,-1;0,0 -1,0,0,1;n,0 1,0,0,-1;n,0 1,0,0,1;0,0",
		"pgg": "-1,0,0,-1;0,0 -1,0,0,1;n,n 1,0,0,-1;n,n 1,0,0,1;0,0",
		"cmm": "-1,0,0,-1;0,0 0,-1,-1,0;0,0 0,1,1,0;0,0 1,0,0,1;0,0",
		"p4":  "-1,0,0,-1;0,0 0,-1,1,0;0,0 0,1,-1,0;0,0 1,0,0,1;0,0",
		"p4m": "-1,0,0,-1;0,0 -1,0,0,1;0,0 0,-1,-1,0;0,0 0,-1,1,0;0,0 0,1,-1,0;0,0 0,1,1,0;0,0 1,0,0,-1;0,0 1,0,0,1;0,0",
		"p4g": "-1,0,0,-1;0,0 -1,0,0,1;n,n 0,-1,-1,0;n,n 0,-1,1,0;0,0 0,1,-1,0;0,0 0,1,1,0;n,n 1,0,0,-1;n,n 1,0,0,1;0,0",

		"p3":   "-1,-1,1,0;0,0 0,1,-1,-1;0,0 1,0,0,1;0,0",
		"p3m1": "-1,-1,0,1;0,0 -1,-1,1,0;0,0 0,1,-1,-1;0,0 0,1,1,0;0,0 1,0,-1,-1;0,0 1,0,0,1;0,0",
		"p31m": "-1,-1,1,0;0,0 -1,0,1,1;0,0 0,-1,-1,0;0,0 0,1,-1,-1;0,0 1,0,0,1;0,0 1,1,0,-1;0,0",
		"p6":   "-1,-1,1,0;0,0 -1,0,0,-1;0,0 0,-1,1,1;0,0 0,1,-1,-1;0,0 1,0,0,1;0,0 1,1,-1,0;0,0",
		"p6m":  "-1,-1,0,1;0,0 -1,-1,1,0;0,0 -1,0,0,-1;0,0 -1,0,1,1;0,0 0,-1,-1,0;0,0 0,-1,1,1;0,0 0,1,-1,-1;0,0 0,1,1,0;0,0 1,0,-1,-1;0,0 1,0,0,1;0,0 1,1,-1,0;0,0 1,1,0,-1;0,0",
	}
}

// standardCase is a standard group with the motions that it has to contain.
type standardCase struct {
	name   string
	n      int64
	p      plane
	makers []impl.Motion
	text   string
}

func (c standardCase) group() []impl.Motion { return closedByProducts(c.p.l, c.makers) }

// standardCases are in the order of the numbers and then of the names.
func standardCases() []standardCase {
	var cases []standardCase
	for n := int64(1); n <= 4; n++ {
		for _, row := range groupRows() {
			for frame, groups := range standardMakers(n) {
				if makers, isHere := groups[row.name]; isHere {
					text := strings.ReplaceAll(standardTexts()[row.name], "n", strconv.FormatInt(n, 10))
					cases = append(cases, standardCase{row.name, n, plane{frame, impl.Lattice{A: 2 * n, C: 2 * n}}, makers, text})
				}
			}
		}
	}
	return cases
}

// hasSmallerGroup tries all shorter lists of motions of a group that have the makers.
func hasSmallerGroup(l impl.Lattice, group []impl.Motion, makers []impl.Motion) bool {
	var free, kept []impl.Motion
	for _, m := range group {
		if m == identity || slices.Contains(makers, m) {
			kept = append(kept, m)
		} else {
			free = append(free, m)
		}
	}
	for bits := range 1<<len(free) - 1 {
		list := slices.Clone(kept)
		for i, m := range free {
			if bits>>i&1 == 1 {
				list = append(list, m)
			}
		}
		if isClosed(l, list) {
			return true
		}
	}
	return false
}

// isKeptByDefinition expects motions that map the Lattice to itself, so that its cells are enough.
func isKeptByDefinition(p impl.Pattern, group []impl.Motion) bool {
	for _, m := range group {
		for _, v := range plainCells(p.Lattice) {
			if shade(p, place(m, v)) != shade(p, v) {
				return false
			}
		}
	}
	return true
}

// paintedByOrbits looks for the orbit of each cell.
func paintedByOrbits(p plane, orbits [][]impl.Vec, colours []int64) impl.Pattern {
	q := impl.Pattern{Frame: p.frame, Lattice: p.l}
	for _, v := range plainCells(p.l) {
		i := slices.IndexFunc(orbits, func(orbit []impl.Vec) bool { return slices.Contains(orbit, v) })
		q.Colours = append(q.Colours, colours[i])
	}
	return q
}

// countByPowers returns the number and code that CountKept should return.
func countByPowers(k int64, orbits int) (int64, int64) {
	power := new(big.Int).Exp(big.NewInt(k), big.NewInt(int64(orbits)), nil)
	if power.Cmp(big.NewInt(1000000000)) > 0 {
		return 0, impl.ErrLimit
	}
	return power.Int64(), impl.ErrNone
}

func scatteredColours(count int, next func(int64) int64) []int64 {
	var colours []int64
	for range count {
		colours = append(colours, next(10))
	}
	return colours
}

// wrongColours has numbers next to the colours, and numbers that become colours when they are cut off.
func wrongColours() []int64 {
	return []int64{-1, 10, 11, -10, 48, 57, 256, -256, 1 << 32, 1<<32 + 9, math.MaxInt64, math.MinInt64}
}

// wrongCounts has numbers of colours that are not in 1..10.
func wrongCounts() []int64 {
	return []int64{0, 11, 12, -1, -2, -10, 256, 257, 1 << 32, 1<<32 + 1, math.MaxInt64, math.MinInt64, math.MinInt64 + 1}
}

// wrongNumbers has numbers that are not in 1..4.
func wrongNumbers() []int64 {
	return []int64{0, 5, -1, -4, 6, 7, 8, 64, 256 + 1, 1<<16 + 2, 1<<32 + 3, 1<<62 + 1, math.MaxInt64, math.MinInt64, math.MinInt64 + 1}
}

func checkStandard(t *testing.T, c standardCase) {
	t.Helper()
	frame, l, group, code := impl.StandardGroup(c.name, c.n)
	if frame != c.p.frame || l != c.p.l || plainListText(group) != c.text || code != impl.ErrNone {
		t.Errorf("StandardGroup(%q, %d) = %d, %v, %s, %d, want %v, %s", c.name, c.n, frame, l, plainListText(group), code, c.p, c.text)
	}
}

func checkNoStandard(t *testing.T, name string, n int64, want int64) {
	t.Helper()
	if frame, l, group, code := impl.StandardGroup(name, n); frame != 0 || l != (impl.Lattice{}) || len(group) != 0 || code != want {
		t.Errorf("StandardGroup(%.50q, %d) = %d, %v, %v, %d, want none, %d", name, n, frame, l, group, code, want)
	}
}

func checkAllStandards(t *testing.T) {
	t.Helper()
	for _, c := range standardCases() {
		checkStandard(t, c)
	}
}

// TestStandardGroups checks that the tables agree with the definition, and promise 13 for names.
func TestStandardGroups(t *testing.T) {
	cases := standardCases()
	if len(cases) != 68 {
		t.Fatalf("%d standard groups", len(cases))
	}
	for _, c := range cases {
		checkStandard(t, c)
		frame, l, group, _ := impl.StandardGroup(c.name, c.n)
		if !slices.Equal(group, c.group()) || !isGroupByDefinition(frame, l, group) || hasSmallerGroup(l, group, c.makers) {
			t.Errorf("StandardGroup(%q, %d) has %s, want the closure of %s", c.name, c.n, plainListText(group), plainListText(c.makers))
		}
		for _, m := range c.makers {
			if !slices.Contains(group, m) {
				t.Errorf("StandardGroup(%q, %d) has %s and lacks %v", c.name, c.n, plainListText(group), m)
			}
		}
		if closed, code := impl.CloseGroup(frame, l, c.makers); !slices.Equal(closed, group) || code != impl.ErrNone || !impl.IsGroup(frame, l, group) {
			t.Errorf("StandardGroup(%q, %d) has %s, but CloseGroup = %s, %d", c.name, c.n, plainListText(group), plainListText(closed), code)
		}
		checkNameOfGroup(t, plane{frame, l}, group, c.name, impl.ErrNone)
		if s, code := impl.SignatureOf(c.name); signatureByPoints(l, group) != s || code != impl.ErrNone {
			t.Errorf("the points of StandardGroup(%q, %d) have %q, want %q", c.name, c.n, signatureByPoints(l, group), s)
		}
		if order, code := impl.PointOrder(c.name); order != int64(len(group)) || code != impl.ErrNone {
			t.Errorf("StandardGroup(%q, %d) has %d motions, but PointOrder = %d, %d", c.name, c.n, len(group), order, code)
		}
	}
}

// TestStandardGroupsOfTheProgramsNames also checks that just the names have standard groups.
func TestStandardGroupsOfTheProgramsNames(t *testing.T) {
	for _, name := range impl.GroupNames() {
		for n := int64(-3); n <= 8; n++ {
			if n < 1 || n > 4 {
				checkNoStandard(t, name, n, impl.ErrRange)
				continue
			}
			frame, l, group, code := impl.StandardGroup(name, n)
			if found, other := impl.NameOfGroup(frame, l, group); found != name || code != impl.ErrNone || other != impl.ErrNone {
				t.Errorf("NameOfGroup(StandardGroup(%q, %d)) = %q, %d, %d", name, n, found, code, other)
			}
		}
		for _, n := range wrongNumbers() {
			checkNoStandard(t, name, n, impl.ErrRange)
		}
	}
	for _, s := range otherNames() {
		for _, n := range []int64{1, 2, 3, 4} {
			checkNoStandard(t, s, n, impl.ErrNotFound)
		}
	}
	// ErrNotFound comes before ErrRange.
	for _, s := range []string{"", "p", "p5", "P4", "p4 ", "p31", "632", "*442", "cmg"} {
		for _, n := range wrongNumbers() {
			checkNoStandard(t, s, n, impl.ErrNotFound)
		}
	}
}

func checkKept(t *testing.T, p impl.Pattern, group []impl.Motion, want bool) {
	t.Helper()
	if isKept, code := impl.IsKept(p, group); isKept != want || code != impl.ErrNone {
		t.Errorf("IsKept(%s, %s) = %v, %d, want %v", plainPatternText(p), plainListText(group), isKept, code, want)
	}
}

// checkOrbitColours expects nil for a pattern that the group does not keep.
func checkOrbitColours(t *testing.T, p impl.Pattern, group []impl.Motion, want []int64) {
	t.Helper()
	wantCode := int64(impl.ErrNone)
	if want == nil {
		wantCode = impl.ErrState
	}
	if colours, code := impl.OrbitColours(p, group); !slices.Equal(colours, want) || code != wantCode {
		t.Errorf("OrbitColours(%s, %s) = %v, %d, want %v, %d", plainPatternText(p), plainListText(group), colours, code, want, wantCode)
	}
}

func checkPaint(t *testing.T, p plane, group []impl.Motion, colours []int64, want impl.Pattern) {
	t.Helper()
	if q, code := impl.PaintOrbits(p.frame, p.l, group, colours); !arePatternsEqual(q, want) || code != impl.ErrNone {
		t.Errorf("PaintOrbits(%v, %s, %v) = %v, %d, want %v", p, plainListText(group), colours, q, code, want)
	}
}

func checkNoPaint(t *testing.T, p plane, group []impl.Motion, colours []int64, want int64) {
	t.Helper()
	q, code := impl.PaintOrbits(p.frame, p.l, group, colours)
	checkNoPattern(t, "PaintOrbits", q, code, want)
}

func checkSeed(t *testing.T, p plane, group []impl.Motion, v impl.Vec, want impl.Pattern) {
	t.Helper()
	if q, code := impl.SeedPattern(p.frame, p.l, group, v); !arePatternsEqual(q, want) || code != impl.ErrNone {
		t.Errorf("SeedPattern(%v, %s, %v) = %v, %d, want %v", p, plainListText(group), v, q, code, want)
	}
}

func checkNoSeed(t *testing.T, p plane, group []impl.Motion, v impl.Vec, want int64) {
	t.Helper()
	q, code := impl.SeedPattern(p.frame, p.l, group, v)
	checkNoPattern(t, "SeedPattern", q, code, want)
}

func checkCount(t *testing.T, p plane, group []impl.Motion, k int64, want int64, wantCode int64) {
	t.Helper()
	if count, code := impl.CountKept(p.frame, p.l, group, k); count != want || code != wantCode {
		t.Errorf("CountKept(%v, %s, %d) = %d, %d, want %d, %d", p, plainListText(group), k, count, code, want, wantCode)
	}
}

func TestPaintings(t *testing.T) {
	const square, hexagonal = impl.FrameSquare, impl.FrameHexagonal
	for _, c := range []struct {
		p       plane
		makers  []string
		colours []int64
		want    string
	}{
		{plane{square, impl.Lattice{A: 1, C: 1}}, nil, []int64{9}, "S 1,0,1 9"},
		{plane{hexagonal, impl.Lattice{A: 1, C: 1}}, []string{"0,-1,1,1;0,0"}, []int64{0}, "H 1,0,1 0"},
		{plane{square, impl.Lattice{A: 2, C: 2}}, []string{"0,-1,1,0;0,0"}, []int64{3, 5, 7}, "S 2,0,2 3557"},
		{plane{square, impl.Lattice{A: 2, C: 2}}, nil, []int64{9, 0, 8, 1}, "S 2,0,2 9081"},
		{plane{square, impl.Lattice{A: 2, C: 2}}, []string{"0,-1,1,0;0,0"}, []int64{4, 4, 4}, "S 2,0,2 4444"},
		{plane{square, impl.Lattice{A: 3, C: 2}}, []string{"-1,0,0,-1;1,0"}, []int64{1, 2, 3, 4}, "S 3,0,2 121234"},
		{plane{square, impl.Lattice{A: 3, C: 3}}, []string{"0,-1,1,0;0,0"}, []int64{0, 5, 9}, "S 3,0,3 055599599"},
		{plane{square, impl.Lattice{A: 4, C: 2}}, []string{"1,0,0,-1;2,0"}, []int64{2, 3, 5, 7}, "S 4,0,2 23572357"},
		{plane{square, impl.Lattice{A: 4, C: 1}}, []string{"1,0,0,1;2,0"}, []int64{6, 1}, "S 4,0,1 6161"},
		{plane{square, impl.Lattice{A: 5, B: 2, C: 1}}, []string{"0,-1,1,0;0,0"}, []int64{0, 1}, "S 5,2,1 01111"},
		{plane{square, impl.Lattice{A: 3, C: 2}}, []string{"1,0,0,1;1,1"}, []int64{8}, "S 3,0,2 888888"},
		{plane{hexagonal, impl.Lattice{A: 7, B: 2, C: 1}}, []string{"-1,-1,1,0;0,0"}, []int64{0, 1, 2}, "H 7,2,1 0112122"},
		{plane{hexagonal, impl.Lattice{A: 3, B: 1, C: 1}}, []string{"0,-1,1,1;0,0"}, []int64{7, 0}, "H 3,1,1 700"},
		{plane{hexagonal, impl.Lattice{A: 2, C: 2}}, []string{"-1,-1,1,0;0,0"}, []int64{1, 0}, "H 2,0,2 1000"},
	} {
		group, want := groupBy(c.p.l, c.makers...), patternOf(c.want)
		checkPaint(t, c.p, group, c.colours, want)
		checkKept(t, want, group, true)
		checkOrbitColours(t, want, group, c.colours)
	}
}

// TestKeptPatterns has patterns that all, some and none of the motions of groups keep, and groups that are no
// groups modulo the full lattice of a pattern.
func TestKeptPatterns(t *testing.T) {
	for _, c := range []struct {
		p      string
		makers []string
		want   []int64
	}{
		{"S 2,0,2 0110", []string{"0,-1,1,0;0,0"}, []int64{0, 1, 0}}, {"S 2,0,2 0101", []string{"0,-1,1,0;0,0"}, nil}, {"S 2,0,2 0101", []string{"-1,0,0,-1;0,0"}, []int64{0, 1, 0, 1}},
		{"S 2,0,2 0010", []string{"0,-1,1,0;1,1"}, []int64{0, 0, 1}}, {"S 2,0,2 0010", []string{"0,-1,1,0;0,0"}, nil}, {"S 2,0,2 0123", nil, []int64{0, 1, 2, 3}},
		{"S 4,0,1 0121", []string{"-1,0,0,1;0,0", "1,0,0,-1;0,0"}, []int64{0, 1, 2}}, {"S 4,0,1 0121", []string{"-1,0,0,1;1,0"}, nil}, {"S 4,0,1 0121", []string{"1,0,0,1;2,0"}, nil}, {"S 4,0,1 0123", []string{"-1,0,0,1;0,0"}, nil},
		// Only the last cell, the first one, or one in the middle, has another colour than its orbit.
		{"S 3,0,3 055599599", []string{"0,-1,1,0;0,0"}, []int64{0, 5, 9}}, {"S 3,0,3 055599598", []string{"0,-1,1,0;0,0"}, nil}, {"S 3,0,3 005599599", []string{"0,-1,1,0;0,0"}, nil}, {"S 3,0,3 955599599", []string{"0,-1,1,0;0,0"}, []int64{9, 5, 9}}, {"S 3,0,3 055599699", []string{"0,-1,1,0;0,0"}, nil},
		// These are not lean. Their shifts are symmetries, too.
		{"S 4,0,1 0101", []string{"1,0,0,1;2,0"}, []int64{0, 1}}, {"S 4,0,1 0101", []string{"1,0,0,1;1,0"}, nil}, {"S 4,0,2 01100110", []string{"1,0,0,1;2,0", "-1,0,0,-1;1,1"}, []int64{0, 1}}, {"H 6,0,1 001001", []string{"1,0,0,1;3,0"}, []int64{0, 0, 1}},
		{"S 8,0,8 " + strings.Repeat("5", 64), []string{"0,-1,1,0;3,7", "1,0,0,-1;1,0"}, []int64{5}},
		// Quarter turns map the Lattice to itself and not the full lattice; so do third turns.
		{"S 2,0,2 0011", []string{"0,-1,1,0;0,0"}, nil}, {"S 2,0,2 0011", []string{"1,0,0,-1;0,1", "-1,0,0,-1;0,0"}, []int64{0, 1}}, {"H 2,0,2 0101", []string{"-1,-1,1,0;0,0"}, nil}, {"H 3,0,3 000111222", []string{"-1,-1,1,0;0,0"}, nil},
		{"H 3,1,1 022", []string{"0,-1,1,1;0,0", "0,1,1,0;0,0"}, []int64{0, 2}}, {"H 3,1,1 012", []string{"-1,-1,1,0;0,0"}, []int64{0, 1, 2}}, {"H 3,1,1 012", []string{"0,-1,1,1;0,0"}, nil}, {"H 7,2,1 0112122", []string{"-1,-1,1,0;0,0"}, []int64{0, 1, 2}}, {"H 7,2,1 0112121", []string{"-1,-1,1,0;0,0"}, nil},
	} {
		p := patternOf(c.p)
		group := groupBy(p.Lattice, c.makers...)
		checkKept(t, p, group, c.want != nil)
		checkOrbitColours(t, p, group, c.want)
		if isKeptByDefinition(p, group) != (c.want != nil) {
			t.Errorf("isKeptByDefinition(%q, %q) = %v", c.p, c.makers, c.want == nil)
		}
	}
}

// checkKeptPattern paints a pattern with the program, and reads its colours again: promise 13.
func checkKeptPattern(t *testing.T, p plane, group []impl.Motion, orbits [][]impl.Vec, colours []int64) impl.Pattern {
	t.Helper()
	want := paintedByOrbits(p, orbits, colours)
	checkPaint(t, p, group, colours, want)
	checkKept(t, want, group, true)
	checkOrbitColours(t, want, group, colours)
	q, _ := impl.PaintOrbits(p.frame, p.l, group, colours)
	read, one := impl.OrbitColours(q, group)
	again, two := impl.PaintOrbits(p.frame, p.l, group, read)
	if !slices.Equal(read, colours) || !arePatternsEqual(again, q) || one != impl.ErrNone || two != impl.ErrNone || !impl.IsPattern(q) {
		t.Errorf("PaintOrbits(%v, %s, %v) = %v, then %v, %d, %v, %d", p, plainListText(group), colours, q, read, one, again, two)
	}
	if !isKeptByDefinition(q, group) {
		t.Errorf("PaintOrbits(%v, %s, %v) = %v is not kept", p, plainListText(group), colours, q)
	}
	return want
}

// areAllSymmetries asks chapter 10. A motion that does not map the full lattice to itself is no symmetry.
func areAllSymmetries(t *testing.T, p impl.Pattern, group []impl.Motion) bool {
	t.Helper()
	full, _ := impl.FullLattice(p)
	for _, m := range group {
		isSymmetry, code := impl.IsSymmetry(p, m)
		if code != impl.ErrNone && (code != impl.ErrRange || impl.IsSuitable(p.Frame, full, m)) {
			t.Errorf("IsSymmetry(%v, %v) = %v, %d", p, m, isSymmetry, code)
		}
		if !isSymmetry {
			return false
		}
	}
	return true
}

// checkChanged changes the colour of one cell: the group keeps the pattern exactly if no motion moves it.
func checkChanged(t *testing.T, p impl.Pattern, group []impl.Motion, orbits [][]impl.Vec, cell int) {
	t.Helper()
	v := plainCells(p.Lattice)[cell]
	i := slices.IndexFunc(orbits, func(orbit []impl.Vec) bool { return slices.Contains(orbit, v) })
	for _, step := range []int64{1, 9, 5} {
		q := impl.Pattern{Frame: p.Frame, Lattice: p.Lattice, Colours: slices.Clone(p.Colours)}
		q.Colours[cell] = (q.Colours[cell] + step) % 10
		isAlone := len(orbits[i]) == 1
		checkKept(t, q, group, isAlone)
		if !isAlone {
			checkOrbitColours(t, q, group, nil)
		}
		if areAllSymmetries(t, q, group) != isAlone {
			t.Errorf("%s and %s: changing %v", plainPatternText(q), plainListText(group), v)
		}
	}
}

// checkPainting compares all results for a group with the definitions and with the program's own orbits, those
// for cells only for each step-th one.
func checkPainting(t *testing.T, p plane, group []impl.Motion, next func(int64) int64, step int) {
	t.Helper()
	orbits := orbitsFrom(p.l, cellWays(p.l, group))
	if own, code := impl.OrbitsOf(p.frame, p.l, group); orbitsText(own) != orbitsText(orbits) || code != impl.ErrNone {
		t.Fatalf("OrbitsOf(%v, %v) = %v, %d", p, group, own, code)
	}
	last := make([]int64, len(orbits))
	last[len(last)-1] = 9
	checkKeptPattern(t, p, group, orbits, last)
	painted := checkKeptPattern(t, p, group, orbits, scatteredColours(len(orbits), next))
	if !areAllSymmetries(t, painted, group) {
		t.Errorf("%s has not the symmetries %s", plainPatternText(painted), plainListText(group))
	}
	cells := plainCells(p.l)
	for i := 0; i < len(cells); i += step {
		checkChanged(t, painted, group, orbits, i)
		v := cells[i]
		seeds := make([]int64, len(orbits))
		seeds[slices.IndexFunc(orbits, func(orbit []impl.Vec) bool { return slices.Contains(orbit, v) })] = 1
		checkSeed(t, p, group, v, paintedByOrbits(p, orbits, seeds))
		if own, _ := impl.OrbitOf(p.frame, p.l, group, v); step == 1 {
			seed, _ := impl.SeedPattern(p.frame, p.l, group, v)
			checkSeedCells(t, seed, own)
		}
	}
	for k := int64(1); k <= 10; k++ {
		want, wantCode := countByPowers(k, len(orbits))
		checkCount(t, p, group, k, want, wantCode)
	}
}

// checkSeedCells asks ColourAt for each cell.
func checkSeedCells(t *testing.T, seed impl.Pattern, orbit []impl.Vec) {
	t.Helper()
	for _, v := range plainCells(seed.Lattice) {
		want := int64(0)
		if slices.Contains(orbit, v) {
			want = 1
		}
		if colour, code := impl.ColourAt(seed, v); colour != want || code != impl.ErrNone {
			t.Errorf("SeedPattern = %v has %d, %d at %v, want %d", seed, colour, code, v, want)
		}
	}
}

// TestPaintingsOfStandardGroups takes the groups from the program.
func TestPaintingsOfStandardGroups(t *testing.T) {
	next := scatter(13)
	for _, c := range standardCases() {
		frame, l, group, _ := impl.StandardGroup(c.name, c.n)
		checkPainting(t, plane{frame, l}, group, next, 1)
	}
}

// TestPaintingsOfManyGroups also checks that groups with shifts and seeds of all and of single cells are there.
func TestPaintingsOfManyGroups(t *testing.T) {
	next := scatter(1300)
	withShifts, whole, single := 0, 0, 0
	for _, p := range fewPlanes() {
		groups := groupsOf(p)
		// Of many groups, some are enough.
		for i := 0; i < len(groups); i += len(groups)/60 + 1 {
			checkPainting(t, p, groups[i], next, 1)
			if shiftCount(groups[i]) > 1 {
				withShifts++
			}
			seed, _ := impl.SeedPattern(p.frame, p.l, groups[i], impl.Vec{})
			switch counts, _ := impl.CountColours(seed); {
			case counts[0] == 0:
				whole++
			case counts[1] == 1:
				single++
			}
		}
	}
	if min(withShifts, whole, single) < 50 {
		t.Errorf("%d groups with shifts, %d seeds of all cells, %d of one", withShifts, whole, single)
	}
}

func TestPaintingsOfGreatLattices(t *testing.T) {
	next := scatter(1301)
	for _, p := range greatPlanes() {
		for i, group := range someGroups(p) {
			if len(group) <= 64 || i < 5 {
				checkPainting(t, p, group, next, 13)
			}
		}
	}
}

func TestPaintingsOfAllLattices(t *testing.T) {
	next := scatter(1302)
	for i, l := range latticesUpTo(64) {
		p := plane{int64(i % 2), l}
		all := aboutPoint(p, impl.Vec{X: next(l.A), Y: next(l.C)})
		checkPainting(t, p, closedByProducts(l, all[i%len(all):][:1]), next, 17)
	}
}

// TestGroupsOfOneMotion has groups that leave each cell alone: they keep all patterns.
func TestGroupsOfOneMotion(t *testing.T) {
	group := []impl.Motion{identity}
	for _, p := range slices.Concat(everyLattice(), greatPatterns()) {
		own := plane{p.Frame, p.Lattice}
		checkKept(t, p, group, true)
		checkOrbitColours(t, p, group, p.Colours)
		checkPaint(t, own, group, p.Colours, p)
		seed := impl.Pattern{Frame: p.Frame, Lattice: p.Lattice, Colours: make([]int64, len(p.Colours))}
		seed.Colours[len(seed.Colours)-1] = 1
		checkSeed(t, own, group, impl.Vec{X: p.Lattice.A - 1, Y: p.Lattice.C - 1}, seed)
	}
}

// TestPatternsOfOneColour has every group keep them.
func TestPatternsOfOneColour(t *testing.T) {
	for _, p := range slices.Concat(fewPlanes(), greatPlanes()) {
		for i, group := range someGroups(p) {
			colour := int64(i % 10)
			q := impl.Pattern{Frame: p.frame, Lattice: p.l, Colours: slices.Repeat([]int64{colour}, int(p.l.A*p.l.C))}
			count, _ := impl.CountOrbits(p.frame, p.l, group)
			checkKept(t, q, group, true)
			checkOrbitColours(t, q, group, slices.Repeat([]int64{colour}, int(count)))
		}
	}
}

// TestKeptPatternsAreCounted tries all patterns of small lattices with all groups, and compares with the
// definition and with chapter 10.
func TestKeptPatternsAreCounted(t *testing.T) {
	kept, broken, notLean := 0, 0, 0
	for _, l := range latticesUpTo(5) {
		for _, frame := range bothFrames() {
			p, k := plane{frame, l}, max(2, 5-l.A*l.C)
			groups := groupsOf(p)
			for i := 0; i < len(groups); i += len(groups)/30 + 1 {
				group, count := groups[i], int64(0)
				for _, q := range allPatterns(p, k) {
					isKept := isKeptByDefinition(q, group)
					checkKept(t, q, group, isKept)
					if areAllSymmetries(t, q, group) != isKept {
						t.Errorf("%s, %s: kept is %v", plainPatternText(q), plainListText(group), isKept)
					}
					if full, _ := impl.FullLattice(q); full != l {
						notLean++
					}
					if !isKept {
						checkOrbitColours(t, q, group, nil)
						broken++
						continue
					}
					count++
					kept++
				}
				checkCount(t, p, group, k, count, impl.ErrNone)
			}
		}
	}
	if min(kept, broken, notLean) < 1000 {
		t.Errorf("%d patterns are kept, %d are not, %d are not lean", kept, broken, notLean)
	}
}

// TestOwnGroupsKeepPatterns checks that lean patterns are kept by their groups, and by others exactly if those
// are in them.
func TestOwnGroupsKeepPatterns(t *testing.T) {
	larger := 0
	for i, q := range slices.Concat(paintedPatterns(), greatPatterns(), spreadPatterns()) {
		p, _ := impl.LeanPattern(q)
		group, _ := impl.GroupOfPattern(p)
		checkKept(t, p, group, true)
		colours, code := impl.OrbitColours(p, group)
		checkPaint(t, plane{p.Frame, p.Lattice}, group, colours, p)
		sites, _ := impl.SitesOf(p)
		if len(colours) != len(sites) || code != impl.ErrNone {
			t.Errorf("OrbitColours(%v) = %v, %d, but there are %d sites", p, colours, code, len(sites))
		}
		if i%4 != 0 {
			continue
		}
		for _, m := range aboutPoint(plane{p.Frame, p.Lattice}, impl.Vec{X: int64(i) % 3, Y: int64(i) % 2}) {
			other := closedByProducts(p.Lattice, append(slices.Clone(group[:min(len(group), 2)]), m))
			unbroken, _ := impl.Unbroken(p, other)
			checkKept(t, p, other, len(unbroken) == len(other))
			if len(unbroken) < len(other) {
				larger++
			}
		}
	}
	if larger < 500 {
		t.Errorf("only %d groups do not keep their patterns", larger)
	}
}

// TestMovedPatternsAreKept checks that a motion of a group that keeps a pattern takes it to itself.
func TestMovedPatternsAreKept(t *testing.T) {
	next := scatter(1303)
	for _, c := range standardCases() {
		frame, l, group, _ := impl.StandardGroup(c.name, c.n)
		count, _ := impl.CountOrbits(frame, l, group)
		p, _ := impl.PaintOrbits(frame, l, group, scatteredColours(int(count), next))
		for _, m := range group {
			if moved, code := impl.MovePattern(p, m); !arePatternsEqual(moved, p) || code != impl.ErrNone {
				t.Errorf("MovePattern(%v, %v) = %v, %d", p, m, moved, code)
			}
		}
	}
}

// TestCountsOfAllSizes has each number of orbits with each number of colours, and the numbers next to the limit.
func TestCountsOfAllSizes(t *testing.T) {
	group := []impl.Motion{identity}
	for orbits := int64(1); orbits <= 64; orbits++ {
		for _, p := range []plane{{impl.FrameSquare, impl.Lattice{A: orbits, C: 1}}, {impl.FrameHexagonal, impl.Lattice{A: 1, C: orbits}}} {
			for k := int64(1); k <= 10; k++ {
				want, wantCode := countByPowers(k, int(orbits))
				checkCount(t, p, group, k, want, wantCode)
			}
			checkCount(t, p, group, 1, 1, impl.ErrNone)
			for _, k := range wrongCounts() {
				checkCount(t, p, group, k, 0, impl.ErrRange)
			}
		}
	}
	for _, c := range []struct{ k, orbits, want int64 }{
		{10, 9, 1000000000}, {10, 8, 100000000}, {10, 10, 0}, {9, 9, 387420489}, {9, 10, 0}, {8, 9, 134217728}, {8, 10, 0}, {7, 10, 282475249}, {7, 11, 0}, {6, 11, 362797056}, {6, 12, 0},
		{5, 12, 244140625}, {5, 13, 0}, {4, 14, 268435456}, {4, 15, 0}, {3, 18, 387420489}, {3, 19, 0}, {2, 29, 536870912}, {2, 30, 0}, {2, 63, 0}, {2, 64, 0}, {4, 32, 0}, {8, 21, 0}, {8, 22, 0}, {8, 64, 0}, {10, 64, 0}, {6, 64, 0},
	} {
		wantCode := int64(impl.ErrNone)
		if c.want == 0 {
			wantCode = impl.ErrLimit
		}
		checkCount(t, plane{impl.FrameSquare, impl.Lattice{A: c.orbits, C: 1}}, group, c.k, c.want, wantCode)
	}
	// As many orbits in other ways: with groups that join cells.
	for _, c := range []struct {
		name           string
		n, k           int64
		want, wantCode int64
	}{
		{"p1", 1, 10, 10000, impl.ErrNone}, {"p1", 4, 1, 1, impl.ErrNone}, {"p1", 4, 2, 0, impl.ErrLimit}, {"p2", 2, 7, 282475249, impl.ErrNone}, {"p2", 2, 8, 0, impl.ErrLimit}, {"pg", 2, 10, 100000000, impl.ErrNone}, {"p4m", 1, 10, 1000, impl.ErrNone},
		{"p4m", 2, 10, 1000000, impl.ErrNone}, {"p4m", 3, 10, 0, impl.ErrLimit}, {"p4m", 3, 7, 282475249, impl.ErrNone}, {"p6m", 1, 10, 100, impl.ErrNone}, {"p6m", 4, 7, 282475249, impl.ErrNone}, {"p6m", 4, 8, 0, impl.ErrLimit}, {"pmm", 2, 10, 1000000000, impl.ErrNone}, {"pmm", 2, 9, 387420489, impl.ErrNone},
	} {
		frame, l, standard, _ := impl.StandardGroup(c.name, c.n)
		checkCount(t, plane{frame, l}, standard, c.k, c.want, c.wantCode)
	}
}

func TestWrongColoursOfOrbits(t *testing.T) {
	next := scatter(1304)
	for _, p := range slices.Concat(fewPlanes(), greatPlanes()) {
		groups := someGroups(p)
		for i := 0; i < len(groups); i += 3 {
			group := groups[i]
			orbits := orbitsFrom(p.l, cellWays(p.l, group))
			colours := scatteredColours(len(orbits), next)
			for _, list := range [][]int64{nil, {}, colours[1:], colours[:len(colours)-1], append(slices.Clone(colours), 0), append(slices.Clone(colours), colours...), append(slices.Clone(colours), make([]int64, 64)...), make([]int64, p.l.A*p.l.C+1)} {
				checkNoPaint(t, p, group, list, impl.ErrRange)
			}
			for _, colour := range wrongColours() {
				for _, at := range []int{0, len(colours) / 2, len(colours) - 1} {
					wrong := slices.Clone(colours)
					wrong[at] = colour
					checkNoPaint(t, p, group, wrong, impl.ErrRange)
				}
			}
			for _, colour := range []int64{0, impl.MaxColour} {
				for _, at := range []int{0, len(colours) - 1} {
					good := slices.Clone(colours)
					good[at] = colour
					checkPaint(t, p, group, good, paintedByOrbits(p, orbits, good))
				}
			}
		}
	}
}

// TestSeedsOfOtherVecs has vectors that are outside in each direction, and valid or not.
func TestSeedsOfOtherVecs(t *testing.T) {
	for _, p := range slices.Concat(fewPlanes(), greatPlanes()) {
		for _, group := range [][]impl.Motion{{identity}, allMotions(p.frame, p.l)} {
			if len(group) > 300 {
				continue
			}
			for _, v := range otherVecs(p.l) {
				checkNoSeed(t, p, group, v, impl.ErrRange)
			}
		}
	}
	for _, c := range standardCases() {
		side := 2 * c.n
		for _, v := range []impl.Vec{{X: side}, {Y: side}, {X: -1}, {Y: -1}, {X: side, Y: side}, {X: side - 1, Y: side}, {X: side, Y: side - 1}, {X: -1, Y: side - 1}, {X: side - 1, Y: -1}} {
			checkNoSeed(t, c.p, c.group(), v, impl.ErrRange)
		}
	}
}

// checkGroupIsWrong calls all functions that expect a frame, a lattice and a group, with other arguments that
// would be right and wrong.
func checkGroupIsWrong(t *testing.T, p plane, list []impl.Motion, want int64) {
	t.Helper()
	for _, colours := range [][]int64{nil, {0}, {-1}, {10}, {1, 2, 3, 4}} {
		checkNoPaint(t, p, list, colours, want)
	}
	for _, v := range []impl.Vec{{}, {X: 1}, {X: -1}, {Y: 1001}, {X: math.MinInt64}} {
		checkNoSeed(t, p, list, v, want)
	}
	for _, k := range []int64{1, 2, 10, 0, 11, -1, math.MinInt64, math.MaxInt64} {
		checkCount(t, p, list, k, 0, want)
	}
}

func checkPatternErrors(t *testing.T, p impl.Pattern, list []impl.Motion, want int64) {
	t.Helper()
	if isKept, code := impl.IsKept(p, list); isKept || code != want {
		t.Errorf("IsKept(%v, %s) = %v, %d, want false, %d", p, plainListText(list), isKept, code, want)
	}
	if colours, code := impl.OrbitColours(p, list); len(colours) != 0 || code != want {
		t.Errorf("OrbitColours(%v, %s) = %v, %d, want none, %d", p, plainListText(list), colours, code, want)
	}
}

// TestPaintingsOfNoGroups has patterns that the motions would keep and others, so that ErrRange comes before
// ErrState; and lattices with so many cells that it comes before ErrLimit.
func TestPaintingsOfNoGroups(t *testing.T) {
	next := scatter(1305)
	for _, p := range slices.Concat(fewPlanes(), greatPlanes()) {
		groups := someGroups(p)
		plain := impl.Pattern{Frame: p.frame, Lattice: p.l, Colours: make([]int64, p.l.A*p.l.C)}
		for i := 0; i < len(groups); i += 4 {
			if len(groups[i]) > 24 {
				continue
			}
			mixed := scatteredPattern(p, 10, next)
			for _, list := range brokenGroups(p, groups[i]) {
				checkGroupIsWrong(t, p, list, impl.ErrRange)
				checkPatternErrors(t, plain, list, impl.ErrRange)
				checkPatternErrors(t, mixed, list, impl.ErrRange)
			}
		}
		for _, list := range [][]impl.Motion{nil, {}, {{}}, {identity, identity}} {
			checkGroupIsWrong(t, p, list, impl.ErrRange)
			checkPatternErrors(t, plain, list, impl.ErrRange)
		}
	}
}

// TestGroupsOfOtherLattices has groups modulo the full lattice of a pattern that are none modulo its Lattice,
// and the other way round.
func TestGroupsOfOtherLattices(t *testing.T) {
	for _, c := range []struct {
		p      string
		makers []string
	}{
		{"S 2,0,1 00", []string{"0,-1,1,0;0,0"}}, {"S 4,0,2 01100110", []string{"0,1,1,0;0,0"}}, {"S 2,0,4 01011010", []string{"0,-1,1,0;0,0"}}, {"H 2,0,1 00", []string{"0,-1,1,1;0,0"}}, {"H 4,0,2 10001000", []string{"-1,-1,1,0;0,0"}},
	} {
		p := patternOf(c.p)
		full, _ := impl.FullLattice(p)
		group := groupBy(full, c.makers...)
		if !impl.IsGroup(p.Frame, full, group) {
			t.Fatalf("%q is no group modulo %v", c.makers, full)
		}
		checkPatternErrors(t, p, group, impl.ErrRange)
		lean, _ := impl.LeanPattern(p)
		checkKept(t, lean, group, true)
	}
	wide, lean := patternOf("S 4,0,1 0101"), patternOf("S 2,0,1 01")
	checkKept(t, wide, groupBy(wide.Lattice, "1,0,0,1;2,0"), true)
	checkPatternErrors(t, lean, groupBy(wide.Lattice, "1,0,0,1;2,0"), impl.ErrRange)
}

// TestPaintingsOfWrongPlanes has other arguments that are wrong, too, as ErrInvalid comes first.
func TestPaintingsOfWrongPlanes(t *testing.T) {
	var planes []plane
	for _, frame := range append(wrongFrames(), bothFrames()...) {
		for _, l := range wrongLattices() {
			planes = append(planes, plane{frame, l})
		}
	}
	for _, frame := range wrongFrames() {
		for _, l := range []impl.Lattice{{A: 1, C: 1}, {A: 2, B: 1, C: 1}, {A: 8, C: 8}} {
			planes = append(planes, plane{frame, l})
		}
	}
	for _, p := range planes {
		for _, list := range wrongOrRightGroups() {
			checkGroupIsWrong(t, p, list, impl.ErrInvalid)
		}
	}
}

// wrongOrRightGroups has lists that are groups, and lists that never are.
func wrongOrRightGroups() [][]impl.Motion {
	return [][]impl.Motion{nil, {identity}, {motionWith(-1, 0, 0, -1, 0, 0), identity}, {identity, identity}, {{}}, {motionWith(1, 0, 0, 1, 1001, 0)}, {motionWith(math.MinInt64, 0, 0, 1, 0, 0), identity}}
}

func TestKeepingOfWrongPatterns(t *testing.T) {
	for _, w := range wrongPatterns() {
		for _, list := range wrongOrRightGroups() {
			checkPatternErrors(t, w, list, impl.ErrInvalid)
		}
	}
}

// TestStandardGroupsOwnTheirMemory overwrites the motions of each group, and asks for all of them then.
func TestStandardGroupsOwnTheirMemory(t *testing.T) {
	for _, c := range standardCases() {
		checkIsNew(t, "StandardGroup", func() []impl.Motion { _, _, group, _ := impl.StandardGroup(c.name, c.n); return group }, impl.Motion{M: impl.Mat{A: -7}, T: impl.Vec{X: -7}})
		_, _, first, _ := impl.StandardGroup(c.name, c.n)
		overwrite(first, motionWith(-1, 0, 0, -1, 1, 1))
		checkStandard(t, c)
		_ = append(first[:0], motionWith(0, -1, 1, 0, 0, 0), identity)
		checkStandard(t, c)
	}
	checkAllStandards(t)
}

// TestPaintingsOwnTheirMemory overwrites results one by one, and checks arguments and later results.
func TestPaintingsOwnTheirMemory(t *testing.T) {
	next := scatter(1306)
	for _, c := range standardCases() {
		frame, l := c.p.frame, c.p.l
		for _, group := range [][]impl.Motion{c.group(), {identity}} {
			before := slices.Clone(group)
			orbits := orbitsFrom(l, cellWays(l, group))
			colours := scatteredColours(len(orbits), next)
			kept := slices.Clone(colours)
			want := paintedByOrbits(c.p, orbits, colours)
			p := paintedByOrbits(c.p, orbits, colours)
			checkPatternIsNew(t, "PaintOrbits", func() (impl.Pattern, int64) { return impl.PaintOrbits(frame, l, group, colours) })
			checkPatternIsNew(t, "SeedPattern", func() (impl.Pattern, int64) { return impl.SeedPattern(frame, l, group, impl.Vec{X: 1}) })
			checkIsNew(t, "OrbitColours", func() []int64 { list, _ := impl.OrbitColours(p, group); return list }, -7)
			if !slices.Equal(group, before) || !slices.Equal(colours, kept) || !arePatternsEqual(p, want) {
				t.Fatalf("a result shares memory with an argument: %v, %v, %v", group, colours, p)
			}
			painted, _ := impl.PaintOrbits(frame, l, group, colours)
			read, _ := impl.OrbitColours(p, group)
			overwrite(colours, 7)
			overwrite(p.Colours, 7)
			if !arePatternsEqual(painted, want) || !slices.Equal(read, kept) {
				t.Errorf("a result changes with an argument: %v, %v, want %v, %v", painted, read, want, kept)
			}
		}
	}
	checkAllStandards(t)
}

func TestPaintingsChangeNoArguments(t *testing.T) {
	next := scatter(1307)
	for _, c := range standardCases() {
		frame, l, group := c.p.frame, c.p.l, c.group()
		colours := scatteredColours(len(orbitsFrom(l, cellWays(l, group))), next)
		painted, mixed := paintedPattern(c.p, group, 10, next), scatteredPattern(c.p, 10, next)
		for _, list := range [][]impl.Motion{group, append(slices.Clone(group), identity), group[1:]} {
			checkIsKept(t, "IsKept", list, func(s []impl.Motion) { impl.IsKept(painted, s); impl.IsKept(mixed, s) })
			checkIsKept(t, "OrbitColours", list, func(s []impl.Motion) { impl.OrbitColours(painted, s); impl.OrbitColours(mixed, s) })
			checkIsKept(t, "PaintOrbits", list, func(s []impl.Motion) { impl.PaintOrbits(frame, l, s, colours) })
			checkIsKept(t, "SeedPattern", list, func(s []impl.Motion) { impl.SeedPattern(frame, l, s, impl.Vec{}) })
			checkIsKept(t, "CountKept", list, func(s []impl.Motion) { impl.CountKept(frame, l, s, 2) })
			for _, numbers := range [][]int64{colours, colours[1:], append(slices.Clone(colours), 3)} {
				checkNumbersAreKept(t, "PaintOrbits", numbers, func(s []int64) { impl.PaintOrbits(frame, l, list, s) })
			}
			for _, p := range []impl.Pattern{painted, mixed} {
				checkColoursAreKept(t, "IsKept", p, func(q impl.Pattern) { impl.IsKept(q, list) })
				checkColoursAreKept(t, "OrbitColours", p, func(q impl.Pattern) { impl.OrbitColours(q, list) })
			}
		}
	}
}

// TestStandardGroupsInAnyOrder asks forwards, backwards and in between wrong arguments.
func TestStandardGroupsInAnyOrder(t *testing.T) {
	cases := standardCases()
	next := scatter(1308)
	for range 400 {
		c := cases[next(int64(len(cases)))]
		checkStandard(t, c)
		checkNoStandard(t, c.name, wrongNumbers()[next(int64(len(wrongNumbers())))], impl.ErrRange)
		checkNoStandard(t, c.name+"x", c.n, impl.ErrNotFound)
	}
	slices.Reverse(cases)
	for _, c := range cases {
		checkStandard(t, c)
	}
}

// checkStandardsAtOnce has each worker ask for all groups, beginning with another one, and overwrite what it gets.
func checkStandardsAtOnce(t *testing.T) {
	cases := standardCases()
	begin := make(chan struct{})
	var workers sync.WaitGroup
	for i := range cases {
		workers.Go(func() {
			<-begin
			for j := range cases {
				c := cases[(i+j)%len(cases)]
				checkStandard(t, c)
				_, _, group, _ := impl.StandardGroup(c.name, c.n)
				overwrite(group, motionWith(-1, 0, 0, 1, 1, 0))
				checkNoStandard(t, c.name, 5, impl.ErrRange)
			}
		})
	}
	close(begin)
	workers.Wait()
}

func TestStandardGroupsAtTheSameTime(t *testing.T) {
	for range 5 {
		checkStandardsAtOnce(t)
	}
	checkAllStandards(t)
}

// firstCalls tells the process that TestFirstCalls starts which call it should make first.
const firstCalls = "STANDARDS_FIRST_CALL"

// callFirst makes the call of a text: at the same time, none, a wrong one, another function, or a standard group.
func callFirst(t *testing.T, text string) {
	switch name, number, _ := strings.Cut(text, " "); {
	case text == "at once":
		checkStandardsAtOnce(t)
	case text == "painting":
		group := groupBy(impl.Lattice{A: 2, C: 2}, "0,-1,1,0;0,0")
		checkPaint(t, plane{impl.FrameSquare, impl.Lattice{A: 2, C: 2}}, group, []int64{3, 5, 7}, patternOf("S 2,0,2 3557"))
	default:
		n, _ := strconv.ParseInt(number, 10, 64)
		want := int64(impl.ErrNone)
		switch {
		case rowOf(name).name == "":
			want = impl.ErrNotFound
		case n < 1 || n > 4:
			want = impl.ErrRange
		}
		frame, l, group, code := impl.StandardGroup(name, n)
		if code != want {
			t.Errorf("StandardGroup(%q, %d) = %d, %v, %v, %d as the first call, want %d", name, n, frame, l, group, code, want)
		}
		overwrite(group, motionWith(-1, 0, 0, -1, 1, 1))
	}
}

// TestFirstCalls starts this test in new processes, as what was asked first shows only there.
func TestFirstCalls(t *testing.T) {
	if text := os.Getenv(firstCalls); text != "" {
		callFirst(t, text)
		checkAllStandards(t)
		checkNoStandard(t, "p5", 1, impl.ErrNotFound)
		checkNoStandard(t, "p4", 5, impl.ErrRange)
		return
	}
	own, err := os.Executable()
	if err != nil {
		t.Fatal(err)
	}
	for _, text := range []string{"at once", "painting", "p1 1", "p1 4", "pg 2", "p4g 3", "p31m 4", "p6m 1", "p6m 4", "p4 0", "p4 5", "p6m -1", "p5 1", "p5 5", "P1 2", "none"} {
		command := exec.Command(own, "-test.run=^TestFirstCalls$", "-test.count=1")
		command.Env = append(os.Environ(), firstCalls+"="+text)
		if output, err := command.CombinedOutput(); err != nil || !strings.Contains(string(output), "PASS") {
			t.Errorf("the first call %q: %v, %s", text, err, output)
		}
	}
}
