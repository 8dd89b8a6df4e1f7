package tests

import (
	"fmt"
	"math"
	"regexp"
	"slices"
	"strconv"
	"strings"
	"testing"

	"loop.example/g00943/impl"
)

// The following functions say by the definitions what the program should find. They do not ask it.

// patternOf expects the text of a pattern.
func patternOf(s string) impl.Pattern {
	var sign, digits string
	var p impl.Pattern
	fmt.Sscanf(s, "%s %d,%d,%d %s", &sign, &p.Lattice.A, &p.Lattice.B, &p.Lattice.C, &digits)
	if sign == "H" {
		p.Frame = impl.FrameHexagonal
	}
	for _, digit := range digits {
		p.Colours = append(p.Colours, int64(digit-'0'))
	}
	return p
}

func plainPatternText(p impl.Pattern) string {
	text := []string{"S ", "H "}[p.Frame] + plainLatticeText(p.Lattice) + " "
	for _, colour := range p.Colours {
		text += strconv.FormatInt(colour, 10)
	}
	return text
}

func arePatternsEqual(p impl.Pattern, q impl.Pattern) bool {
	return p.Frame == q.Frame && p.Lattice == q.Lattice && slices.Equal(p.Colours, q.Colours)
}

func shade(p impl.Pattern, v impl.Vec) int64 {
	cell := cellOf(p.Lattice, v)
	return p.Colours[cell.X*p.Lattice.C+cell.Y]
}

// shadesIn has the colours of a square of the plane, so that patterns whose indices divide its side are
// the same exactly if they have the same frame and the same shades.
func shadesIn(p impl.Pattern, side int64) string {
	var digits []byte
	for x := range side {
		for y := range side {
			digits = append(digits, byte('0'+shade(p, impl.Vec{X: x, Y: y})))
		}
	}
	return string(digits)
}

func plus(u impl.Vec, v impl.Vec) impl.Vec { return impl.Vec{X: u.X + v.X, Y: u.Y + v.Y} }

func keepsPattern(p impl.Pattern, shift impl.Vec) bool {
	return !slices.ContainsFunc(plainCells(p.Lattice), func(v impl.Vec) bool { return shade(p, v) != shade(p, plus(v, shift)) })
}

// isFullLattice needs no vectors but the cells: each other one is a cell plus a vector of Lattice.
func isFullLattice(p impl.Pattern, full impl.Lattice) bool {
	isWrong := func(v impl.Vec) bool { return keepsPattern(p, v) != hasVec(full, v) }
	return hasLattice(full, p.Lattice) && !slices.ContainsFunc(plainCells(p.Lattice), isWrong)
}

// withLattice has the colours that p gives the cells of a lattice.
func withLattice(p impl.Pattern, l impl.Lattice) impl.Pattern {
	q := impl.Pattern{Frame: p.Frame, Lattice: l}
	for _, v := range plainCells(l) {
		q.Colours = append(q.Colours, shade(p, v))
	}
	return q
}

// leanBySearch tries the lattices with the least indices first.
func leanBySearch(p impl.Pattern) impl.Pattern {
	for _, l := range latticesUpTo(p.Lattice.A * p.Lattice.C) {
		if hasLattice(l, p.Lattice) && keepsPattern(p, basisOf(l)[0]) && keepsPattern(p, basisOf(l)[1]) {
			return withLattice(p, l)
		}
	}
	panic("no lattice")
}

// allPatterns has all patterns of a plane with the colours 0 to k - 1.
func allPatterns(p plane, k int64) []impl.Pattern {
	list := []impl.Pattern{{Frame: p.frame, Lattice: p.l}}
	for range p.l.A * p.l.C {
		var longer []impl.Pattern
		for _, q := range list {
			for colour := range k {
				longer = append(longer, impl.Pattern{Frame: p.frame, Lattice: p.l, Colours: append(slices.Clone(q.Colours), colour)})
			}
		}
		list = longer
	}
	return list
}

// smallPatterns has all patterns with lattices of small indices, with fewer colours the more cells.
func smallPatterns() []impl.Pattern {
	var list []impl.Pattern
	for index, k := range []int64{1: 10, 2: 4, 3: 3, 4: 3, 5: 2, 6: 2} {
		for _, l := range latticesWith(int64(index)) {
			for _, frame := range bothFrames() {
				list = append(list, allPatterns(plane{frame, l}, k)...)
			}
		}
	}
	return list
}

func scatteredPattern(p plane, k int64, next func(int64) int64) impl.Pattern {
	q := impl.Pattern{Frame: p.frame, Lattice: p.l}
	for range p.l.A * p.l.C {
		q.Colours = append(q.Colours, next(k))
	}
	return q
}

// largerLattices has all lattices that contain l, l itself among them.
func largerLattices(l impl.Lattice) []impl.Lattice {
	return slices.DeleteFunc(latticesUpTo(l.A*l.C), func(m impl.Lattice) bool { return !hasLattice(m, l) })
}

// greatPatterns has patterns for lattices of many indices up to MaxIndex: scattered colours, and
// scattered colours of the lattices that contain them, so that they are not lean.
func greatPatterns() []impl.Pattern {
	var list []impl.Pattern
	next := scatter(9)
	for i, l := range latticesUpTo(64) {
		if i%41 != 0 && i%127 != 0 {
			continue
		}
		for _, frame := range bothFrames() {
			list = append(list, scatteredPattern(plane{frame, l}, 10, next), scatteredPattern(plane{frame, l}, 2, next))
			larger := largerLattices(l)
			for _, m := range []impl.Lattice{larger[0], larger[next(int64(len(larger)))], larger[next(int64(len(larger)))]} {
				list = append(list, withLattice(scatteredPattern(plane{frame, m}, 3, next), l))
			}
		}
	}
	return list
}

// repeatedPatterns has scattered colours of each lattice that contains one of the greatest index.
func repeatedPatterns() []impl.Pattern {
	var list []impl.Pattern
	next := scatter(999)
	for _, p := range greatPlanes() {
		for _, m := range largerLattices(p.l) {
			list = append(list, withLattice(scatteredPattern(plane{p.frame, m}, 10, next), p.l))
		}
	}
	return list
}

// everyLattice has a scattered pattern for each valid lattice, in turns in one frame and the other.
func everyLattice() []impl.Pattern {
	var list []impl.Pattern
	next := scatter(99)
	for i, l := range latticesUpTo(64) {
		list = append(list, scatteredPattern(plane{int64(i % 2), l}, 10, next))
	}
	return list
}

// wrongPatterns is wrong in its frame, in its lattice, in the number of its colours, in one colour, or in
// several of them.
func wrongPatterns() []impl.Pattern {
	list := []impl.Pattern{{}, {Lattice: impl.Lattice{A: 1, C: 1}}, {Colours: []int64{0}}, {Frame: 2, Lattice: impl.Lattice{A: 2, C: 1}, Colours: []int64{10}}}
	for _, frame := range wrongFrames() {
		for _, l := range []impl.Lattice{{A: 1, C: 1}, {A: 3, B: 1, C: 2}, {A: 8, C: 8}} {
			list = append(list, impl.Pattern{Frame: frame, Lattice: l, Colours: make([]int64, l.A*l.C)})
		}
	}
	for _, l := range wrongLattices() {
		for _, count := range []int64{0, 1, l.A * l.C, 64} {
			if 0 <= count && count <= 5000 {
				list = append(list, impl.Pattern{Frame: count % 2, Lattice: l, Colours: make([]int64, count)})
			}
		}
	}
	for _, l := range []impl.Lattice{{A: 1, C: 1}, {A: 2, B: 1, C: 1}, {A: 1, C: 2}, {A: 3, B: 2, C: 2}, {A: 8, B: 3, C: 8}, {A: 64, B: 63, C: 1}, {A: 1, C: 64}} {
		cells := l.A * l.C
		for _, count := range []int64{0, 1, cells - 1, cells + 1, cells + l.A, cells + l.C, 2 * cells, cells / 2, 64} {
			if count != cells {
				list = append(list, impl.Pattern{Frame: count % 2, Lattice: l, Colours: make([]int64, count)})
			}
		}
		for _, colour := range []int64{-1, 10, -10, 57, 256, 1 << 32, math.MaxInt64, math.MinInt64} {
			for _, i := range []int64{0, cells / 2, cells - 1} {
				p := impl.Pattern{Frame: i % 2, Lattice: l, Colours: make([]int64, cells)}
				p.Colours[i] = colour
				list = append(list, p)
			}
		}
	}
	return list
}

func checkNoPattern(t *testing.T, name string, p impl.Pattern, code int64, want int64) {
	t.Helper()
	if !arePatternsEqual(p, impl.Pattern{}) || code != want {
		t.Errorf("%s = %v, %d, want no pattern, %d", name, p, code, want)
	}
}

func TestIsPattern(t *testing.T) {
	if impl.MaxColour != 9 {
		t.Errorf("MaxColour = %d", impl.MaxColour)
	}
	for _, l := range latticesUpTo(64) {
		for _, frame := range bothFrames() {
			for colour := range int64(10) {
				p := impl.Pattern{Frame: frame, Lattice: l, Colours: slices.Repeat([]int64{colour}, int(l.A*l.C))}
				if !impl.IsPattern(p) {
					t.Errorf("IsPattern(%v) = false", p)
				}
			}
		}
	}
	for _, p := range wrongPatterns() {
		if impl.IsPattern(p) {
			t.Errorf("IsPattern(%v) = true", p)
		}
	}
}

// TestWrongPatterns has other arguments that are wrong, too, as ErrInvalid comes first.
func TestWrongPatterns(t *testing.T) {
	good := patternOf("S 2,1,1 01")
	for _, w := range wrongPatterns() {
		if l, code := impl.FullLattice(w); l != (impl.Lattice{}) || code != impl.ErrInvalid {
			t.Errorf("FullLattice(%v) = %v, %d", w, l, code)
		}
		if list, code := impl.CountColours(w); len(list) != 0 || code != impl.ErrInvalid {
			t.Errorf("CountColours(%v) = %v, %d", w, list, code)
		}
		if s, code := impl.PatternText(w); s != "" || code != impl.ErrInvalid {
			t.Errorf("PatternText(%v) = %q, %d", w, s, code)
		}
		p, code := impl.LeanPattern(w)
		checkNoPattern(t, "LeanPattern", p, code, impl.ErrInvalid)
		for _, v := range []impl.Vec{{}, {X: 1, Y: -1}, {X: 1001}, {Y: math.MinInt64}} {
			if n, code := impl.ColourAt(w, v); n != 0 || code != impl.ErrInvalid {
				t.Errorf("ColourAt(%v, %v) = %d, %d", w, v, n, code)
			}
		}
		for _, l := range []impl.Lattice{{A: 1, C: 1}, w.Lattice, {A: 64, C: 1}, {}, {A: 2, B: 2, C: 1}} {
			p, code := impl.SpreadPattern(w, l)
			checkNoPattern(t, "SpreadPattern", p, code, impl.ErrInvalid)
		}
		for _, pair := range [][2]impl.Pattern{{w, good}, {good, w}, {w, w}} {
			if same, code := impl.ArePatternsSame(pair[0], pair[1]); same || code != impl.ErrInvalid {
				t.Errorf("ArePatternsSame(%v, %v) = %v, %d", pair[0], pair[1], same, code)
			}
		}
		for _, m := range []impl.Motion{identity, {}, {M: unitMat, T: impl.Vec{X: 1001}}, motionWith(0, 1, 1, 0, 2, -3), motionWith(1, 1, 0, 1, 0, 0)} {
			p, code := impl.MovePattern(w, m)
			checkNoPattern(t, "MovePattern", p, code, impl.ErrInvalid)
		}
	}
}

func TestColourAt(t *testing.T) {
	for _, c := range []struct {
		p          string
		x, y, want int64
	}{
		{"S 1,0,1 7", 0, 0, 7}, {"H 1,0,1 7", -1000, 1000, 7}, {"S 2,0,2 0123", 0, 0, 0}, {"S 2,0,2 0123", 0, 1, 1}, {"S 2,0,2 0123", 1, 0, 2}, {"S 2,0,2 0123", 1, 1, 3},
		{"S 2,0,2 0123", -1, 0, 2}, {"H 2,0,2 0123", 0, -1, 1}, {"S 2,0,2 0123", -3, 999, 3}, {"S 5,2,1 01234", 0, 1, 3}, {"S 5,2,1 01234", 0, 2, 1}, {"S 5,2,1 01234", 1, -1, 3},
		{"S 5,2,1 01234", 1000, 1000, 0}, {"S 5,2,1 01234", -1000, 999, 2}, {"H 3,1,2 012345", 0, 1, 1}, {"H 3,1,2 012345", 0, 2, 4}, {"H 3,1,2 012345", 2, 3, 3}, {"H 3,1,2 012345", 1, 2, 0},
		{"H 3,1,2 012345", 0, -1, 3}, {"H 3,1,2 012345", 0, -2, 2}, {"S 1,0,3 012", 55, 2, 2}, {"S 1,0,3 012", -55, -1, 2}, {"S 3,0,1 012", 2, 55, 2}, {"S 3,0,1 012", -2, -55, 1},
	} {
		if n, code := impl.ColourAt(patternOf(c.p), impl.Vec{X: c.x, Y: c.y}); n != c.want || code != impl.ErrNone {
			t.Errorf("ColourAt(%q, %d,%d) = %d, %d, want %d", c.p, c.x, c.y, n, code, c.want)
		}
	}
	for _, p := range everyLattice() {
		l := p.Lattice
		vecs := append(someVecs(), impl.Vec{X: l.A}, impl.Vec{X: l.B, Y: l.C}, impl.Vec{X: -l.B, Y: -l.C}, impl.Vec{X: -1}, impl.Vec{Y: -1}, impl.Vec{Y: l.C}, impl.Vec{X: l.A - 1, Y: 2*l.C - 1})
		for _, v := range slices.Concat(vecs, plainCells(l)) {
			if n, code := impl.ColourAt(p, v); n != shade(p, v) || code != impl.ErrNone {
				t.Fatalf("ColourAt(%v, %v) = %d, %d, want %d", p, v, n, code, shade(p, v))
			}
		}
	}
}

func TestColourAtOfEdges(t *testing.T) {
	for _, s := range []string{"S 1,0,1 7", "H 5,2,1 12345", "S 3,1,4 123456789012", "H 2,0,3 123456"} {
		p := patternOf(s)
		for _, v := range edgeVecs() {
			if n, code := impl.ColourAt(p, v); n != shade(p, v) || code != impl.ErrNone {
				t.Errorf("ColourAt(%q, %v) = %d, %d, want %d", s, v, n, code, shade(p, v))
			}
		}
		for _, v := range wrongVecs() {
			if n, code := impl.ColourAt(p, v); n != 0 || code != impl.ErrInvalid {
				t.Errorf("ColourAt(%q, %v) = %d, %d", s, v, n, code)
			}
		}
	}
}

func TestLeanPatterns(t *testing.T) {
	for _, c := range []struct{ p, want string }{
		{"S 1,0,1 7", "S 1,0,1 7"}, {"H 8,0,8 " + strings.Repeat("3", 64), "H 1,0,1 3"}, {"S 64,63,1 " + strings.Repeat("9", 64), "S 1,0,1 9"},
		{"S 2,0,2 0110", "S 2,1,1 01"}, {"H 2,0,2 0110", "H 2,1,1 01"}, {"S 2,0,2 0101", "S 1,0,2 01"}, {"S 2,0,2 0011", "S 2,0,1 01"}, {"S 2,0,2 0001", "S 2,0,2 0001"},
		{"S 4,0,1 0101", "S 2,0,1 01"}, {"S 4,0,1 0102", "S 4,0,1 0102"}, {"S 4,1,1 0101", "S 2,1,1 01"}, {"S 4,2,1 0101", "S 2,0,1 01"}, {"S 4,2,1 0123", "S 4,2,1 0123"},
		{"S 1,0,6 012012", "S 1,0,3 012"}, {"S 1,0,6 010101", "S 1,0,2 01"}, {"H 6,3,1 012012", "H 3,0,1 012"}, {"H 6,1,1 010101", "H 2,1,1 01"},
		{"S 3,0,3 012120201", "S 3,2,1 012"}, {"H 3,0,3 012201120", "H 3,1,1 021"}, {"S 3,1,2 010101", "S 1,0,2 01"}, {"H 2,1,3 012012", "H 1,0,3 012"},
		{"S 4,0,2 01100110", "S 2,1,1 01"}, {"S 4,2,2 01230123", "S 2,0,2 0123"}, {"S 4,2,2 01231032", "S 4,2,2 01231032"}, {"S 4,0,2 01231032", "S 4,2,1 0213"},
	} {
		p, want := patternOf(c.p), patternOf(c.want)
		if l, code := impl.FullLattice(p); l != want.Lattice || code != impl.ErrNone {
			t.Errorf("FullLattice(%q) = %v, %d, want %v", c.p, l, code, want.Lattice)
		}
		if q, code := impl.LeanPattern(p); !arePatternsEqual(q, want) || code != impl.ErrNone {
			t.Errorf("LeanPattern(%q) = %v, %d, want %q", c.p, q, code, c.want)
		}
	}
}

// checkFull compares with the definitions, and tells whether the pattern is lean.
func checkFull(t *testing.T, p impl.Pattern) bool {
	t.Helper()
	full, code := impl.FullLattice(p)
	if code != impl.ErrNone || !impl.IsLattice(full) || !isFullLattice(p, full) {
		t.Fatalf("FullLattice(%v) = %v, %d", p, full, code)
	}
	lean, code := impl.LeanPattern(p)
	if !arePatternsEqual(lean, withLattice(p, full)) || code != impl.ErrNone {
		t.Errorf("LeanPattern(%v) = %v, %d", p, lean, code)
	}
	if l, code := impl.FullLattice(lean); l != lean.Lattice || code != impl.ErrNone {
		t.Errorf("FullLattice(%v) = %v, %d", lean, l, code)
	}
	if again, code := impl.LeanPattern(lean); !arePatternsEqual(again, lean) || code != impl.ErrNone {
		t.Errorf("LeanPattern(%v) = %v, %d", lean, again, code)
	}
	if same, code := impl.ArePatternsSame(p, lean); !same || code != impl.ErrNone {
		t.Errorf("ArePatternsSame(%v, %v) = %v, %d", p, lean, same, code)
	}
	return full == p.Lattice
}

// TestFullLattices also checks that there are enough patterns of all kinds: lean ones, ones of one colour,
// and ones whose full lattice is neither theirs nor that of all vectors.
func TestFullLattices(t *testing.T) {
	lean, plain, between := 0, 0, 0
	for _, p := range slices.Concat(smallPatterns(), greatPatterns(), repeatedPatterns(), everyLattice()) {
		isLean := checkFull(t, p)
		switch full := leanBySearch(p).Lattice; {
		case full == impl.Lattice{A: 1, C: 1}:
			plain++
		case isLean:
			lean++
		default:
			between++
		}
	}
	if min(lean, plain, between) < 500 {
		t.Errorf("%d patterns are lean, %d of one colour, %d between", lean, plain, between)
	}
}

// TestLeanPatternsAreEqualExactlyIfSame checks promise 9 for all pairs.
func TestLeanPatternsAreEqualExactlyIfSame(t *testing.T) {
	const side = 12
	var list []impl.Pattern
	for _, l := range latticesUpTo(4) {
		for _, frame := range bothFrames() {
			list = append(list, allPatterns(plane{frame, l}, 2)...)
		}
	}
	for _, l := range []impl.Lattice{{A: 6, B: 2, C: 1}, {A: 3, B: 1, C: 2}, {A: 6, C: 2}, {A: 12, B: 5, C: 1}} {
		for i := range 40 {
			p := list[i*7%len(list)]
			list = append(list, withLattice(p, l), impl.Pattern{Frame: 1 - p.Frame, Lattice: l, Colours: withLattice(p, l).Colours})
		}
	}
	shades, leans := make([]string, len(list)), make([]string, len(list))
	for i, p := range list {
		shades[i] = strconv.FormatInt(p.Frame, 10) + shadesIn(p, side)
		lean, code := impl.LeanPattern(p)
		if leans[i] = plainPatternText(lean); !arePatternsEqual(lean, leanBySearch(p)) || code != impl.ErrNone {
			t.Errorf("LeanPattern(%v) = %v, %d", p, lean, code)
		}
	}
	others := 0
	for i, p := range list {
		for j, q := range list {
			want := shades[i] == shades[j]
			if same, code := impl.ArePatternsSame(p, q); same != want || code != impl.ErrNone {
				t.Fatalf("ArePatternsSame(%v, %v) = %v, %d, want %v", p, q, same, code, want)
			}
			if (leans[i] == leans[j]) != want {
				t.Fatalf("LeanPattern of %v and of %v: %s and %s, but same: %v", p, q, leans[i], leans[j], want)
			}
			if want && p.Lattice != q.Lattice {
				others++
			}
		}
	}
	if others < 1000 {
		t.Errorf("only %d pairs are the same with different lattices", others)
	}
}

func TestArePatternsSame(t *testing.T) {
	for _, c := range []struct {
		p, q string
		want bool
	}{
		{"S 1,0,1 7", "S 1,0,1 7", true}, {"S 1,0,1 7", "S 1,0,1 8", false}, {"S 1,0,1 7", "H 1,0,1 7", false}, {"S 1,0,1 7", "S 3,1,2 777777", true}, {"H 8,0,1 77777777", "H 1,0,9 777777777", true},
		{"S 8,0,1 77777777", "H 1,0,9 777777777", false}, {"S 2,0,2 0110", "S 2,1,1 01", true}, {"S 2,0,2 0110", "S 2,1,1 10", false}, {"S 2,1,1 01", "S 2,0,1 01", false}, {"H 2,0,1 01", "H 1,0,2 01", false},
		{"S 3,0,1 012", "S 3,1,1 012", false}, {"S 3,1,1 012", "S 3,2,1 012", false}, {"S 6,3,1 012012", "S 6,0,1 012012", true}, {"S 6,3,1 012012", "S 6,1,1 012012", false}, {"S 4,0,1 0101", "S 2,0,3 000111", true},
		{"S 4,0,1 0101", "S 2,0,3 000110", false}, {"H 4,2,1 0123", "H 4,2,1 0123", true}, {"H 4,2,1 0123", "H 4,2,1 0132", false}, {"H 4,2,1 0123", "S 4,2,1 0123", false}, {"H 4,2,1 0123", "H 4,1,1 0123", false},
	} {
		p, q := patternOf(c.p), patternOf(c.q)
		for _, pair := range [][2]impl.Pattern{{p, q}, {q, p}} {
			if same, code := impl.ArePatternsSame(pair[0], pair[1]); same != c.want || code != impl.ErrNone {
				t.Errorf("ArePatternsSame(%q, %q) = %v, %d", c.p, c.q, same, code)
			}
		}
	}
}

// TestSameGreatPatterns changes one colour of a pattern: then it is another one.
func TestSameGreatPatterns(t *testing.T) {
	for i, p := range greatPatterns() {
		changed := impl.Pattern{Frame: p.Frame, Lattice: p.Lattice, Colours: slices.Clone(p.Colours)}
		n := i % len(p.Colours)
		changed.Colours[n] = (changed.Colours[n] + 1) % 10
		other := impl.Pattern{Frame: 1 - p.Frame, Lattice: p.Lattice, Colours: p.Colours}
		for _, q := range []impl.Pattern{changed, other} {
			if same, code := impl.ArePatternsSame(p, q); same || code != impl.ErrNone {
				t.Errorf("ArePatternsSame(%v, %v) = %v, %d", p, q, same, code)
			}
		}
		if same, code := impl.ArePatternsSame(p, leanBySearch(p)); !same || code != impl.ErrNone {
			t.Errorf("ArePatternsSame(%v, %v) = %v, %d", p, leanBySearch(p), same, code)
		}
	}
}

func TestSpreadPattern(t *testing.T) {
	for _, c := range []struct {
		p, l, want string
	}{
		{"S 1,0,1 7", "1,0,1", "S 1,0,1 7"}, {"S 1,0,1 7", "3,1,2", "S 3,1,2 777777"}, {"S 3,1,2 777777", "1,0,1", "S 1,0,1 7"}, {"S 3,1,2 777777", "5,2,1", "S 5,2,1 77777"},
		{"S 2,1,1 01", "2,0,2", "S 2,0,2 0110"}, {"S 2,1,1 01", "4,0,2", "S 4,0,2 01100110"}, {"S 2,1,1 01", "4,1,1", "S 4,1,1 0101"}, {"S 2,0,2 0110", "2,1,1", "S 2,1,1 01"}, {"S 2,0,2 0110", "4,3,1", "S 4,3,1 0101"},
		{"H 2,0,2 0110", "2,1,3", "H 2,1,3 010101"}, {"S 2,1,1 01", "2,0,1", ""}, {"S 2,1,1 01", "1,0,2", ""}, {"S 2,1,1 01", "1,0,1", ""}, {"S 2,1,1 01", "3,0,2", ""}, {"S 2,1,1 01", "2,0,3", ""}, {"S 2,1,1 01", "3,0,3", ""},
		{"S 2,1,1 01", "3,1,2", ""}, {"H 5,2,1 01234", "5,2,1", "H 5,2,1 01234"}, {"H 5,2,1 01234", "5,4,2", "H 5,4,2 0314203142"}, {"H 5,2,1 01234", "5,3,1", ""}, {"H 5,2,1 01234", "1,0,5", ""}, {"H 5,2,1 01234", "10,7,1", "H 10,7,1 0123401234"}, {"H 5,2,1 01234", "10,5,1", ""},
		{"S 4,0,1 0101", "2,0,1", "S 2,0,1 01"}, {"S 4,0,1 0101", "6,4,1", "S 6,4,1 010101"}, {"S 4,0,1 0101", "6,3,1", ""},
	} {
		l, _ := impl.ReadLattice(c.l)
		q, code := impl.SpreadPattern(patternOf(c.p), l)
		if c.want == "" {
			checkNoPattern(t, "SpreadPattern", q, code, impl.ErrState)
		} else if !arePatternsEqual(q, patternOf(c.want)) || code != impl.ErrNone {
			t.Errorf("SpreadPattern(%q, %s) = %v, %d, want %q", c.p, c.l, q, code, c.want)
		}
	}
	for _, l := range wrongLattices() {
		for _, s := range []string{"S 1,0,1 7", "H 5,2,1 01234", "S 4,0,1 0101"} {
			q, code := impl.SpreadPattern(patternOf(s), l)
			checkNoPattern(t, "SpreadPattern", q, code, impl.ErrInvalid)
		}
	}
}

// checkSpread tells whether there is the pattern with the lattice.
func checkSpread(t *testing.T, p impl.Pattern, full impl.Lattice, l impl.Lattice) bool {
	t.Helper()
	q, code := impl.SpreadPattern(p, l)
	if !hasLattice(full, l) {
		checkNoPattern(t, "SpreadPattern", q, code, impl.ErrState)
		return false
	}
	if !arePatternsEqual(q, withLattice(p, l)) || code != impl.ErrNone {
		t.Errorf("SpreadPattern(%v, %v) = %v, %d", p, l, q, code)
	}
	if same, code := impl.ArePatternsSame(p, q); !same || code != impl.ErrNone {
		t.Errorf("ArePatternsSame(%v, %v) = %v, %d", p, q, same, code)
	}
	return true
}

// TestSpreadPatterns also counts the lattices that are greater than the given one, or cut it up.
func TestSpreadPatterns(t *testing.T) {
	greater, crossing, without := 0, 0, 0
	for i, p := range slices.Concat(smallPatterns(), greatPatterns()) {
		full := leanBySearch(p).Lattice
		for j, l := range latticesUpTo(64) {
			if (i+j)%11 != 0 && l != p.Lattice && l.A*l.C > 3 {
				continue
			}
			switch isSpread := checkSpread(t, p, full, l); {
			case !isSpread:
				without++
			case l != p.Lattice && hasLattice(l, p.Lattice):
				greater++
			case !hasLattice(p.Lattice, l):
				crossing++
			}
		}
	}
	if min(greater, crossing, without) < 1000 {
		t.Errorf("%d greater lattices, %d crossing ones, %d without patterns", greater, crossing, without)
	}
}

func TestMovePattern(t *testing.T) {
	for _, c := range []struct {
		p    string
		m    impl.Motion
		want string
	}{
		{"S 3,0,1 012", identity, "S 3,0,1 012"}, {"S 3,0,1 012", motionWith(1, 0, 0, 1, 1, 0), "S 3,0,1 201"}, {"S 3,0,1 012", motionWith(1, 0, 0, 1, 0, 1), "S 3,0,1 012"}, {"S 3,0,1 012", motionWith(1, 0, 0, 1, -1, 500), "S 3,0,1 120"},
		{"S 3,0,1 012", motionWith(-1, 0, 0, 1, 0, 0), "S 3,0,1 021"}, {"S 3,0,1 012", motionWith(-1, 0, 0, -1, 1, 0), "S 3,0,1 102"}, {"S 3,0,1 012", motionWith(1, 0, 0, -1, 0, 0), "S 3,0,1 012"},
		{"S 3,0,1 012", motionWith(0, -1, 1, 0, 0, 0), "S 1,0,3 012"}, {"S 3,0,1 012", motionWith(0, 1, -1, 0, 0, 0), "S 1,0,3 021"}, {"S 3,0,1 012", motionWith(0, 1, 1, 0, 0, 1), "S 1,0,3 201"}, {"S 3,0,1 012", motionWith(0, -1, -1, 0, 0, 1), "S 1,0,3 102"},
		{"S 3,1,1 012", motionWith(1, 0, 0, -1, 0, 0), "S 3,2,1 012"}, {"S 5,2,1 01234", motionWith(0, -1, 1, 0, 0, 0), "S 5,2,1 02413"}, {"S 5,2,1 01234", motionWith(0, 1, 1, 0, 0, 0), "S 5,3,1 03142"}, {"S 2,0,2 0123", motionWith(0, 1, 1, 0, 1, 0), "S 2,0,2 1302"},
		{"S 2,0,3 012345", motionWith(0, -1, 1, 0, 0, 0), "S 3,0,2 032514"}, {"S 2,0,3 012345", motionWith(1, 0, 0, 1, 1000, -1000), "S 2,0,3 120453"}, {"H 3,0,1 012", motionWith(0, -1, 1, 1, 0, 0), "H 3,2,1 012"}, {"H 3,0,1 012", motionWith(0, -1, 1, 1, 1, 0), "H 3,2,1 201"},
		{"H 3,0,1 012", motionWith(-1, -1, 1, 0, 0, 0), "H 1,0,3 012"}, {"H 3,0,1 012", motionWith(0, 1, 1, 0, 0, 0), "H 1,0,3 012"}, {"H 7,2,1 0123456", motionWith(-1, -1, 1, 0, 0, 0), "H 7,2,1 0246135"}, {"S 4,0,1 0101", motionWith(0, 1, 1, 0, 0, 1), "S 1,0,4 1010"},
		{"S 1,0,1 7", motionWith(0, -1, 1, 0, 1000, 1000), "S 1,0,1 7"}, {"H 1,0,1 7", motionWith(1, 1, 0, -1, -1000, 1000), "H 1,0,1 7"}, {"H 2,0,2 0123", motionWith(1, 1, 0, -1, 0, 0), "H 2,0,2 0321"},
	} {
		if q, code := impl.MovePattern(patternOf(c.p), c.m); !arePatternsEqual(q, patternOf(c.want)) || code != impl.ErrNone {
			t.Errorf("MovePattern(%q, %v) = %v, %d, want %q", c.p, c.m, q, code, c.want)
		}
	}
}

// checkMoved compares with the definition: the lattice of the result has the images of the basis and the
// same index, and each image the colour of its vector. Then it moves back by the inverse.
func checkMoved(t *testing.T, p impl.Pattern, m impl.Motion, box []impl.Vec) {
	t.Helper()
	q, code := impl.MovePattern(p, m)
	if code != impl.ErrNone || !impl.IsPattern(q) || q.Frame != p.Frame {
		t.Fatalf("MovePattern(%v, %v) = %v, %d", p, m, q, code)
	}
	b := basisOf(p.Lattice)
	if !hasVec(q.Lattice, image(m.M, b[0])) || !hasVec(q.Lattice, image(m.M, b[1])) || q.Lattice.A*q.Lattice.C != p.Lattice.A*p.Lattice.C {
		t.Fatalf("MovePattern(%v, %v) = %v", p, m, q)
	}
	for _, v := range slices.Concat(plainCells(p.Lattice), box) {
		if shade(q, place(m, v)) != shade(p, v) {
			t.Fatalf("MovePattern(%v, %v) = %v, which differs at %v", p, m, q, v)
		}
	}
	back := impl.Motion{M: inverseByList(p.Frame, m.M)}
	back.T = image(back.M, impl.Vec{X: -m.T.X, Y: -m.T.Y})
	if !isLimitedVec(back.T) {
		back.T = cellOf(p.Lattice, back.T)
	}
	if r, code := impl.MovePattern(q, back); !arePatternsEqual(r, p) || code != impl.ErrNone {
		t.Errorf("MovePattern(%v, %v) = %v, %d, want %v", q, back, r, code, p)
	}
}

func inverseByList(frame int64, m impl.Mat) impl.Mat {
	for _, n := range pointMatsOf(frame) {
		if product(m, n) == unitMat {
			return n
		}
	}
	panic("no inverse")
}

func TestMovedPatterns(t *testing.T) {
	shifts := someVecs()
	for i, p := range slices.Concat(smallPatterns(), greatPatterns(), everyLattice()) {
		// Great patterns and those of every lattice are too many for all shifts.
		few := []impl.Vec{{}, shifts[i%len(shifts)]}
		if p.Lattice.A*p.Lattice.C <= 4 {
			few = append(few, shifts[(i+5)%len(shifts)], shifts[(i+9)%len(shifts)])
		}
		for j, m := range motionsOf(pointMatsOf(p.Frame), few) {
			if (i+j)%3 == 0 || p.Lattice.A*p.Lattice.C <= 6 {
				checkMoved(t, p, m, few)
			}
		}
	}
}

// TestMovedBackByTheProgramsInverse has shifts whose inverses are valid in both frames.
func TestMovedBackByTheProgramsInverse(t *testing.T) {
	for _, p := range greatPatterns() {
		for _, m := range motionsOf(pointMatsOf(p.Frame), []impl.Vec{{}, {X: 3, Y: -8}, {X: 500, Y: 499}, {X: 1000}}) {
			back, code := impl.InverseMotion(m)
			q, there := impl.MovePattern(p, m)
			r, again := impl.MovePattern(q, back)
			if !arePatternsEqual(r, p) || code != impl.ErrNone || there != impl.ErrNone || again != impl.ErrNone {
				t.Errorf("MovePattern(%v, %v) = %v, %d, and by %v %v, %d", p, m, q, there, back, r, again)
			}
		}
	}
}

func TestMovePatternByWrongMotions(t *testing.T) {
	mats := slices.Concat(pointMatsOf(0), pointMatsOf(1), wrongMats(), wrappingMats(), greatMats(), smallMats(2))
	for _, s := range []string{"S 1,0,1 7", "H 1,0,1 7", "S 3,1,2 012345", "H 3,1,2 012345", "S 8,0,8 " + strings.Repeat("01234567", 8), "H 64,9,1 " + strings.Repeat("01234567", 8)} {
		p := patternOf(s)
		own := pointMatsOf(p.Frame)
		for _, m := range mats {
			if slices.Contains(own, m) {
				continue
			}
			for _, v := range append(wrongVecs()[:3], impl.Vec{}, impl.Vec{X: 5, Y: -1000}) {
				q, code := impl.MovePattern(p, impl.Motion{M: m, T: v})
				checkNoPattern(t, "MovePattern", q, code, impl.ErrRange)
			}
		}
		for _, m := range motionsOf(own, wrongVecs()) {
			q, code := impl.MovePattern(p, m)
			checkNoPattern(t, "MovePattern", q, code, impl.ErrRange)
		}
	}
}

func TestCountColours(t *testing.T) {
	for _, c := range []struct {
		p    string
		want []int64
	}{
		{"S 1,0,1 0", []int64{1, 0, 0, 0, 0, 0, 0, 0, 0, 0}},
		{"H 1,0,1 9", []int64{0, 0, 0, 0, 0, 0, 0, 0, 0, 1}},
		{"S 2,0,2 0110", []int64{2, 2, 0, 0, 0, 0, 0, 0, 0, 0}},
		{"H 5,1,2 0123456789", []int64{1, 1, 1, 1, 1, 1, 1, 1, 1, 1}},
		{"S 64,63,1 " + strings.Repeat("3", 63) + "8", []int64{0, 0, 0, 63, 0, 0, 0, 0, 1, 0}},
	} {
		if list, code := impl.CountColours(patternOf(c.p)); !slices.Equal(list, c.want) || code != impl.ErrNone {
			t.Errorf("CountColours(%q) = %v, %d, want %v", c.p, list, code, c.want)
		}
	}
	for _, p := range slices.Concat(smallPatterns(), greatPatterns(), everyLattice()) {
		list, code := impl.CountColours(p)
		if len(list) != 10 || code != impl.ErrNone {
			t.Fatalf("CountColours(%v) = %v, %d", p, list, code)
		}
		sum := int64(0)
		for colour, count := range list {
			if want := strings.Count(strings.Fields(plainPatternText(p))[2], strconv.Itoa(colour)); count != int64(want) {
				t.Errorf("CountColours(%v) = %v", p, list)
			}
			sum += count
		}
		if cells, _ := impl.CellsOf(p.Lattice); sum != int64(len(cells)) {
			t.Errorf("CountColours(%v) = %v, but there are %d cells", p, list, len(cells))
		}
	}
}

func TestPatternTexts(t *testing.T) {
	for _, c := range []struct {
		s string
		p impl.Pattern
	}{
		{"S 1,0,1 0", impl.Pattern{Lattice: impl.Lattice{A: 1, C: 1}, Colours: []int64{0}}},
		{"H 1,0,1 9", impl.Pattern{Frame: impl.FrameHexagonal, Lattice: impl.Lattice{A: 1, C: 1}, Colours: []int64{9}}},
		{"S 3,1,2 012345", impl.Pattern{Lattice: impl.Lattice{A: 3, B: 1, C: 2}, Colours: []int64{0, 1, 2, 3, 4, 5}}},
		{"H 10,9,1 9876543210", impl.Pattern{Frame: impl.FrameHexagonal, Lattice: impl.Lattice{A: 10, B: 9, C: 1}, Colours: []int64{9, 8, 7, 6, 5, 4, 3, 2, 1, 0}}},
		{"S 1,0,12 000000000000", impl.Pattern{Lattice: impl.Lattice{A: 1, C: 12}, Colours: make([]int64, 12)}},
	} {
		if s, code := impl.PatternText(c.p); s != c.s || code != impl.ErrNone {
			t.Errorf("PatternText(%v) = %q, %d, want %q", c.p, s, code, c.s)
		}
		if p, code := impl.ReadPattern(c.s); !arePatternsEqual(p, c.p) || code != impl.ErrNone {
			t.Errorf("ReadPattern(%q) = %v, %d, want %v", c.s, p, code, c.p)
		}
	}
	for _, p := range slices.Concat(smallPatterns(), greatPatterns(), everyLattice()) {
		s, code := impl.PatternText(p)
		if s != plainPatternText(p) || code != impl.ErrNone {
			t.Errorf("PatternText(%v) = %q, %d", p, s, code)
		}
		if q, code := impl.ReadPattern(s); !arePatternsEqual(q, p) || code != impl.ErrNone {
			t.Errorf("ReadPattern(%q) = %v, %d, want %v", s, q, code, p)
		}
	}
}

func TestReadPatternRejects(t *testing.T) {
	texts := []string{
		"", " ", "  ", "S", "H", "S ", "S  ", "S 1,0,1", "S 1,0,1 ", "S  0", "1,0,1 0", " 1,0,1 0", "S 0", "S1,0,1 0", "S 1,0,10", "S1,0,10",
		"s 1,0,1 0", "h 1,0,1 0", "X 1,0,1 0", "0 1,0,1 0", "1 1,0,1 0", "SH 1,0,1 0", "HS 1,0,1 0", "SS 1,0,1 0", "\x00 1,0,1 0", "\xff 1,0,1 0", "\uff33 1,0,1 0", "\u0405 1,0,1 0",
		" S 1,0,1 0", "S  1,0,1 0", "S 1,0,1  0", "S 1,0,1 0 ", "S 1,0,1 0\n", "\nS 1,0,1 0", "S\t1,0,1 0", "S 1,0,1\t0", "S\n1,0,1\n0", "S\u00a01,0,1 0", "S 1,0,1,0", "S,1,0,1 0", "S;1,0,1;0",
		"S 1,0 0", "S 1,0,1,0 0", "S 1,1,1 0", "S 0,0,1 0", "S 0,0,0 ", "S 1,0,0 ", "S -1,0,1 0", "S 1,-0,1 0", "S 01,0,1 0", "S +1,0,1 0", "S 1, 0,1 0", "S 1,0,1.0 0", "S 3,3,1 012", "S (1,0,1) 0", "S 1,0,\uff11 0",
		"S 65,0,1 " + strings.Repeat("0", 65), "S 13,0,5 " + strings.Repeat("0", 65), "S 1,0,65 " + strings.Repeat("0", 65), "S 18446744073709551617,0,1 0", "S 1,0,4294967297 0",
		"S 1,0,1 00", "S 2,0,1 0", "S 2,0,1 000", "S 2,0,1 0 0", "S 2,0,1 0,0", "S 2,0,1 0\n", "S 2,0,2 000", "S 2,0,2 00000", "S 8,0,8 " + strings.Repeat("0", 63), "S 8,0,8 " + strings.Repeat("0", 65), "S 8,0,8 0",
		"S 1,0,1 a", "S 1,0,1 /", "S 1,0,1 :", "S 1,0,1 -", "S 1,0,1 -1", "S 1,0,1 +1", "S 1,0,1 \x00", "S 1,0,1 \x09", "S 1,0,1 \xff", "S 1,0,1 \xb2", "S 1,0,1 S", "S 2,0,1 \u00b2", "S 3,0,1 \uff11", "S 2,0,1 1a", "S 2,0,1 a1", "S 2,0,1 0/", "S 2,0,1 :0",
		"S 1,0,1 0S 1,0,1 0", "S 1,0,1 0 1,0,1 0", "H H 1,0,1 0", "S 1,0,1 1,0,1 0", "S 0 1,0,1", "1,0,1 S 0", "0 1,0,1 S", "1,0,1 0 S",
		strings.Repeat(" ", 1000), strings.Repeat("S", 1000), "S 1,0,1 " + strings.Repeat("0", 100000), "S " + strings.Repeat("0", 1000) + "1,0,1 0",
	}
	for _, l := range wrongLattices() {
		texts = append(texts, "S "+plainLatticeText(l)+" 0", "H "+plainLatticeText(l)+" ")
		if count := l.A * l.C; 0 < count && count < 5000 {
			texts = append(texts, "S "+plainLatticeText(l)+" "+strings.Repeat("0", int(count)))
		}
	}
	for _, s := range texts {
		p, code := impl.ReadPattern(s)
		if !arePatternsEqual(p, impl.Pattern{}) || code != impl.ErrSyntax {
			t.Errorf("ReadPattern(%q) = %v, %d", s, p, code)
		}
	}
}

var patternForm = regexp.MustCompile(`^([SH]) (0|[1-9][0-9]*),(0|[1-9][0-9]*),(0|[1-9][0-9]*) ([0-9]+)$`)

// isPatternText expects numbers that are not too long for an int64.
func isPatternText(s string) bool {
	parts := patternForm.FindStringSubmatch(s)
	if parts == nil {
		return false
	}
	p := patternOf(s)
	l := p.Lattice
	return l.A >= 1 && l.C >= 1 && l.A <= 64 && l.C <= 64 && l.B < l.A && l.A*l.C <= 64 && int64(len(parts[5])) == l.A*l.C
}

// TestReadPatternOfChangedTexts changes one or two signs of texts: just the texts of patterns are read.
func TestReadPatternOfChangedTexts(t *testing.T) {
	accepted := 0
	check := func(s string) {
		var want impl.Pattern
		wantCode := int64(impl.ErrSyntax)
		if isPatternText(s) {
			accepted++
			want, wantCode = patternOf(s), impl.ErrNone
		}
		if p, code := impl.ReadPattern(s); !arePatternsEqual(p, want) || code != wantCode {
			t.Errorf("ReadPattern(%q) = %v, %d, want %v, %d", s, p, code, want, wantCode)
		}
	}
	for _, text := range []string{"S 1,0,1 0", "H 2,1,1 39", "S 3,2,1 012", "H 2,0,2 0123", "S 1,0,12 012345678901"} {
		for _, once := range changesOf(text, "SHX0129,- /:\n") {
			check(once)
			for _, twice := range changesOf(once, "SH0123, -") {
				check(twice)
			}
		}
	}
	if accepted < 2000 {
		t.Errorf("only %d texts of patterns", accepted)
	}
}

// checkPatternIsNew overwrites one pattern that a call returned, and checks those of two other calls.
func checkPatternIsNew(t *testing.T, name string, call func() (impl.Pattern, int64)) {
	t.Helper()
	checkIsNew(t, name, func() []int64 { q, _ := call(); return q.Colours }, -7)
}

func checkColoursAreKept(t *testing.T, name string, p impl.Pattern, call func(impl.Pattern)) {
	t.Helper()
	checkNumbersAreKept(t, name, p.Colours, func(colours []int64) { p.Colours = colours; call(p) })
}

func TestPatternsShareNoMemory(t *testing.T) {
	for i, p := range slices.Concat(greatPatterns(), smallPatterns()[:200], everyLattice()[:200]) {
		before, s := slices.Clone(p.Colours), plainPatternText(p)
		mats := pointMatsOf(p.Frame)
		turn := impl.Motion{M: mats[i%len(mats)], T: impl.Vec{X: 2, Y: -1}}
		lattices := []impl.Lattice{p.Lattice, leanBySearch(p).Lattice, {A: 1, C: 1}}
		checkPatternIsNew(t, "LeanPattern", func() (impl.Pattern, int64) { return impl.LeanPattern(p) })
		checkPatternIsNew(t, "ReadPattern", func() (impl.Pattern, int64) { return impl.ReadPattern(s) })
		for _, l := range lattices {
			checkPatternIsNew(t, "SpreadPattern", func() (impl.Pattern, int64) { return impl.SpreadPattern(p, l) })
			checkColoursAreKept(t, "SpreadPattern", p, func(q impl.Pattern) { impl.SpreadPattern(q, l) })
		}
		for _, m := range []impl.Motion{identity, turn} {
			checkPatternIsNew(t, "MovePattern", func() (impl.Pattern, int64) { return impl.MovePattern(p, m) })
			checkColoursAreKept(t, "MovePattern", p, func(q impl.Pattern) { impl.MovePattern(q, m) })
		}
		checkIsNew(t, "CountColours", func() []int64 { list, _ := impl.CountColours(p); return list }, -7)
		if !slices.Equal(p.Colours, before) {
			t.Fatalf("a result shares memory with an argument: %v, %v", p, before)
		}
		checkColoursAreKept(t, "IsPattern", p, func(q impl.Pattern) { impl.IsPattern(q) })
		checkColoursAreKept(t, "ColourAt", p, func(q impl.Pattern) { impl.ColourAt(q, impl.Vec{X: -1}) })
		checkColoursAreKept(t, "FullLattice", p, func(q impl.Pattern) { impl.FullLattice(q) })
		checkColoursAreKept(t, "LeanPattern", p, func(q impl.Pattern) { impl.LeanPattern(q) })
		checkColoursAreKept(t, "ArePatternsSame", p, func(q impl.Pattern) { impl.ArePatternsSame(q, p); impl.ArePatternsSame(p, q) })
		checkColoursAreKept(t, "CountColours", p, func(q impl.Pattern) { impl.CountColours(q) })
		checkColoursAreKept(t, "PatternText", p, func(q impl.Pattern) { impl.PatternText(q) })
	}
}
