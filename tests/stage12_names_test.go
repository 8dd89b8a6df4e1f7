package tests

import (
	"cmp"
	"math"
	"slices"
	"strings"
	"testing"

	"loop.example/g00943/impl"
)

// groupRow has what the document tells of a name, with facts that have it.
type groupRow struct {
	name       string
	signature  string
	pointOrder int64
	facts      impl.Facts
}

// groupRows has the names in their order.
func groupRows() []groupRow {
	return []groupRow{
		{"p1", "o", 1, impl.Facts{Rotation: 1}}, {"p2", "2222", 2, impl.Facts{Rotation: 2}},
		{"pm", "**", 2, impl.Facts{Rotation: 1, Mirrors: 1, Reflecting: 1}}, {"pg", "xx", 2, impl.Facts{Rotation: 1, Mirrors: 1}}, {"cm", "*x", 2, impl.Facts{Rotation: 1, Mirrors: 1, Reflecting: 1, Centred: 1}},
		{"pmm", "*2222", 4, impl.Facts{Rotation: 2, Mirrors: 2, Reflecting: 2}}, {"pmg", "22*", 4, impl.Facts{Rotation: 2, Mirrors: 2, Reflecting: 1}}, {"pgg", "22x", 4, impl.Facts{Rotation: 2, Mirrors: 2}},
		{"cmm", "2*22", 4, impl.Facts{Rotation: 2, Mirrors: 2, Reflecting: 2, Centred: 2}},
		{"p4", "442", 4, impl.Facts{Rotation: 4}}, {"p4m", "*442", 8, impl.Facts{Rotation: 4, Mirrors: 4, Reflecting: 4, Centred: 2}}, {"p4g", "4*2", 8, impl.Facts{Rotation: 4, Mirrors: 4, Reflecting: 2, Centred: 2}},
		{"p3", "333", 3, impl.Facts{Rotation: 3}}, {"p3m1", "*333", 6, impl.Facts{Rotation: 3, Mirrors: 3, Reflecting: 3, Centred: 3}}, {"p31m", "3*3", 6, impl.Facts{Rotation: 3, Mirrors: 3, Reflecting: 3, Centred: 3, Along: true}},
		{"p6", "632", 6, impl.Facts{Rotation: 6}}, {"p6m", "*632", 12, impl.Facts{Rotation: 6, Mirrors: 6, Reflecting: 6, Centred: 6}},
	}
}

// nameInTable is the name of the row with the same facts, but for what the rules of the document do not ask
// for: Along with mirrors and other numbers than 3, and Centred for pg.
func nameInTable(f impl.Facts) string {
	for _, row := range groupRows() {
		want := row.facts
		if f.Mirrors > 0 && f.Rotation != 3 {
			want.Along = f.Along
		}
		if row.name == "pg" {
			want.Centred = f.Centred
		}
		if f == want {
			return row.name
		}
	}
	return ""
}

func rowOf(name string) groupRow {
	for _, row := range groupRows() {
		if row.name == name {
			return row
		}
	}
	return groupRow{}
}

// The following functions find the signature of a group from its points, without facts and names.

// pointsInSixths has, up to the lattice, all points whose numbers are sixths: the centres of all rotations
// are among them, and each mirror line runs through some of them.
func pointsInSixths(l impl.Lattice) []impl.Vec {
	var points []impl.Vec
	for x := range 6 * l.A {
		for y := range 6 * l.C {
			points = append(points, impl.Vec{X: x, Y: y})
		}
	}
	return points
}

func pointTaken(l impl.Lattice, m impl.Motion, v impl.Vec) impl.Vec {
	return classOf(l, plus(image(m.M, v), impl.Vec{X: 6 * m.T.X, Y: 6 * m.T.Y}), 6).numbers
}

// shortAxis has the least numbers of all vectors along the axis of a reflection.
func shortAxis(m impl.Mat) impl.Vec {
	for _, v := range boxVecs(2) {
		if compareVecs(v, impl.Vec{}) > 0 && image(m, v) == v {
			return v
		}
	}
	panic("no axis")
}

// spot tells of a point where the group takes it, how many rotations (the identity is one) do not move it,
// and the next points on the mirror lines through it.
type spot struct {
	orbit []impl.Vec
	turns int64
	next  []impl.Vec
}

func spotOf(l impl.Lattice, group []impl.Motion, v impl.Vec) spot {
	var at spot
	for _, m := range group {
		u := pointTaken(l, m, v)
		at.orbit = append(at.orbit, u)
		switch {
		case u == v && isMirrorMat(m.M):
			axis := shortAxis(m.M)
			at.next = append(at.next, classOf(l, plus(v, axis), 6).numbers, classOf(l, plus(v, negative(axis)), 6).numbers)
		case u == v:
			at.turns++
		}
	}
	return at
}

// countEdges counts the mirror lines where those count once that cross or that the group takes to each other.
func countEdges(spots map[impl.Vec]spot) int {
	count := 0
	seen := map[impl.Vec]bool{}
	var follow func(v impl.Vec)
	follow = func(v impl.Vec) {
		if seen[v] {
			return
		}
		seen[v] = true
		for _, u := range slices.Concat(spots[v].orbit, spots[v].next) {
			follow(u)
		}
	}
	for v, at := range spots {
		if len(at.next) > 0 && !seen[v] {
			follow(v)
			count++
		}
	}
	return count
}

// digitsOf has a digit for each class of centres, the greatest first: those on no mirror line, and the others.
func digitsOf(l impl.Lattice, spots map[impl.Vec]spot) (string, string) {
	var inside, onEdge []string
	for v, at := range spots {
		if at.turns == 1 || slices.ContainsFunc(at.orbit, func(u impl.Vec) bool { return compareVecs(u, v) < 0 }) {
			continue
		}
		digit := string(rune('0' + at.turns))
		if len(at.next) > 0 {
			onEdge = append(onEdge, digit)
		} else {
			inside = append(inside, digit)
		}
	}
	for _, digits := range [][]string{inside, onEdge} {
		slices.SortFunc(digits, func(a, b string) int { return cmp.Compare(b, a) })
	}
	return strings.Join(inside, ""), strings.Join(onEdge, "")
}

// signatureByPoints adds signs o or x to what it finds until the cost is 48.
func signatureByPoints(l impl.Lattice, group []impl.Motion) string {
	spots := map[impl.Vec]spot{}
	for _, v := range pointsInSixths(l) {
		spots[v] = spotOf(l, group, v)
	}
	inside, onEdge := digitsOf(l, spots)
	s := inside + strings.Repeat("*", countEdges(spots)) + onEdge
	rest := max(0, 48-plainCost(s))
	if slices.ContainsFunc(group, func(m impl.Motion) bool { return isMirrorMat(m.M) }) {
		return s + strings.Repeat("x", int(rest/24))
	}
	return strings.Repeat("o", int(rest/48)) + s
}

// plainCost expects a signature.
func plainCost(s string) int64 {
	cost := map[rune]int64{'o': 48, '*': 24, 'x': 24, '2': 12, '3': 16, '4': 18, '6': 20}
	behind := map[rune]int64{'o': 48, '*': 24, 'x': 24, '2': 6, '3': 8, '4': 9, '6': 10}
	sum := int64(0)
	for _, sign := range s {
		sum += cost[sign]
		if sign == '*' {
			cost = behind
		}
	}
	return sum
}

// standardMakers has the motions of the standard groups (chapter 13) of each frame.
func standardMakers(n int64) map[int64]map[string][]impl.Motion {
	half, flat, glide, far := motionWith(-1, 0, 0, -1, 0, 0), motionWith(1, 0, 0, -1, 0, 0), motionWith(1, 0, 0, -1, n, 0), motionWith(1, 0, 0, -1, n, n)
	swap, quarter := motionWith(0, 1, 1, 0, 0, 0), motionWith(0, -1, 1, 0, 0, 0)
	third, sixth, slant := motionWith(-1, -1, 1, 0, 0, 0), motionWith(0, -1, 1, 1, 0, 0), motionWith(1, 1, 0, -1, 0, 0)
	return map[int64]map[string][]impl.Motion{
		impl.FrameSquare: {
			"p1": nil, "p2": {half}, "pm": {flat}, "pg": {glide}, "cm": {swap}, "pmm": {flat, half}, "pmg": {glide, half}, "pgg": {far, half}, "cmm": {swap, half},
			"p4": {quarter}, "p4m": {quarter, flat}, "p4g": {quarter, far},
		},
		impl.FrameHexagonal: {"p3": {third}, "p3m1": {third, swap}, "p31m": {third, slant}, "p6": {sixth}, "p6m": {sixth, swap}},
	}
}

func checkNameOfGroup(t *testing.T, p plane, group []impl.Motion, want string, wantCode int64) {
	t.Helper()
	if name, code := impl.NameOfGroup(p.frame, p.l, group); name != want || code != wantCode {
		t.Errorf("NameOfGroup(%v, %s) = %q, %d, want %q, %d", p, plainListText(group), name, code, want, wantCode)
	}
}

func checkNameOfPattern(t *testing.T, p impl.Pattern, want string, wantCode int64) {
	t.Helper()
	if name, code := impl.NameOfPattern(p); name != want || code != wantCode {
		t.Errorf("NameOfPattern(%s) = %q, %d, want %q, %d", plainPatternText(p), name, code, want, wantCode)
	}
}

func checkNameOfFacts(t *testing.T, f impl.Facts, want string) {
	t.Helper()
	wantCode := int64(impl.ErrNone)
	if want == "" {
		wantCode = impl.ErrNotFound
	}
	if name, code := impl.NameOfFacts(f); name != want || code != wantCode {
		t.Errorf("NameOfFacts(%+v) = %q, %d, want %q, %d", f, name, code, want, wantCode)
	}
}

func checkCost(t *testing.T, s string, want int64, wantCode int64) {
	t.Helper()
	if cost, code := impl.SignatureCost(s); cost != want || code != wantCode {
		t.Errorf("SignatureCost(%.50q) = %d, %d, want %d, %d", s, cost, code, want, wantCode)
	}
}

func checkNoName(t *testing.T, s string) {
	t.Helper()
	if signature, code := impl.SignatureOf(s); signature != "" || code != impl.ErrNotFound {
		t.Errorf("SignatureOf(%.50q) = %q, %d", s, signature, code)
	}
	if n, code := impl.PointOrder(s); n != 0 || code != impl.ErrNotFound {
		t.Errorf("PointOrder(%.50q) = %d, %d", s, n, code)
	}
}

func checkNoSignature(t *testing.T, s string) {
	t.Helper()
	if name, code := impl.NameOfSignature(s); name != "" || code != impl.ErrNotFound {
		t.Errorf("NameOfSignature(%.50q) = %q, %d", s, name, code)
	}
}

// checkAllNames checks all that the document tells of the names.
func checkAllNames(t *testing.T) {
	t.Helper()
	names := impl.GroupNames()
	if len(names) != len(groupRows()) {
		t.Fatalf("GroupNames() = %q", names)
	}
	for i, row := range groupRows() {
		if names[i] != row.name {
			t.Errorf("GroupNames()[%d] = %q, want %q", i, names[i], row.name)
		}
		if s, code := impl.SignatureOf(row.name); s != row.signature || code != impl.ErrNone {
			t.Errorf("SignatureOf(%q) = %q, %d, want %q", row.name, s, code, row.signature)
		}
		if n, code := impl.PointOrder(row.name); n != row.pointOrder || code != impl.ErrNone {
			t.Errorf("PointOrder(%q) = %d, %d, want %d", row.name, n, code, row.pointOrder)
		}
		if name, code := impl.NameOfSignature(row.signature); name != row.name || code != impl.ErrNone {
			t.Errorf("NameOfSignature(%q) = %q, %d, want %q", row.signature, name, code, row.name)
		}
		checkCost(t, row.signature, 48, impl.ErrNone)
		checkNameOfFacts(t, row.facts, row.name)
	}
}

func TestNamesOfTheDocument(t *testing.T) { checkAllNames(t) }

// TestNamesAndSignatures checks with the program's own results that names and signatures undo each other.
func TestNamesAndSignatures(t *testing.T) {
	names, signatures := map[string]bool{}, map[string]bool{}
	for _, name := range impl.GroupNames() {
		s, one := impl.SignatureOf(name)
		back, two := impl.NameOfSignature(s)
		again, three := impl.SignatureOf(back)
		if back != name || again != s || one != impl.ErrNone || two != impl.ErrNone || three != impl.ErrNone {
			t.Errorf("the name %q, its signature %q: %q, %q, %d, %d, %d", name, s, back, again, one, two, three)
		}
		checkCost(t, s, 48, impl.ErrNone)
		names[name], signatures[s] = true, true
	}
	if len(names) != 17 || len(signatures) != 17 {
		t.Errorf("%d names, %d signatures", len(names), len(signatures))
	}
}

func TestNamesOfFewFacts(t *testing.T) {
	for _, c := range []struct {
		facts impl.Facts
		want  string
	}{
		// Along does not matter with mirrors, but for the names with Rotation 3.
		{impl.Facts{Rotation: 1, Mirrors: 1, Reflecting: 1, Along: true}, "pm"}, {impl.Facts{Rotation: 1, Mirrors: 1, Along: true}, "pg"}, {impl.Facts{Rotation: 1, Mirrors: 1, Reflecting: 1, Centred: 1, Along: true}, "cm"},
		{impl.Facts{Rotation: 2, Mirrors: 2, Reflecting: 2, Along: true}, "pmm"}, {impl.Facts{Rotation: 2, Mirrors: 2, Reflecting: 1, Along: true}, "pmg"}, {impl.Facts{Rotation: 2, Mirrors: 2, Along: true}, "pgg"}, {impl.Facts{Rotation: 2, Mirrors: 2, Reflecting: 2, Centred: 2, Along: true}, "cmm"},
		{impl.Facts{Rotation: 4, Mirrors: 4, Reflecting: 4, Centred: 2, Along: true}, "p4m"}, {impl.Facts{Rotation: 4, Mirrors: 4, Reflecting: 2, Centred: 2, Along: true}, "p4g"}, {impl.Facts{Rotation: 6, Mirrors: 6, Reflecting: 6, Centred: 6, Along: true}, "p6m"},
		{impl.Facts{Rotation: 3, Mirrors: 3, Reflecting: 3, Centred: 3}, "p3m1"}, {impl.Facts{Rotation: 3, Mirrors: 3, Reflecting: 3, Centred: 3, Along: true}, "p31m"},
		// The rule for pg does not ask for Centred.
		{impl.Facts{Rotation: 1, Mirrors: 1, Centred: 1}, "pg"}, {impl.Facts{Rotation: 1, Mirrors: 1, Centred: -7, Along: true}, "pg"}, {impl.Facts{Rotation: 1, Centred: 1}, ""}, {impl.Facts{Rotation: 1, Mirrors: 2, Centred: 1}, ""},
		{impl.Facts{}, ""}, {impl.Facts{Along: true}, ""}, {impl.Facts{Rotation: 5}, ""}, {impl.Facts{Rotation: -1}, ""}, {impl.Facts{Rotation: 8, Mirrors: 8, Reflecting: 8, Centred: 8}, ""}, {impl.Facts{Rotation: 12}, ""},
		{impl.Facts{Rotation: 1, Along: true}, ""}, {impl.Facts{Rotation: 2, Reflecting: 1}, ""}, {impl.Facts{Rotation: 3, Centred: 3}, ""}, {impl.Facts{Rotation: 4, Reflecting: 2, Centred: 2}, ""}, {impl.Facts{Rotation: 6, Along: true}, ""}, {impl.Facts{Rotation: 3, Along: true}, ""},
		{impl.Facts{Rotation: 1, Mirrors: 1, Reflecting: 1, Centred: 2}, ""}, {impl.Facts{Rotation: 1, Mirrors: 1, Reflecting: 2, Centred: 1}, ""}, {impl.Facts{Rotation: 1, Mirrors: 2, Reflecting: 2}, ""},
		{impl.Facts{Rotation: 2, Mirrors: 2, Reflecting: 2, Centred: 1}, ""}, {impl.Facts{Rotation: 2, Mirrors: 2, Reflecting: 1, Centred: 2}, ""}, {impl.Facts{Rotation: 2, Mirrors: 2, Centred: 2}, ""}, {impl.Facts{Rotation: 2, Mirrors: 1, Reflecting: 1}, ""}, {impl.Facts{Rotation: 2, Mirrors: 2, Reflecting: 3}, ""},
		{impl.Facts{Rotation: 4, Mirrors: 4, Reflecting: 4}, ""}, {impl.Facts{Rotation: 4, Mirrors: 4, Reflecting: 4, Centred: 4}, ""}, {impl.Facts{Rotation: 4, Mirrors: 4, Reflecting: 3, Centred: 2}, ""}, {impl.Facts{Rotation: 4, Mirrors: 4, Centred: 2}, ""}, {impl.Facts{Rotation: 4, Mirrors: 2, Reflecting: 2, Centred: 2}, ""},
		{impl.Facts{Rotation: 3, Mirrors: 3, Reflecting: 3}, ""}, {impl.Facts{Rotation: 3, Mirrors: 3, Reflecting: 2, Centred: 3, Along: true}, ""}, {impl.Facts{Rotation: 3, Mirrors: 6, Reflecting: 6, Centred: 6}, ""},
		{impl.Facts{Rotation: 6, Mirrors: 6, Reflecting: 6}, ""}, {impl.Facts{Rotation: 6, Mirrors: 6, Reflecting: 3, Centred: 6}, ""}, {impl.Facts{Rotation: 6, Mirrors: 3, Reflecting: 3, Centred: 3, Along: true}, ""},
		{impl.Facts{Rotation: 1, Mirrors: -1}, ""}, {impl.Facts{Rotation: 1, Mirrors: -1, Reflecting: -1, Centred: -1}, ""}, {impl.Facts{Rotation: -2, Mirrors: 2, Reflecting: 2}, ""}, {impl.Facts{Rotation: 2, Mirrors: 2, Reflecting: -1}, ""},
	} {
		checkNameOfFacts(t, c.facts, c.want)
		if want := nameInTable(c.facts); want != c.want {
			t.Errorf("the table has %q for %+v, want %q", want, c.facts, c.want)
		}
	}
}

// TestNamesOfAllFacts has all facts with small numbers, and counts how many have each name.
func TestNamesOfAllFacts(t *testing.T) {
	found := map[string]int{}
	for n := range int64(17 * 9 * 9 * 9 * 2) {
		f := impl.Facts{Rotation: n/1458 - 3, Mirrors: n/162%9 - 1, Reflecting: n/18%9 - 1, Centred: n/2%9 - 1, Along: n%2 == 1}
		want := nameInTable(f)
		checkNameOfFacts(t, f, want)
		found[want]++
	}
	for _, row := range groupRows() {
		want := 2
		switch {
		case row.facts.Mirrors == 0 || row.facts.Rotation == 3:
			want = 1
		case row.name == "pg":
			want = 18
		}
		if found[row.name] != want {
			t.Errorf("%d facts have the name %q, want %d", found[row.name], row.name, want)
		}
	}
}

// TestNamesOfChangedFacts has facts in which one or all numbers are great, negative, or become those of a
// name when they are cut off.
func TestNamesOfChangedFacts(t *testing.T) {
	for _, row := range groupRows() {
		for _, change := range []int64{1, -1, 8, 256, -256, 1 << 16, 1 << 32, -1 << 32, 1 << 62, math.MaxInt64 - 12, math.MinInt64, math.MinInt64 + 1} {
			for which := int64(1); which < 16; which++ {
				f := row.facts
				for i, number := range []*int64{&f.Rotation, &f.Mirrors, &f.Reflecting, &f.Centred} {
					if which>>i&1 == 1 {
						*number += change
					}
				}
				for _, along := range []bool{false, true} {
					f.Along = along
					checkNameOfFacts(t, f, nameInTable(f))
				}
			}
		}
		opposite := impl.Facts{Rotation: -row.facts.Rotation, Mirrors: -row.facts.Mirrors, Reflecting: -row.facts.Reflecting, Centred: -row.facts.Centred, Along: row.facts.Along}
		checkNameOfFacts(t, opposite, "")
	}
}

// groupCase is a group, told by motions that make it, with its name.
type groupCase struct {
	frame  int64
	l      impl.Lattice
	makers []string
	want   string
}

// groupCases has the names that occur in both frames with lattices of both.
func groupCases() []groupCase {
	const square, hexagonal = impl.FrameSquare, impl.FrameHexagonal
	const flat, half, quarter, swap, third, sixth = "1,0,0,-1;0,0", "-1,0,0,-1;0,0", "0,-1,1,0;0,0", "0,1,1,0;0,0", "-1,-1,1,0;0,0", "0,-1,1,1;0,0"
	return []groupCase{
		{square, impl.Lattice{A: 1, C: 1}, nil, "p1"}, {square, impl.Lattice{A: 8, C: 8}, nil, "p1"}, {hexagonal, impl.Lattice{A: 1, C: 1}, nil, "p1"}, {hexagonal, impl.Lattice{A: 64, B: 63, C: 1}, nil, "p1"},
		{square, impl.Lattice{A: 3, B: 1, C: 2}, []string{"-1,0,0,-1;2,1"}, "p2"}, {square, impl.Lattice{A: 1, C: 1}, []string{half}, "p2"}, {hexagonal, impl.Lattice{A: 7, B: 3, C: 9}, []string{"-1,0,0,-1;6,8"}, "p2"},
		{square, impl.Lattice{A: 4, C: 4}, []string{flat}, "pm"}, {square, impl.Lattice{A: 3, C: 2}, []string{"-1,0,0,1;1,0"}, "pm"}, {square, impl.Lattice{A: 2, B: 1, C: 1}, []string{swap}, "pm"}, {hexagonal, impl.Lattice{A: 2, C: 1}, []string{"-1,0,1,1;0,0"}, "pm"}, {hexagonal, impl.Lattice{A: 1, C: 2}, []string{"1,1,0,-1;0,0"}, "pm"},
		{square, impl.Lattice{A: 4, C: 4}, []string{"1,0,0,-1;2,0"}, "pg"}, {square, impl.Lattice{A: 4, C: 3}, []string{"1,0,0,-1;2,1"}, "pg"}, {square, impl.Lattice{A: 2, B: 1, C: 1}, []string{"0,1,1,0;1,0"}, "pg"}, {hexagonal, impl.Lattice{A: 2, C: 1}, []string{"1,0,-1,-1;1,0"}, "pg"},
		{square, impl.Lattice{A: 4, C: 4}, []string{swap}, "cm"}, {square, impl.Lattice{A: 2, B: 1, C: 3}, []string{"1,0,0,-1;0,3"}, "cm"}, {square, impl.Lattice{A: 4, C: 4}, []string{"0,1,1,0;1,3"}, "cm"}, {hexagonal, impl.Lattice{A: 2, C: 2}, []string{"1,1,0,-1;1,0"}, "cm"}, {hexagonal, impl.Lattice{A: 1, C: 1}, []string{"0,-1,-1,0;0,0"}, "cm"},
		{square, impl.Lattice{A: 5, C: 3}, []string{flat, half}, "pmm"}, {square, impl.Lattice{A: 4, C: 4}, []string{"1,0,0,-1;0,1", "-1,0,0,1;3,0"}, "pmm"}, {hexagonal, impl.Lattice{A: 2, C: 1}, []string{"-1,0,1,1;0,0", half}, "pmm"},
		{square, impl.Lattice{A: 4, C: 4}, []string{"1,0,0,-1;2,0", half}, "pmg"}, {square, impl.Lattice{A: 3, C: 2}, []string{"-1,0,0,1;0,1", half}, "pmg"}, {hexagonal, impl.Lattice{A: 2, C: 1}, []string{"-1,0,1,1;1,0", "-1,0,0,-1;1,0"}, "pmg"},
		{square, impl.Lattice{A: 4, C: 6}, []string{"1,0,0,-1;2,3", half}, "pgg"}, {square, impl.Lattice{A: 2, B: 1, C: 1}, []string{"0,1,1,0;1,0", half}, "pgg"}, {hexagonal, impl.Lattice{A: 2, C: 1}, []string{"-1,0,1,1;1,0", half}, "pgg"},
		{square, impl.Lattice{A: 4, C: 4}, []string{swap, half}, "cmm"}, {square, impl.Lattice{A: 2, B: 1, C: 1}, []string{flat, half}, "cmm"}, {hexagonal, impl.Lattice{A: 1, C: 1}, []string{swap, half}, "cmm"}, {hexagonal, impl.Lattice{A: 4, C: 4}, []string{"1,1,0,-1;0,0", half}, "cmm"},
		{square, impl.Lattice{A: 4, C: 4}, []string{quarter}, "p4"}, {square, impl.Lattice{A: 5, B: 2, C: 1}, []string{"0,1,-1,0;3,0"}, "p4"}, {square, impl.Lattice{A: 4, C: 4}, []string{quarter, flat}, "p4m"}, {square, impl.Lattice{A: 2, B: 1, C: 1}, []string{quarter, flat}, "p4m"},
		{square, impl.Lattice{A: 4, C: 4}, []string{quarter, "1,0,0,-1;2,2"}, "p4g"}, {square, impl.Lattice{A: 2, B: 1, C: 1}, []string{quarter, "0,1,1,0;1,0"}, "p4g"},
		{hexagonal, impl.Lattice{A: 4, C: 4}, []string{third}, "p3"}, {hexagonal, impl.Lattice{A: 7, B: 2, C: 1}, []string{"-1,-1,1,0;3,0"}, "p3"},
		{hexagonal, impl.Lattice{A: 4, C: 4}, []string{third, swap}, "p3m1"}, {hexagonal, impl.Lattice{A: 3, B: 1, C: 1}, []string{third, "1,1,0,-1;0,0"}, "p3m1"},
		{hexagonal, impl.Lattice{A: 4, C: 4}, []string{third, "1,1,0,-1;0,0"}, "p31m"}, {hexagonal, impl.Lattice{A: 3, B: 1, C: 1}, []string{third, swap}, "p31m"},
		{hexagonal, impl.Lattice{A: 7, B: 2, C: 1}, []string{sixth}, "p6"}, {hexagonal, impl.Lattice{A: 4, C: 4}, []string{sixth, swap}, "p6m"}, {hexagonal, impl.Lattice{A: 3, B: 1, C: 1}, []string{sixth, swap}, "p6m"},
		// These have so many cells that patterns need not have more symmetries.
		{square, impl.Lattice{A: 6, C: 4}, []string{"1,0,0,-1;3,0"}, "pg"}, {square, impl.Lattice{A: 8, C: 6}, []string{"1,0,0,-1;4,3", half}, "pgg"}, {square, impl.Lattice{A: 6, C: 6}, []string{"1,0,0,-1;3,3", half}, "pgg"}, {square, impl.Lattice{A: 12, B: 6, C: 3}, []string{"-1,0,0,-1;11,2"}, "p2"},
		{square, impl.Lattice{A: 8, C: 8}, []string{quarter, "1,0,0,-1;4,4"}, "p4g"}, {square, impl.Lattice{A: 6, C: 6}, []string{quarter, "1,0,0,-1;3,3"}, "p4g"}, {square, impl.Lattice{A: 10, B: 5, C: 5}, []string{quarter, "0,1,1,0;5,0"}, "p4g"},
		{hexagonal, impl.Lattice{A: 4, C: 8}, []string{"1,1,0,-1;0,4", half}, "pgg"}, {hexagonal, impl.Lattice{A: 6, B: 4, C: 4}, []string{"1,1,0,-1;2,2", half}, "pgg"}, {hexagonal, impl.Lattice{A: 6, B: 2, C: 8}, []string{"1,1,0,-1;1,4", half}, "pgg"}, {hexagonal, impl.Lattice{A: 4, C: 8}, []string{"1,1,0,-1;2,0"}, "pg"},
		{hexagonal, impl.Lattice{A: 6, C: 6}, []string{third, swap}, "p3m1"}, {hexagonal, impl.Lattice{A: 6, C: 6}, []string{third, "1,1,0,-1;0,0"}, "p31m"}, {hexagonal, impl.Lattice{A: 7, C: 7}, []string{sixth}, "p6"}, {hexagonal, impl.Lattice{A: 8, C: 8}, []string{sixth, swap}, "p6m"},
		// With these lattices, the axes of p3m1 and p31m change places, and the shortest vectors of the square frame are others.
		{hexagonal, impl.Lattice{A: 6, B: 2, C: 2}, []string{third, swap}, "p31m"}, {hexagonal, impl.Lattice{A: 9, B: 3, C: 3}, []string{third, swap}, "p31m"}, {hexagonal, impl.Lattice{A: 12, B: 4, C: 4}, []string{third, swap}, "p31m"},
		{hexagonal, impl.Lattice{A: 6, B: 2, C: 2}, []string{third, "1,1,0,-1;0,0"}, "p3m1"}, {hexagonal, impl.Lattice{A: 9, B: 3, C: 3}, []string{third, "1,1,0,-1;0,0"}, "p3m1"}, {hexagonal, impl.Lattice{A: 12, B: 4, C: 4}, []string{third, "1,1,0,-1;0,0"}, "p3m1"},
	}
}

func TestNamesOfGroups(t *testing.T) {
	for _, c := range groupCases() {
		p, group := plane{c.frame, c.l}, groupBy(c.l, c.makers...)
		checkNameOfGroup(t, p, group, c.want, impl.ErrNone)
		if s := signatureByPoints(c.l, group); s != rowOf(c.want).signature {
			t.Errorf("the points of %v, %q have %q, want %q", p, c.makers, s, rowOf(c.want).signature)
		}
	}
}

func TestNamesOfStandardGroups(t *testing.T) {
	for n := int64(1); n <= 4; n++ {
		count := 0
		for frame, groups := range standardMakers(n) {
			for name, makers := range groups {
				l := impl.Lattice{A: 2 * n, C: 2 * n}
				group := closedByProducts(l, makers)
				checkNameOfGroup(t, plane{frame, l}, group, name, impl.ErrNone)
				if order, code := impl.PointOrder(name); order != int64(len(group)) || code != impl.ErrNone {
					t.Errorf("PointOrder(%q) = %d, %d, but there are %d motions", name, order, code, len(group))
				}
				count++
			}
		}
		if count != 17 {
			t.Errorf("%d standard groups", count)
		}
	}
}

// checkName compares with the signature that the points of a group have, and with the program's own facts,
// and returns the name. It expects a group without shifts.
func checkName(t *testing.T, p plane, group []impl.Motion) string {
	t.Helper()
	name, code := impl.NameOfGroup(p.frame, p.l, group)
	signature, other := impl.SignatureOf(name)
	if want := signatureByPoints(p.l, group); code != impl.ErrNone || signature != want || other != impl.ErrNone {
		t.Errorf("NameOfGroup(%v, %s) = %q, %d, with the signature %q, %d, want %q", p, plainListText(group), name, code, signature, other, want)
	}
	facts, _ := impl.FactsOf(p.frame, p.l, group)
	if want, other := impl.NameOfFacts(facts); name != want || other != impl.ErrNone || nameInTable(facts) != name {
		t.Errorf("NameOfGroup(%v, %s) = %q, but NameOfFacts(%+v) = %q, %d", p, plainListText(group), name, facts, want, other)
	}
	if order, code := impl.PointOrder(name); order != int64(len(matsOf(group))) || code != impl.ErrNone {
		t.Errorf("PointOrder(%q) = %d, %d, but %v has %d matrices", name, order, code, group, len(matsOf(group)))
	}
	return name
}

// nameCount counts the names found in each frame.
type nameCount map[int64]map[string]int

func newNameCount() nameCount {
	return nameCount{impl.FrameSquare: {}, impl.FrameHexagonal: {}}
}

// checkAllFound checks that each name was found often enough in each frame in which it may be.
func (count nameCount) checkAllFound(t *testing.T, least int) {
	t.Helper()
	for _, row := range groupRows() {
		frames := bothFrames()
		switch row.facts.Rotation {
		case 4:
			frames = []int64{impl.FrameSquare}
		case 3, 6:
			frames = []int64{impl.FrameHexagonal}
		}
		for _, frame := range frames {
			if count[frame][row.name] < least {
				t.Errorf("%q was found %d times in the frame %d", row.name, count[frame][row.name], frame)
			}
		}
	}
}

func TestNamesOfManyGroups(t *testing.T) {
	count, withShifts := newNameCount(), 0
	check := func(p plane, groups [][]impl.Motion) {
		for _, group := range groups {
			if shiftCount(group) > 1 {
				checkNameOfGroup(t, p, group, "", impl.ErrState)
				withShifts++
				continue
			}
			count[p.frame][checkName(t, p, group)]++
		}
	}
	for _, p := range fewPlanes() {
		check(p, groupsOf(p))
	}
	for i, p := range somePlanes() {
		groups := glidingGroups(p)
		for len(groups) > 12 && p.l.A*p.l.C > 12 {
			groups = slices.Delete(groups, i%len(groups), i%len(groups)+1)
		}
		check(p, groups)
	}
	for _, p := range greatPlanes() {
		check(p, someGroups(p))
	}
	for _, l := range []impl.Lattice{{A: 2, C: 1}, {A: 4, C: 2}, {A: 2, B: 1, C: 4}} {
		p := plane{impl.FrameHexagonal, l}
		check(p, groupsOf(p))
	}
	count.checkAllFound(t, 5)
	if withShifts < 500 {
		t.Errorf("only %d groups with shifts", withShifts)
	}
}

func TestNamesOfPatterns(t *testing.T) {
	for _, c := range []struct{ p, want string }{
		{"S 1,0,1 0", "p4m"}, {"S 8,3,8 " + strings.Repeat("9", 64), "p4m"}, {"H 1,0,1 3", "p6m"}, {"H 64,63,1 " + strings.Repeat("1", 64), "p6m"},
		{"S 5,2,1 02210", "p1"}, {"S 5,2,1 53149", "p1"}, {"S 3,1,2 000111", "p1"}, {"S 2,0,1 12", "pmm"}, {"H 2,0,3 001011", "p1"}, {"H 7,2,1 0123456", "p1"}, {"H 2,1,3 977247", "p1"},
		{"S 5,2,1 00011", "p2"}, {"S 5,3,1 00110", "p2"}, {"S 5,2,1 01221", "p2"}, {"H 2,0,3 000001", "p2"}, {"H 2,0,3 011055", "p2"},
		{"S 1,0,3 012", "pm"}, {"S 3,0,1 012", "pm"}, {"S 1,0,4 0012", "pm"}, {"H 1,0,4 0012", "pm"}, {"H 2,1,2 6117", "pm"},
		{"S 3,0,4 978585973232", "pg"}, {"S 4,0,3 220102202120", "pg"}, {"H 3,1,4 012120011110", "pg"}, {"H 3,1,4 978788932328", "pg"},
		{"S 3,1,1 012", "cm"}, {"S 3,0,3 012120201", "cm"}, {"S 2,1,2 0123", "cm"}, {"H 1,0,3 012", "cm"}, {"H 3,0,1 012", "cm"},
		{"S 1,0,2 01", "pmm"}, {"S 4,0,1 0121", "pmm"}, {"S 2,0,2 0101", "pmm"}, {"S 2,0,2 0123", "pmm"}, {"H 1,0,2 01", "pmm"}, {"H 2,0,1 01", "pmm"},
		{"S 4,1,1 0011", "pmg"}, {"S 4,1,1 1551", "pmg"}, {"H 1,0,4 0011", "pmg"}, {"H 1,0,4 2200", "pmg"},
		{"H 12,4,1 101202202101", "pgg"}, {"S 3,1,1 001", "cmm"}, {"S 3,2,1 070", "cmm"}, {"S 2,0,2 0010", "p4m"}, {"H 1,0,3 001", "cmm"}, {"H 3,0,1 011", "cmm"}, {"H 2,0,2 1000", "p6m"},
		{"S 5,2,1 01111", "p4"}, {"S 5,2,1 11101", "p4"}, {"S 5,3,1 11611", "p4"}, {"S 2,0,2 0110", "p4m"}, {"S 2,1,1 01", "p4m"}, {"S 4,0,4 1861168181166118", "p4g"},
		{"H 7,2,1 0112122", "p3"}, {"H 7,2,1 5540050", "p3"}, {"H 3,1,1 012", "p3m1"}, {"H 3,1,1 421", "p3m1"}, {"H 3,0,3 012201120", "p3m1"}, {"H 3,0,3 110001100", "p31m"}, {"H 3,0,3 490099904", "p31m"}, {"H 9,3,3 105055554150550554155555004", "p31m"}, {"H 6,2,2 034254239234", "p3m1"},
		{"H 7,2,1 0111111", "p6"}, {"H 7,2,1 5555955", "p6"}, {"H 3,1,1 011", "p6m"}, {"H 4,0,2 10001000", "p6m"},
		// These are not lean. Quarter turns keep the lattice and not the pattern, or the other way round, in most of them.
		{"S 4,0,1 0101", "pmm"}, {"S 4,0,4 0101010101010101", "pmm"}, {"S 2,0,4 01011010", "p4m"}, {"S 6,0,1 012012", "pm"}, {"S 4,0,2 01100110", "p4m"},
	} {
		p := patternOf(c.p)
		checkNameOfPattern(t, p, c.want, impl.ErrNone)
		lean := leanBySearch(p)
		if s := signatureByPoints(lean.Lattice, groupByTrying(lean, lean.Lattice)); s != rowOf(c.want).signature {
			t.Errorf("the points of %q have %q, want %q", c.p, s, rowOf(c.want).signature)
		}
	}
}

// groupCasePatterns paints the groups, a few times each, so that all names occur.
func groupCasePatterns() []impl.Pattern {
	var list []impl.Pattern
	next := scatter(12)
	for _, c := range groupCases() {
		group := groupBy(c.l, c.makers...)
		for _, k := range []int64{2, 4, 10, 10} {
			list = append(list, paintedPattern(plane{c.frame, c.l}, group, k, next))
		}
	}
	return list
}

// checkNameOfMoved checks that moving, spreading and making lean change no name.
func checkNameOfMoved(t *testing.T, p impl.Pattern, name string) {
	t.Helper()
	mats := pointMatsOf(p.Frame)
	for i, v := range []impl.Vec{{}, {X: 1, Y: -2}, {X: -1000, Y: 999}} {
		moved, code := impl.MovePattern(p, impl.Motion{M: mats[(i*3+len(p.Colours))%len(mats)], T: v})
		if code != impl.ErrNone {
			t.Fatalf("MovePattern(%v): code %d", p, code)
		}
		checkNameOfPattern(t, moved, name, impl.ErrNone)
	}
	lean, _ := impl.LeanPattern(p)
	checkNameOfPattern(t, lean, name, impl.ErrNone)
	l := lean.Lattice
	for _, wide := range []impl.Lattice{{A: 2 * l.A, B: l.B, C: l.C}, {A: l.A, B: 3 * l.B % l.A, C: 3 * l.C}} {
		if spread, code := impl.SpreadPattern(lean, wide); code == impl.ErrNone {
			checkNameOfPattern(t, spread, name, impl.ErrNone)
		}
	}
}

// TestPatternsHaveNames checks promise 12: the group of each pattern has a name, which is that of its points.
func TestPatternsHaveNames(t *testing.T) {
	count := newNameCount()
	for i, p := range slices.Concat(smallPatterns(), greatPatterns(), everyLattice(), repeatedPatterns(), paintedPatterns(), spreadPatterns(), groupCasePatterns()) {
		lean := leanBySearch(p)
		name := checkName(t, plane{lean.Frame, lean.Lattice}, groupByTrying(lean, lean.Lattice))
		checkNameOfPattern(t, p, name, impl.ErrNone)
		count[p.Frame][name]++
		full, _ := impl.FullLattice(p)
		group, _ := impl.GroupOfPattern(p)
		checkNameOfGroup(t, plane{p.Frame, full}, group, name, impl.ErrNone)
		if s, _ := impl.SignatureOf(name); !slices.Contains(impl.GroupNames(), name) || plainCost(s) != 48 {
			t.Errorf("NameOfPattern(%s) = %q, with the signature %q", plainPatternText(p), name, s)
		}
		if i%5 == 0 {
			checkNameOfMoved(t, p, name)
		}
	}
	count.checkAllFound(t, 5)
}

// TestNamesOfShiftedGroups checks that names do not depend on where the motions' points are.
func TestNamesOfShiftedGroups(t *testing.T) {
	for _, c := range groupCases() {
		p, group := plane{c.frame, c.l}, groupBy(c.l, c.makers...)
		for _, v := range []impl.Vec{{X: 1}, {Y: 1}, {X: -3, Y: 2}, {X: 1000, Y: -1000}} {
			shifted, code := impl.ShiftedGroup(c.frame, c.l, group, v)
			if code != impl.ErrNone {
				t.Fatalf("ShiftedGroup(%v, %v, %v): code %d", p, group, v, code)
			}
			checkNameOfGroup(t, p, shifted, c.want, impl.ErrNone)
		}
	}
}

func TestCostsOfFewSignatures(t *testing.T) {
	for _, c := range []struct {
		s    string
		want int64
	}{
		{"", 0}, {"o", 48}, {"*", 24}, {"x", 24}, {"2", 12}, {"3", 16}, {"4", 18}, {"6", 20}, {"*2", 30}, {"*3", 32}, {"*4", 33}, {"*6", 34},
		{"2*", 36}, {"3*", 40}, {"4*", 42}, {"6*", 44}, {"2*2", 42}, {"6*6", 54}, {"346*346", 105}, {"**2", 54}, {"*2*2", 60}, {"2**2", 66}, {"2*2*2", 72}, {"6*3*4*2", 115}, {"*2*3*4*6", 129},
		{"o2", 60}, {"2o", 60}, {"x3", 40}, {"3x", 40}, {"ox", 72}, {"xo", 72}, {"o*", 72}, {"*o", 72}, {"*x", 48}, {"x*", 48}, {"*xo", 96}, {"ox*", 96}, {"*x2", 54}, {"*o2", 78}, {"x*2", 54}, {"2x*", 60}, {"2o*x4", 117}, {"xx*22oo33", 196},
		{"oo", 96}, {"xx", 48}, {"xxx", 72}, {"632*632", 96}, {"222222", 72}, {"*222222", 60}, {"236", 48}, {"*246", 49}, {"642", 50},
		{strings.Repeat("o", 20), 960}, {strings.Repeat("*", 20), 480}, {strings.Repeat("x", 20), 480}, {strings.Repeat("2", 20), 240}, {strings.Repeat("3", 20), 320}, {strings.Repeat("4", 20), 360}, {strings.Repeat("6", 20), 400},
		{"*" + strings.Repeat("2", 19), 138}, {"*" + strings.Repeat("3", 19), 176}, {"*" + strings.Repeat("4", 19), 195}, {"*" + strings.Repeat("6", 19), 214}, {strings.Repeat("6", 19) + "*", 404}, {"o*x2346o*x2346o*x234", 377}, {strings.Repeat("o", 19), 912},
	} {
		checkCost(t, c.s, c.want, impl.ErrNone)
		if want := plainCost(c.s); want != c.want {
			t.Errorf("plainCost(%q) = %d, want %d", c.s, want, c.want)
		}
	}
}

// shortSignatures has all signatures of at most n signs.
func shortSignatures(n int) []string {
	list := []string{""}
	for i := 0; i < len(list) && len(list[i]) < n; i++ {
		for _, sign := range "o*x2346" {
			list = append(list, list[i]+string(sign))
		}
	}
	return list
}

// TestCostsOfAllSignatures has all short signatures and scattered ones of all lengths, and checks that just
// those of the names have names. Others of the cost 48 are among them.
func TestCostsOfAllSignatures(t *testing.T) {
	list := shortSignatures(5)
	next := scatter(3)
	for i := range 4000 {
		s := ""
		for range i % 21 {
			s += string("o*x2346"[next(7)])
		}
		list = append(list, s)
	}
	named, other := map[string]bool{}, 0
	for _, s := range list {
		checkCost(t, s, plainCost(s), impl.ErrNone)
		name, code := impl.NameOfSignature(s)
		if code == impl.ErrNone {
			named[name] = true
			if row := rowOf(name); row.signature != s || name == "" {
				t.Errorf("NameOfSignature(%q) = %q", s, name)
			}
			continue
		}
		checkNoSignature(t, s)
		if plainCost(s) == 48 {
			other++
		}
	}
	if len(named) != 17 || other < 20 {
		t.Errorf("the signatures of %d names, %d others of the cost 48", len(named), other)
	}
}

// TestCostsOfOtherStrings has strings that are too long, and ones with any other byte at any place.
func TestCostsOfOtherStrings(t *testing.T) {
	for _, sign := range "o*x2346" {
		for _, n := range []int{21, 22, 40, 256 + 3, 1 << 16, 1<<20 + 1} {
			s := strings.Repeat(string(sign), n)
			checkCost(t, s, 0, impl.ErrSyntax)
			checkNoSignature(t, s)
		}
	}
	for _, s := range []string{"", "o", "2222", "*632", "22x", "2*22", "o*x2346o*x2346o*x23", strings.Repeat("6", 20)} {
		for i := range len(s) + 1 {
			for b := range 256 {
				changed := s[:i] + string([]byte{byte(b)}) + s[i:]
				switch {
				case strings.IndexByte("o*x2346", byte(b)) < 0, len(changed) > 20:
					checkCost(t, changed, 0, impl.ErrSyntax)
					checkNoSignature(t, changed)
				default:
					checkCost(t, changed, plainCost(changed), impl.ErrNone)
				}
			}
		}
	}
	for _, s := range []string{"25", "0", "1", "5", "7", "8", "9", "*1", "5*", "O", "X", "0222", "2 2", " o", "o ", "o\n", "*\x00", "-2", "2,2", "+", "\u00d7", "\u043e", "\uff12", "2\u2217", "\xff", "p1", "*642.", "\u0660", "\u4e8c", strings.Repeat("o", 20) + "\x00", strings.Repeat("7", 21), strings.Repeat("\u043e", 10)} {
		checkCost(t, s, 0, impl.ErrSyntax)
		checkNoSignature(t, s)
	}
}

// otherNames has no name, but many strings that are like one.
func otherNames() []string {
	list := []string{"", " ", "p", "P", "p5", "p7", "p8", "p12", "p0", "p-1", "m", "g", "mm", "c", "c1", "c2", "cg", "cgg", "cmg", "cmmm", "pmmm", "p1m", "p1g", "p2m", "p2mm", "p2mg", "p2gg", "c2mm", "p11m", "p11g", "p1m1", "p4mm", "p4gm", "p31", "p3m", "p31m1", "p3m1m", "p13m", "p6mm", "p6g", "p1p2", "p1,p2", "p1\x00", "\x00p1", "\xff", "p\uff11", "\u0440" + "1", "unit", "none"}
	for _, row := range groupRows() {
		list = append(list, strings.ToUpper(row.name), strings.ToUpper(row.name[:1])+row.name[1:], row.name+" ", " "+row.name, row.name+"\n", "\t"+row.name, row.name+"\x00", row.name+row.name, row.name[:len(row.name)-1]+" "+row.name[len(row.name)-1:], row.signature, strings.Repeat(row.name, 1000))
		list = append(list, changesOf(row.name, "pcmg12346 PM")...)
	}
	return slices.DeleteFunc(list, func(s string) bool { return rowOf(s).name != "" })
}

func TestOtherNames(t *testing.T) {
	if len(otherNames()) < 500 {
		t.Fatalf("only %d other names", len(otherNames()))
	}
	for _, s := range otherNames() {
		checkNoName(t, s)
	}
}

// TestOtherSignatures has signatures that no name has, and strings that are none.
func TestOtherSignatures(t *testing.T) {
	list := []string{"", "x*", "xo", "oo", "*", "x", "2", "244", "424", "*244", "*424", "236", "326", "*236", "*326", "*263", "263", "623", "3*33", "33*", "333*", "22*2", "2*2", "222", "22222", "*222", "*22222", "2*222", "22*2", "*22*", "x22", "*xx", "**x", "*2222*", "4*22", "4*4", "6*3", "*643", "*6", "O", "X", "o ", " o", "*632\n", "2222\x00", "s", "00", "\u2217632"}
	for _, row := range groupRows() {
		list = append(list, row.name, row.signature+" ", " "+row.signature, row.signature+row.signature, "*"+row.signature, strings.Repeat(row.signature, 1000))
		list = append(list, changesOf(row.signature, "o*x2346 5O")...)
	}
	isNamed := func(s string) bool {
		return slices.ContainsFunc(groupRows(), func(row groupRow) bool { return row.signature == s })
	}
	checked := 0
	for _, s := range list {
		if !isNamed(s) {
			checkNoSignature(t, s)
			checked++
		}
	}
	if checked < 500 {
		t.Errorf("only %d other signatures", checked)
	}
}

func TestNamesOfGroupsWithShifts(t *testing.T) {
	for _, c := range groupCases() {
		p, group := plane{c.frame, c.l}, groupBy(c.l, c.makers...)
		if c.l.A*c.l.C == 1 {
			continue
		}
		for _, shift := range []impl.Vec{{X: c.l.A - 1, Y: c.l.C - 1}, {X: c.l.A / 2, Y: c.l.C / 2}} {
			wide := closedByProducts(c.l, append(slices.Clone(group), impl.Motion{M: unitMat, T: shift}))
			if shiftCount(wide) > 1 {
				checkNameOfGroup(t, p, wide, "", impl.ErrState)
			}
			if len(wide) > 2 {
				// Without its first motion it is no group, which comes before its shifts.
				checkNameOfGroup(t, p, wide[1:], "", impl.ErrRange)
			}
		}
	}
	for _, p := range slices.Concat(fewPlanes(), greatPlanes()) {
		if all := allMotions(p.frame, p.l); p.l.A*p.l.C > 1 {
			checkNameOfGroup(t, p, all, "", impl.ErrState)
		}
		checkNameOfGroup(t, p, []impl.Motion{identity}, "p1", impl.ErrNone)
	}
}

func TestNamesOfNoGroups(t *testing.T) {
	for _, p := range slices.Concat(fewPlanes(), greatPlanes()) {
		for i, group := range someGroups(p) {
			if len(group) > 64 || i%2 == 0 && i > 4 {
				continue
			}
			for _, list := range brokenGroups(p, group) {
				checkNameOfGroup(t, p, list, "", impl.ErrRange)
			}
		}
		// A list with a shift that is no group: ErrRange comes before ErrState.
		cells := plainCells(p.l)
		if last := (impl.Motion{M: unitMat, T: cells[len(cells)-1]}); len(closedByProducts(p.l, []impl.Motion{last})) > 2 {
			checkNameOfGroup(t, p, []impl.Motion{identity, last}, "", impl.ErrRange)
		}
	}
}

// TestNamesOfWrongPlanes has other arguments that are wrong, too, as ErrInvalid comes first.
func TestNamesOfWrongPlanes(t *testing.T) {
	var planes []plane
	for _, frame := range append(wrongFrames(), bothFrames()...) {
		for _, l := range wrongLattices() {
			planes = append(planes, plane{frame, l})
		}
	}
	for _, frame := range wrongFrames() {
		for _, l := range []impl.Lattice{{A: 1, C: 1}, {A: 2, B: 1, C: 1}, {A: 8, C: 8}} {
			planes = append(planes, plane{frame, l})
		}
	}
	lists := [][]impl.Motion{nil, {}, {identity}, {identity, identity}, {motionWith(-1, 0, 0, -1, 0, 0), identity}, {identity, motionWith(1, 0, 0, 1, 1, 0)}, {{}}, {motionWith(1, 0, 0, 1, 1001, 0)}, {motionWith(math.MinInt64, 0, 0, 1, 0, 0), identity}}
	for _, p := range planes {
		for _, list := range lists {
			checkNameOfGroup(t, p, list, "", impl.ErrInvalid)
		}
	}
}

func TestNamesOfWrongPatterns(t *testing.T) {
	for _, w := range wrongPatterns() {
		if name, code := impl.NameOfPattern(w); name != "" || code != impl.ErrInvalid {
			t.Errorf("NameOfPattern(%v) = %q, %d", w, name, code)
		}
	}
}

// TestNamesOwnTheirMemory overwrites the names, and checks all functions that tell names then.
func TestNamesOwnTheirMemory(t *testing.T) {
	checkIsNew(t, "GroupNames", impl.GroupNames, "p7")
	for range 3 {
		first, second := impl.GroupNames(), impl.GroupNames()
		overwrite(first, "pmm")
		if slices.Contains(second, "") || second[0] != "p1" || second[16] != "p6m" {
			t.Errorf("GroupNames() = %q", second)
		}
		checkAllNames(t)
		for _, s := range []string{"S 1,0,1 0 p4m", "S 3,0,1 012 pm", "H 3,1,1 012 p3m1"} {
			i := strings.LastIndex(s, " ")
			checkNameOfPattern(t, patternOf(s[:i]), s[i+1:], impl.ErrNone)
		}
	}
}

func TestNamesChangeNoArguments(t *testing.T) {
	for _, c := range groupCases() {
		group := groupBy(c.l, c.makers...)
		for _, list := range [][]impl.Motion{group, append(slices.Clone(group), identity), group[1:]} {
			checkIsKept(t, "NameOfGroup", list, func(s []impl.Motion) { impl.NameOfGroup(c.frame, c.l, s) })
		}
	}
	for _, p := range slices.Concat(somePatterns(), groupCasePatterns()) {
		checkColoursAreKept(t, "NameOfPattern", p, func(q impl.Pattern) { impl.NameOfPattern(q) })
	}
}

// TestNamesKeepNoState calls with wrong and with other arguments in between.
func TestNamesKeepNoState(t *testing.T) {
	for range 3 {
		for i, c := range groupCases() {
			checkNameOfGroup(t, plane{c.frame, c.l}, groupBy(c.l, c.makers...), c.want, impl.ErrNone)
			row := groupRows()[i%17]
			checkNameOfFacts(t, row.facts, row.name)
			checkNameOfFacts(t, impl.Facts{Rotation: 5}, "")
			checkCost(t, "*5", 0, impl.ErrSyntax)
			checkCost(t, "2", 12, impl.ErrNone)
			checkNoName(t, row.signature)
		}
		checkAllNames(t)
	}
}
