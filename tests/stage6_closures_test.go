package tests

import (
	"cmp"
	"math"
	"slices"
	"strings"
	"testing"

	"loop.example/g00943/impl"
)

// The following functions say by the definitions what the program should find. They do not ask it.

func isSuitableByDefinition(frame int64, l impl.Lattice, m impl.Motion) bool {
	return slices.Contains(pointMatsOf(frame), m.M) && keepsLattice(m.M, l) && isLimitedVec(m.T)
}

func cellOf(l impl.Lattice, v impl.Vec) impl.Vec {
	for x := range l.A {
		for y := range l.C {
			if hasVec(l, impl.Vec{X: v.X - x, Y: v.Y - y}) {
				return impl.Vec{X: x, Y: y}
			}
		}
	}
	panic("no cell")
}

func reducedMotion(l impl.Lattice, m impl.Motion) impl.Motion {
	return impl.Motion{M: m.M, T: cellOf(l, m.T)}
}

func compareMotions(m impl.Motion, n impl.Motion) int {
	return cmp.Or(cmp.Compare(m.M.A, n.M.A), cmp.Compare(m.M.B, n.M.B), cmp.Compare(m.M.C, n.M.C), cmp.Compare(m.M.D, n.M.D),
		cmp.Compare(m.T.X, n.T.X), cmp.Compare(m.T.Y, n.T.Y))
}

func isStrictlyIncreasing(list []impl.Motion) bool {
	for i := 1; i < len(list); i++ {
		if compareMotions(list[i-1], list[i]) >= 0 {
			return false
		}
	}
	return true
}

// isClosed looks at all pairs, and expects reduced motions.
func isClosed(l impl.Lattice, list []impl.Motion) bool {
	known := map[impl.Motion]bool{}
	for _, m := range list {
		known[m] = true
	}
	for _, m := range list {
		for _, n := range list {
			if !known[reducedMotion(l, composed(m, n))] {
				return false
			}
		}
	}
	return known[identity]
}

func isGroupByDefinition(frame int64, l impl.Lattice, list []impl.Motion) bool {
	for _, m := range list {
		if !isSuitableByDefinition(frame, l, m) || reducedMotion(l, m) != m {
			return false
		}
	}
	return isStrictlyIncreasing(list) && isClosed(l, list)
}

// closedByProducts multiplies by the motions of the list until nothing new is found. Tests check with
// isClosed that it finds groups.
func closedByProducts(l impl.Lattice, list []impl.Motion) []impl.Motion {
	known := map[impl.Motion]bool{identity: true}
	group := []impl.Motion{identity}
	add := func(m impl.Motion) {
		if m = reducedMotion(l, m); !known[m] {
			known[m] = true
			group = append(group, m)
		}
	}
	for i := 0; i < len(group); i++ {
		for _, m := range list {
			add(composed(group[i], m))
		}
	}
	slices.SortFunc(group, compareMotions)
	return group
}

// allMotions has all reduced suitable motions, in order: the greatest group of a lattice.
func allMotions(frame int64, l impl.Lattice) []impl.Motion {
	var list []impl.Motion
	for _, m := range pointMatsOf(frame) {
		if !keepsLattice(m, l) {
			continue
		}
		for x := range l.A {
			for y := range l.C {
				list = append(list, impl.Motion{M: m, T: impl.Vec{X: x, Y: y}})
			}
		}
	}
	return list
}

// plane is a frame with a lattice.
type plane struct {
	frame int64
	l     impl.Lattice
}

// fewPlanes has lattices with one cell and with several that many, some or just two matrices keep.
func fewPlanes() []plane {
	var planes []plane
	for _, l := range []impl.Lattice{{A: 1, C: 1}, {A: 2, B: 1, C: 1}, {A: 3, C: 1}, {A: 1, C: 4}, {A: 2, C: 2}, {A: 3, B: 1, C: 1}, {A: 5, B: 2, C: 1}, {A: 2, B: 1, C: 3}, {A: 7, B: 2, C: 1}, {A: 3, C: 3}} {
		planes = append(planes, plane{impl.FrameSquare, l}, plane{impl.FrameHexagonal, l})
	}
	return planes
}

// greatPlanes have the index MaxIndex, and the greatest groups of both frames are among theirs.
func greatPlanes() []plane {
	var planes []plane
	for _, l := range []impl.Lattice{{A: 8, C: 8}, {A: 64, B: 63, C: 1}, {A: 1, C: 64}, {A: 16, B: 4, C: 4}, {A: 64, B: 2, C: 1}} {
		planes = append(planes, plane{impl.FrameSquare, l}, plane{impl.FrameHexagonal, l})
	}
	return planes
}

// groupsOf has the groups that the closures of one and of two motions give, each once.
func groupsOf(p plane) [][]impl.Motion {
	var groups [][]impl.Motion
	seen := map[string]bool{}
	all := allMotions(p.frame, p.l)
	for i, m := range all {
		for _, n := range all[i:] {
			group := closedByProducts(p.l, []impl.Motion{m, n})
			if text := plainListText(group); !seen[text] {
				seen[text] = true
				groups = append(groups, group)
			}
		}
	}
	return groups
}

func plainListText(list []impl.Motion) string {
	var texts []string
	for _, m := range list {
		texts = append(texts, plainMotionText(m))
	}
	return strings.Join(texts, " ")
}

// unsuitableMotions has a motion for each way not to be suitable: the matrix is of the other frame or
// of none, does not keep the lattice or is not valid, or the vector is not valid.
func unsuitableMotions(p plane) []impl.Motion {
	mats := slices.Concat(pointMatsOf(1-p.frame), pointMatsOf(p.frame), greatMats()[:4], otherMats()[:4], wrongMats(), wrappingMats())
	list := motionsOf(mats, []impl.Vec{{}, {X: 1000, Y: -1000}})
	list = slices.Concat(list, motionsOf([]impl.Mat{unitMat, {A: -1, D: -1}, {}}, wrongVecs()))
	return slices.DeleteFunc(list, func(m impl.Motion) bool { return isSuitableByDefinition(p.frame, p.l, m) })
}

// brokenGroups has lists that are no groups as they lack a motion, have one twice, have two out of
// order, or have one that is not reduced or not suitable.
func brokenGroups(p plane, group []impl.Motion) [][]impl.Motion {
	lists := [][]impl.Motion{nil}
	// Of great groups, some motions are enough.
	step := len(group)/12 + 1
	for i, m := range group {
		if i%step != 0 && m != identity {
			continue
		}
		lists = append(lists, slices.Insert(slices.Clone(group), i, m))
		if len(group) > 2 || m == identity {
			lists = append(lists, slices.Delete(slices.Clone(group), i, i+1))
		}
		if i > 0 {
			swapped := slices.Clone(group)
			swapped[i-1], swapped[i] = swapped[i], swapped[i-1]
			lists = append(lists, swapped)
		}
		for _, v := range []impl.Vec{{X: p.l.A}, {X: -p.l.A}, {X: p.l.B, Y: p.l.C}, {X: -p.l.B, Y: -p.l.C}, {X: 1001}, {Y: math.MaxInt64 - 64}} {
			moved := slices.Clone(group)
			moved[i].T = impl.Vec{X: m.T.X + v.X, Y: m.T.Y + v.Y}
			lists = append(lists, moved)
		}
	}
	for _, m := range unsuitableMotions(p)[:2] {
		lists = append(lists, []impl.Motion{m}, append(slices.Clone(group), m), append([]impl.Motion{m}, group...))
	}
	return lists
}

func TestIsSuitable(t *testing.T) {
	for _, c := range []struct {
		frame int64
		l     impl.Lattice
		m     impl.Motion
		want  bool
	}{
		{impl.FrameSquare, impl.Lattice{A: 1, C: 1}, motionWith(0, -1, 1, 0, 0, 0), true},
		{impl.FrameHexagonal, impl.Lattice{A: 1, C: 1}, motionWith(0, -1, 1, 0, 0, 0), false},
		{impl.FrameSquare, impl.Lattice{A: 1, C: 1}, motionWith(0, -1, 1, 1, 0, 0), false},
		{impl.FrameHexagonal, impl.Lattice{A: 1, C: 1}, motionWith(0, -1, 1, 1, 0, 0), true},
		{impl.FrameSquare, impl.Lattice{A: 3, C: 2}, motionWith(0, -1, 1, 0, 0, 0), false},
		{impl.FrameSquare, impl.Lattice{A: 3, C: 2}, motionWith(1, 0, 0, -1, 5, -7), true},
		{impl.FrameSquare, impl.Lattice{A: 5, B: 2, C: 1}, motionWith(0, -1, 1, 0, 3, 3), true},
		{impl.FrameSquare, impl.Lattice{A: 5, B: 2, C: 1}, motionWith(1, 0, 0, -1, 0, 0), false},
		{impl.FrameSquare, impl.Lattice{A: 5, B: 2, C: 1}, motionWith(1, 0, 0, 1, 1000, -1000), true},
		{impl.FrameSquare, impl.Lattice{A: 5, B: 2, C: 1}, motionWith(1, 0, 0, 1, 1001, 0), false},
		{impl.FrameSquare, impl.Lattice{A: 5, B: 2, C: 1}, motionWith(1, 0, 0, 1, 0, -1001), false},
		{impl.FrameHexagonal, impl.Lattice{A: 7, B: 2, C: 1}, motionWith(1, 1, -1, 0, 1, 2), true},
		{impl.FrameHexagonal, impl.Lattice{A: 7, B: 2, C: 1}, motionWith(0, 1, 1, 0, 1, 2), false},
		// The shear keeps the lattice, but it is no point matrix.
		{impl.FrameSquare, impl.Lattice{A: 1, C: 1}, motionWith(1, 1, 0, 1, 0, 0), false},
		{impl.FrameHexagonal, impl.Lattice{A: 1, C: 1}, motionWith(0, 0, 0, 0, 0, 0), false},
		{impl.FrameSquare, impl.Lattice{}, motionWith(1, 0, 0, 1, 0, 0), false},
		{2, impl.Lattice{A: 1, C: 1}, motionWith(1, 0, 0, 1, 0, 0), false},
	} {
		if impl.IsSuitable(c.frame, c.l, c.m) != c.want {
			t.Errorf("IsSuitable(%d, %v, %v) = %v", c.frame, c.l, c.m, !c.want)
		}
	}
}

func TestIsSuitableForAllLattices(t *testing.T) {
	motions := motionsOf(slices.Concat(pointMatsOf(impl.FrameSquare), pointMatsOf(impl.FrameHexagonal)), []impl.Vec{{}, {X: -999, Y: 1000}, {X: -1001}})
	for _, frame := range bothFrames() {
		for _, l := range latticesUpTo(64) {
			for _, m := range motions {
				if want := isSuitableByDefinition(frame, l, m); impl.IsSuitable(frame, l, m) != want {
					t.Errorf("IsSuitable(%d, %v, %v) = %v", frame, l, m, !want)
				}
			}
		}
	}
	for _, p := range slices.Concat(fewPlanes(), greatPlanes()) {
		for _, m := range unsuitableMotions(p) {
			if impl.IsSuitable(p.frame, p.l, m) {
				t.Errorf("IsSuitable(%v, %v) = true", p, m)
			}
		}
	}
}

func TestReduceMotion(t *testing.T) {
	for _, c := range []struct {
		frame   int64
		l       impl.Lattice
		m, want impl.Motion
	}{
		{impl.FrameSquare, impl.Lattice{A: 2, C: 2}, motionWith(1, 0, 0, -1, 5, 0), motionWith(1, 0, 0, -1, 1, 0)},
		{impl.FrameSquare, impl.Lattice{A: 5, B: 2, C: 1}, motionWith(0, -1, 1, 0, 0, 1), motionWith(0, -1, 1, 0, 3, 0)},
		{impl.FrameSquare, impl.Lattice{A: 5, B: 2, C: 1}, motionWith(1, 0, 0, 1, -2, -1), motionWith(1, 0, 0, 1, 0, 0)},
		{impl.FrameSquare, impl.Lattice{A: 3, B: 1, C: 2}, motionWith(-1, 0, 0, -1, -1, -1), motionWith(-1, 0, 0, -1, 0, 1)},
		{impl.FrameSquare, impl.Lattice{A: 1, C: 1}, motionWith(0, 1, 1, 0, -1000, 1000), motionWith(0, 1, 1, 0, 0, 0)},
		{impl.FrameHexagonal, impl.Lattice{A: 8, C: 8}, motionWith(0, -1, 1, 1, 7, 7), motionWith(0, -1, 1, 1, 7, 7)},
		{impl.FrameHexagonal, impl.Lattice{A: 64, B: 63, C: 1}, motionWith(0, 1, 1, 0, 1000, 1000), motionWith(0, 1, 1, 0, 16, 0)},
	} {
		if m, code := impl.ReduceMotion(c.frame, c.l, c.m); m != c.want || code != impl.ErrNone {
			t.Errorf("ReduceMotion(%d, %v, %v) = %v, %d, want %v", c.frame, c.l, c.m, m, code, c.want)
		}
	}
}

// TestReduceMotionAddsALatticeVector also checks that reducing again changes nothing.
func TestReduceMotionAddsALatticeVector(t *testing.T) {
	for _, p := range slices.Concat(fewPlanes(), greatPlanes()) {
		vecs := slices.Concat(someVecs(), edgeVecs(), boxVecs(4))
		for _, mat := range pointMatsOf(p.frame) {
			if !keepsLattice(mat, p.l) {
				continue
			}
			for _, m := range motionsOf([]impl.Mat{mat}, vecs) {
				want := reducedMotion(p.l, m)
				r, code := impl.ReduceMotion(p.frame, p.l, m)
				if r != want || code != impl.ErrNone {
					t.Errorf("ReduceMotion(%v, %v) = %v, %d, want %v", p, m, r, code, want)
				}
				if again, _ := impl.ReduceMotion(p.frame, p.l, r); again != r {
					t.Errorf("ReduceMotion(%v, %v) = %v", p, r, again)
				}
			}
		}
	}
}

func TestReduceMotionOfUnsuitable(t *testing.T) {
	for _, p := range fewPlanes() {
		for _, m := range unsuitableMotions(p) {
			if r, code := impl.ReduceMotion(p.frame, p.l, m); r != (impl.Motion{}) || code != impl.ErrRange {
				t.Errorf("ReduceMotion(%v, %v) = %v, %d", p, m, r, code)
			}
		}
	}
}

// TestIsGroupOfAllSublists tries each list, in order, of reduced suitable motions, for lattices with
// few of them.
func TestIsGroupOfAllSublists(t *testing.T) {
	for _, c := range []struct {
		p      plane
		groups int
	}{
		// The symmetries of a square have 10 subgroups, those of a hexagon 16.
		{plane{impl.FrameSquare, impl.Lattice{A: 1, C: 1}}, 10},
		{plane{impl.FrameHexagonal, impl.Lattice{A: 1, C: 1}}, 16},
		{plane{impl.FrameSquare, impl.Lattice{A: 1, C: 2}}, 16},
		{plane{impl.FrameHexagonal, impl.Lattice{A: 2, C: 1}}, 16},
		// The shifts and half turns of a line of seven cells are like the symmetries of a heptagon.
		{plane{impl.FrameSquare, impl.Lattice{A: 7, B: 2, C: 1}}, 10},
		// With the mirrors of a line of three cells they are like those of a hexagon.
		{plane{impl.FrameSquare, impl.Lattice{A: 3, B: 1, C: 1}}, 16},
		{plane{impl.FrameSquare, impl.Lattice{A: 3, C: 1}}, 16},
	} {
		all := allMotions(c.p.frame, c.p.l)
		groups := 0
		for chosen := range 1 << len(all) {
			var list []impl.Motion
			for i, m := range all {
				if chosen>>i&1 == 1 {
					list = append(list, m)
				}
			}
			want := isClosed(c.p.l, list)
			if impl.IsGroup(c.p.frame, c.p.l, list) != want {
				t.Errorf("IsGroup(%v, %v) = %v", c.p, list, !want)
			}
			if want {
				groups++
			}
		}
		if groups != c.groups {
			t.Errorf("%d groups modulo %v, want %d", groups, c.p, c.groups)
		}
	}
}

// TestIsGroupOfBrokenGroups also checks that the other functions refuse lists that are no groups.
func TestIsGroupOfBrokenGroups(t *testing.T) {
	for _, p := range fewPlanes() {
		groups := groupsOf(p)
		step := len(groups)/20 + 1
		for i := 0; i < len(groups); i += step {
			group := groups[i]
			if !impl.IsGroup(p.frame, p.l, group) || !isGroupByDefinition(p.frame, p.l, group) {
				t.Errorf("IsGroup(%v, %v) = false", p, group)
			}
			for _, list := range brokenGroups(p, group) {
				if isGroupByDefinition(p.frame, p.l, list) {
					t.Fatalf("%v is a group modulo %v", list, p)
				}
				checkGroupErrors(t, p.frame, p.l, list, impl.ErrRange)
			}
		}
	}
}

// TestGreatestGroups also checks that a group lacks none of its motions.
func TestGreatestGroups(t *testing.T) {
	greatest := 0
	for _, p := range greatPlanes() {
		all := allMotions(p.frame, p.l)
		greatest = max(greatest, len(all))
		if !impl.IsGroup(p.frame, p.l, all) {
			t.Errorf("IsGroup(%v, all %d motions) = false", p, len(all))
		}
		for _, i := range []int{0, 1, len(all) / 2, len(all) - 1} {
			list := slices.Delete(slices.Clone(all), i, i+1)
			if impl.IsGroup(p.frame, p.l, list) {
				t.Errorf("IsGroup(%v, all motions but %v) = true", p, all[i])
			}
		}
		if impl.IsGroup(p.frame, p.l, append(slices.Clone(all), all...)) {
			t.Errorf("IsGroup(%v, all motions twice) = true", p)
		}
		mats, code := impl.PointPart(p.frame, p.l, all)
		if want, _ := impl.LatticeMats(p.frame, p.l); !slices.Equal(mats, want) || code != impl.ErrNone {
			t.Errorf("PointPart(%v, all motions) = %v, %d, want %v", p, mats, code, want)
		}
		vecs, code := impl.ShiftsOf(p.frame, p.l, all)
		if want, _ := impl.CellsOf(p.l); !slices.Equal(vecs, want) || code != impl.ErrNone {
			t.Errorf("ShiftsOf(%v, all motions) = %v, %d, want %v", p, vecs, code, want)
		}
		if both, code := impl.MeetGroups(p.frame, p.l, all, all); !slices.Equal(both, all) || code != impl.ErrNone {
			t.Errorf("MeetGroups(%v, all motions) has %d motions, %d", p, len(both), code)
		}
		if list, code := impl.ShiftedGroup(p.frame, p.l, all, impl.Vec{X: 3, Y: -5}); !slices.Equal(list, all) || code != impl.ErrNone {
			t.Errorf("ShiftedGroup(%v, all motions) has %d motions, %d", p, len(list), code)
		}
	}
	if greatest != 768 {
		t.Errorf("the greatest group has %d motions", greatest)
	}
}

// TestIsGroupOfLongLists has lists that would take long if all their pairs were looked at.
func TestIsGroupOfLongLists(t *testing.T) {
	l := impl.Lattice{A: 8, C: 8}
	all := allMotions(impl.FrameHexagonal, l)
	long := slices.Repeat(all, 200)
	checkGroupErrors(t, impl.FrameHexagonal, l, long, impl.ErrRange)
	slices.SortFunc(long, compareMotions)
	checkGroupErrors(t, impl.FrameHexagonal, l, long, impl.ErrRange)
	checkGroupErrors(t, impl.FrameHexagonal, l, slices.Repeat([]impl.Motion{identity}, 100000), impl.ErrRange)
}

func TestCloseGroup(t *testing.T) {
	for _, c := range []struct {
		frame int64
		l     impl.Lattice
		list  []impl.Motion
		want  string
	}{
		{impl.FrameSquare, impl.Lattice{A: 2, C: 2}, nil, "1,0,0,1;0,0"},
		{impl.FrameHexagonal, impl.Lattice{A: 8, C: 8}, []impl.Motion{}, "1,0,0,1;0,0"},
		{impl.FrameSquare, impl.Lattice{A: 2, C: 2}, []impl.Motion{identity}, "1,0,0,1;0,0"},
		{impl.FrameSquare, impl.Lattice{A: 2, C: 2}, []impl.Motion{motionWith(1, 0, 0, 1, 1000, -1000)}, "1,0,0,1;0,0"},
		{impl.FrameSquare, impl.Lattice{A: 2, C: 2}, []impl.Motion{motionWith(1, 0, 0, -1, 5, 0)}, "1,0,0,-1;1,0 1,0,0,1;0,0"},
		{impl.FrameSquare, impl.Lattice{A: 4, C: 1}, []impl.Motion{motionWith(1, 0, 0, -1, 1, 0)}, "1,0,0,-1;1,0 1,0,0,-1;3,0 1,0,0,1;0,0 1,0,0,1;2,0"},
		{impl.FrameSquare, impl.Lattice{A: 3, C: 1}, []impl.Motion{motionWith(1, 0, 0, 1, -1, 0)}, "1,0,0,1;0,0 1,0,0,1;1,0 1,0,0,1;2,0"},
		{impl.FrameSquare, impl.Lattice{A: 3, C: 2}, []impl.Motion{motionWith(-1, 0, 0, -1, 2, 1)}, "-1,0,0,-1;2,1 1,0,0,1;0,0"},
		{impl.FrameSquare, impl.Lattice{A: 1, C: 1}, []impl.Motion{motionWith(0, -1, 1, 0, 7, -7)}, "-1,0,0,-1;0,0 0,-1,1,0;0,0 0,1,-1,0;0,0 1,0,0,1;0,0"},
		{impl.FrameSquare, impl.Lattice{A: 5, B: 2, C: 1}, []impl.Motion{motionWith(0, -1, 1, 0, 1, 0)}, "-1,0,0,-1;4,0 0,-1,1,0;1,0 0,1,-1,0;3,0 1,0,0,1;0,0"},
		{impl.FrameHexagonal, impl.Lattice{A: 3, B: 1, C: 1}, []impl.Motion{motionWith(-1, -1, 1, 0, 1, 0)}, "-1,-1,1,0;1,0 0,1,-1,-1;2,0 1,0,0,1;0,0"},
		{impl.FrameHexagonal, impl.Lattice{A: 2, C: 2}, []impl.Motion{motionWith(0, 1, 1, 0, 1, 1), motionWith(-1, 0, 0, -1, 0, 0)},
			"-1,0,0,-1;0,0 0,-1,-1,0;1,1 0,1,1,0;1,1 1,0,0,1;0,0"},
		// The mirror and the glide meet in a shift.
		{impl.FrameSquare, impl.Lattice{A: 2, C: 1}, []impl.Motion{motionWith(1, 0, 0, -1, 1, 0), motionWith(1, 0, 0, -1, 0, 0)},
			"1,0,0,-1;0,0 1,0,0,-1;1,0 1,0,0,1;0,0 1,0,0,1;1,0"},
	} {
		group, code := impl.CloseGroup(c.frame, c.l, c.list)
		if s := plainListText(group); s != c.want || code != impl.ErrNone {
			t.Errorf("CloseGroup(%d, %v, %v) = %q, %d, want %q", c.frame, c.l, c.list, s, code, c.want)
		}
	}
}

// checkGroup checks promise 6: the closure of the list is a group with all motions of the list. It also
// checks the guarantee of chapter 6 with the program's own shifts and point part.
func checkGroup(t *testing.T, p plane, list []impl.Motion) []impl.Motion {
	t.Helper()
	group, code := impl.CloseGroup(p.frame, p.l, list)
	if code != impl.ErrNone || !impl.IsGroup(p.frame, p.l, group) {
		t.Fatalf("CloseGroup(%v, %v) = %v, %d", p, list, group, code)
	}
	for _, m := range append(slices.Clone(list), identity) {
		if r, _ := impl.ReduceMotion(p.frame, p.l, m); !slices.Contains(group, r) {
			t.Errorf("CloseGroup(%v, %v) lacks %v", p, list, r)
		}
	}
	mats, matsCode := impl.PointPart(p.frame, p.l, group)
	shifts, shiftsCode := impl.ShiftsOf(p.frame, p.l, group)
	if len(mats)*len(shifts) != len(group) || matsCode != impl.ErrNone || shiftsCode != impl.ErrNone {
		t.Errorf("CloseGroup(%v, %v) has %d motions, %d matrices, %d and %d shifts, %d", p, list, len(group), len(mats), matsCode, len(shifts), shiftsCode)
	}
	return group
}

// TestClosedListsAreGroups closes all pairs of reduced motions, moved out of the cells.
func TestClosedListsAreGroups(t *testing.T) {
	for _, p := range fewPlanes() {
		all := allMotions(p.frame, p.l)
		for i, m := range all {
			m.T.X += p.l.A * int64(i%7-3)
			for _, n := range all[i:] {
				n.T.X, n.T.Y = n.T.X-p.l.B*5, n.T.Y-p.l.C*5
				want := closedByProducts(p.l, []impl.Motion{m, n})
				if group := checkGroup(t, p, []impl.Motion{m, n}); !slices.Equal(group, want) {
					t.Errorf("CloseGroup(%v, %v, %v) = %v, want %v", p, m, n, group, want)
				}
				if other, _ := impl.CloseGroup(p.frame, p.l, []impl.Motion{n, m}); !slices.Equal(other, want) {
					t.Errorf("CloseGroup(%v, %v, %v) = %v, want %v", p, n, m, other, want)
				}
			}
		}
	}
}

// TestClosedListsOfGreatLattices has lists of up to eight motions, with shifts up to MaxCoordinate.
func TestClosedListsOfGreatLattices(t *testing.T) {
	vecs := someVecs()
	for _, p := range slices.Concat(greatPlanes(), fewPlanes()) {
		mats := slices.DeleteFunc(pointMatsOf(p.frame), func(m impl.Mat) bool { return !keepsLattice(m, p.l) })
		for length := range 9 {
			for start := range 4 {
				var list []impl.Motion
				for i := range length {
					n := start + i*(start+1)
					list = append(list, impl.Motion{M: mats[n%len(mats)], T: vecs[n*5%len(vecs)]})
				}
				group := checkGroup(t, p, list)
				if !isGroupByDefinition(p.frame, p.l, group) || len(group) < 100 && !slices.Equal(group, closedByProducts(p.l, list)) {
					t.Errorf("CloseGroup(%v, %v) = %v", p, list, group)
				}
			}
		}
	}
}

// TestClosureOfAGroup checks that nothing is added to groups that have eight motions at most.
func TestClosureOfAGroup(t *testing.T) {
	for _, p := range fewPlanes() {
		for _, group := range groupsOf(p) {
			if len(group) > 8 {
				continue
			}
			if closed := checkGroup(t, p, group); !slices.Equal(closed, group) {
				t.Errorf("CloseGroup(%v, %v) = %v", p, group, closed)
			}
		}
	}
}

func TestCloseGroupCountsItsList(t *testing.T) {
	l := impl.Lattice{A: 8, C: 8}
	for length := range 20 {
		for _, m := range []impl.Motion{identity, motionWith(-1, 0, 0, -1, 1, 1)} {
			list := slices.Repeat([]impl.Motion{m}, length)
			want, wantCode := closedByProducts(l, list), int64(impl.ErrNone)
			if length > 8 {
				want, wantCode = nil, impl.ErrRange
			}
			if group, code := impl.CloseGroup(impl.FrameSquare, l, list); !slices.Equal(group, want) || code != wantCode {
				t.Errorf("CloseGroup of %d motions = %v, %d, want %v, %d", length, group, code, want, wantCode)
			}
		}
	}
	if group, code := impl.CloseGroup(impl.FrameSquare, l, allMotions(impl.FrameSquare, l)); len(group) != 0 || code != impl.ErrRange {
		t.Errorf("CloseGroup of all motions has %d motions, %d", len(group), code)
	}
}

// TestCloseGroupOfEightNewMotions has lists in which each motion doubles the group of those before, as
// often as lists of eight allow.
func TestCloseGroupOfEightNewMotions(t *testing.T) {
	p := plane{impl.FrameSquare, impl.Lattice{A: 8, C: 8}}
	list := motionsOf([]impl.Mat{unitMat}, []impl.Vec{{X: 4}, {Y: 4}, {X: 2}, {Y: 2}, {X: 1}, {Y: 1}})
	list = append(list, motionWith(-1, 0, 0, -1, 0, 0), motionWith(1, 0, 0, -1, 0, 0))
	for length := range len(list) + 1 {
		group := checkGroup(t, p, list[:length])
		if want := closedByProducts(p.l, list[:length]); !slices.Equal(group, want) || len(group) != 1<<length {
			t.Errorf("CloseGroup(%v, %v) has %d motions, want %d", p, list[:length], len(group), len(want))
		}
	}
}

func TestCloseGroupOfUnsuitable(t *testing.T) {
	for _, p := range fewPlanes() {
		for _, m := range unsuitableMotions(p) {
			for _, list := range [][]impl.Motion{{m}, {identity, m}, {m, identity}, slices.Repeat([]impl.Motion{m}, 9)} {
				if group, code := impl.CloseGroup(p.frame, p.l, list); len(group) != 0 || code != impl.ErrRange {
					t.Errorf("CloseGroup(%v, %v) = %v, %d", p, list, group, code)
				}
			}
		}
	}
}

func TestPointPartsAndShifts(t *testing.T) {
	most := 0
	for _, p := range fewPlanes() {
		for _, group := range groupsOf(p) {
			var wantMats []impl.Mat
			var wantShifts []impl.Vec
			for _, m := range group {
				if !slices.Contains(wantMats, m.M) {
					wantMats = append(wantMats, m.M)
				}
				if m.M == unitMat {
					wantShifts = append(wantShifts, m.T)
				}
			}
			if mats, code := impl.PointPart(p.frame, p.l, group); !slices.Equal(mats, wantMats) || code != impl.ErrNone {
				t.Errorf("PointPart(%v, %v) = %v, %d, want %v", p, group, mats, code, wantMats)
			}
			if shifts, code := impl.ShiftsOf(p.frame, p.l, group); !slices.Equal(shifts, wantShifts) || code != impl.ErrNone {
				t.Errorf("ShiftsOf(%v, %v) = %v, %d, want %v", p, group, shifts, code, wantShifts)
			}
			if len(wantMats)*len(wantShifts) != len(group) {
				t.Errorf("%v has %d motions", group, len(group))
			}
			most = max(most, len(wantShifts))
		}
	}
	if most != 9 {
		t.Errorf("at most %d shifts", most)
	}
}

func TestMeetGroups(t *testing.T) {
	trivial := 0
	for _, p := range fewPlanes() {
		groups := groupsOf(p)
		step := len(groups)/40 + 1
		for i, a := range groups {
			for j := i % step; j < len(groups); j += step {
				b := groups[j]
				want := slices.DeleteFunc(slices.Clone(a), func(m impl.Motion) bool { return !slices.Contains(b, m) })
				both, code := impl.MeetGroups(p.frame, p.l, a, b)
				if !slices.Equal(both, want) || code != impl.ErrNone {
					t.Errorf("MeetGroups(%v, %v, %v) = %v, %d, want %v", p, a, b, both, code, want)
				}
				if other, code := impl.MeetGroups(p.frame, p.l, b, a); !slices.Equal(other, want) || code != impl.ErrNone {
					t.Errorf("MeetGroups(%v, %v, %v) = %v, %d, want %v", p, b, a, other, code, want)
				}
				if !impl.IsGroup(p.frame, p.l, both) {
					t.Errorf("IsGroup(%v, %v) = false", p, both)
				}
				if len(a) > 1 && len(b) > 1 && len(both) == 1 {
					trivial++
				}
			}
		}
	}
	if trivial < 100 {
		t.Errorf("only %d pairs of groups meet in the identity alone", trivial)
	}
}

func TestMeetOfTwoTurns(t *testing.T) {
	l := impl.Lattice{A: 4, C: 1}
	first, second := []impl.Motion{motionWith(-1, 0, 0, -1, 0, 0), identity}, []impl.Motion{motionWith(-1, 0, 0, -1, 1, 0), identity}
	if both, code := impl.MeetGroups(impl.FrameSquare, l, first, second); !slices.Equal(both, []impl.Motion{identity}) || code != impl.ErrNone {
		t.Errorf("MeetGroups(%v, %v) = %v, %d", first, second, both, code)
	}
	if both, code := impl.MeetGroups(impl.FrameSquare, l, second, second); !slices.Equal(both, second) || code != impl.ErrNone {
		t.Errorf("MeetGroups(%v, %v) = %v, %d", second, second, both, code)
	}
}

func TestShiftedGroup(t *testing.T) {
	half, quarter := motionWith(-1, 0, 0, -1, 0, 0), motionWith(0, -1, 1, 0, 0, 0)
	for _, c := range []struct {
		frame int64
		l     impl.Lattice
		maker impl.Motion
		v     impl.Vec
		want  string
	}{
		{impl.FrameSquare, impl.Lattice{A: 3, C: 2}, half, impl.Vec{}, "-1,0,0,-1;0,0 1,0,0,1;0,0"},
		{impl.FrameSquare, impl.Lattice{A: 3, C: 2}, half, impl.Vec{X: 1}, "-1,0,0,-1;2,0 1,0,0,1;0,0"},
		{impl.FrameSquare, impl.Lattice{A: 3, C: 2}, half, impl.Vec{X: -1, Y: 1}, "-1,0,0,-1;1,0 1,0,0,1;0,0"},
		{impl.FrameSquare, impl.Lattice{A: 3, C: 2}, half, impl.Vec{X: 1000, Y: -1000}, "-1,0,0,-1;2,0 1,0,0,1;0,0"},
		{impl.FrameSquare, impl.Lattice{A: 4, C: 4}, quarter, impl.Vec{X: 1}, "-1,0,0,-1;2,0 0,-1,1,0;1,3 0,1,-1,0;1,1 1,0,0,1;0,0"},
		{impl.FrameSquare, impl.Lattice{A: 4, C: 4}, quarter, impl.Vec{Y: -1000}, "-1,0,0,-1;0,0 0,-1,1,0;0,0 0,1,-1,0;0,0 1,0,0,1;0,0"},
		{impl.FrameSquare, impl.Lattice{A: 4, C: 4}, quarter, impl.Vec{X: -999, Y: -1000}, "-1,0,0,-1;2,0 0,-1,1,0;1,3 0,1,-1,0;1,1 1,0,0,1;0,0"},
		{impl.FrameSquare, impl.Lattice{A: 4, C: 2}, motionWith(1, 0, 0, -1, 2, 0), impl.Vec{X: 1, Y: 1}, "1,0,0,-1;2,0 1,0,0,1;0,0"},
		{impl.FrameSquare, impl.Lattice{A: 4, C: 4}, motionWith(1, 0, 0, -1, 2, 0), impl.Vec{X: 1, Y: 1}, "1,0,0,-1;2,2 1,0,0,1;0,0"},
		{impl.FrameHexagonal, impl.Lattice{A: 2, C: 2}, motionWith(-1, -1, 1, 0, 0, 0), impl.Vec{X: 1}, "-1,-1,1,0;0,1 0,1,-1,-1;1,1 1,0,0,1;0,0"},
	} {
		group := closedByProducts(c.l, []impl.Motion{c.maker})
		list, code := impl.ShiftedGroup(c.frame, c.l, group, c.v)
		if s := plainListText(list); s != c.want || code != impl.ErrNone {
			t.Errorf("ShiftedGroup(%d, %v, %v, %v) = %q, %d, want %q", c.frame, c.l, group, c.v, s, code, c.want)
		}
	}
}

// TestGroupsShiftedThereAndBack also compares with the motions done one after the other.
func TestGroupsShiftedThereAndBack(t *testing.T) {
	vecs := slices.Concat(boxVecs(2), someVecs(), []impl.Vec{{X: 1000, Y: -1000}, {X: -7, Y: 11}})
	reordered := 0
	for _, p := range fewPlanes() {
		groups := groupsOf(p)
		step := len(groups)/60 + 1
		for i := 0; i < len(groups); i += step {
			group := groups[i]
			for _, v := range vecs {
				minus := impl.Vec{X: -v.X, Y: -v.Y}
				there, back := impl.Motion{M: unitMat, T: v}, impl.Motion{M: unitMat, T: minus}
				var want []impl.Motion
				for _, m := range group {
					want = append(want, reducedMotion(p.l, composed(there, composed(m, back))))
				}
				if !isStrictlyIncreasing(want) {
					reordered++
				}
				slices.SortFunc(want, compareMotions)
				list, code := impl.ShiftedGroup(p.frame, p.l, group, v)
				if !slices.Equal(list, want) || code != impl.ErrNone || !impl.IsGroup(p.frame, p.l, list) {
					t.Errorf("ShiftedGroup(%v, %v, %v) = %v, %d, want %v", p, group, v, list, code, want)
				}
				if r, code := impl.ShiftedGroup(p.frame, p.l, list, minus); !slices.Equal(r, group) || code != impl.ErrNone {
					t.Errorf("ShiftedGroup(%v, %v, %v) = %v, %d, want %v", p, list, minus, r, code, group)
				}
			}
		}
	}
	if reordered < 100 {
		t.Errorf("only %d groups whose motions change their order", reordered)
	}
}

func TestShiftedGroupByWrongVecs(t *testing.T) {
	group := []impl.Motion{motionWith(-1, 0, 0, -1, 1, 1), identity}
	for _, p := range []plane{{impl.FrameSquare, impl.Lattice{A: 3, C: 2}}, {impl.FrameHexagonal, impl.Lattice{A: 2, C: 2}}} {
		for _, w := range wrongVecs() {
			if list, code := impl.ShiftedGroup(p.frame, p.l, group, w); len(list) != 0 || code != impl.ErrRange {
				t.Errorf("ShiftedGroup(%v, %v, %v) = %v, %d", p, group, w, list, code)
			}
		}
	}
}

// checkGroupErrors has a list that is no group, or a wrong frame or lattice, for all functions that
// expect a group.
func checkGroupErrors(t *testing.T, frame int64, l impl.Lattice, list []impl.Motion, want int64) {
	t.Helper()
	trivial := []impl.Motion{identity}
	if impl.IsGroup(frame, l, list) {
		t.Errorf("IsGroup(%d, %v, %v) = true", frame, l, list)
	}
	if mats, code := impl.PointPart(frame, l, list); len(mats) != 0 || code != want {
		t.Errorf("PointPart(%d, %v, %v) = %v, %d", frame, l, list, mats, code)
	}
	if vecs, code := impl.ShiftsOf(frame, l, list); len(vecs) != 0 || code != want {
		t.Errorf("ShiftsOf(%d, %v, %v) = %v, %d", frame, l, list, vecs, code)
	}
	for _, pair := range [][2][]impl.Motion{{list, trivial}, {trivial, list}, {list, list}} {
		if group, code := impl.MeetGroups(frame, l, pair[0], pair[1]); len(group) != 0 || code != want {
			t.Errorf("MeetGroups(%d, %v, %v, %v) = %v, %d", frame, l, pair[0], pair[1], group, code)
		}
	}
	for _, v := range []impl.Vec{{}, {X: 1}, {X: 1001}} {
		if group, code := impl.ShiftedGroup(frame, l, list, v); len(group) != 0 || code != want {
			t.Errorf("ShiftedGroup(%d, %v, %v, %v) = %v, %d", frame, l, list, v, group, code)
		}
	}
}

// TestGroupsOfWrongPlanes has motions and lists that would be wrong too, so that the order of the
// errors shows.
func TestGroupsOfWrongPlanes(t *testing.T) {
	check := func(frame int64, l impl.Lattice) {
		motions := []impl.Motion{identity, motionWith(-1, 0, 0, -1, 0, 0), motionWith(1, 1, 0, 1, 0, 0), {}, {M: unitMat, T: impl.Vec{X: 1001}}, motionWith(math.MinInt64, 0, 0, 1, 0, 0)}
		for _, m := range motions {
			if impl.IsSuitable(frame, l, m) {
				t.Errorf("IsSuitable(%d, %v, %v) = true", frame, l, m)
			}
			if r, code := impl.ReduceMotion(frame, l, m); r != (impl.Motion{}) || code != impl.ErrInvalid {
				t.Errorf("ReduceMotion(%d, %v, %v) = %v, %d", frame, l, m, r, code)
			}
			for _, list := range [][]impl.Motion{nil, {m}, {identity, m}, {m, identity}, slices.Repeat([]impl.Motion{m}, 9)} {
				if group, code := impl.CloseGroup(frame, l, list); len(group) != 0 || code != impl.ErrInvalid {
					t.Errorf("CloseGroup(%d, %v, %v) = %v, %d", frame, l, list, group, code)
				}
				checkGroupErrors(t, frame, l, list, impl.ErrInvalid)
			}
		}
	}
	for _, frame := range bothFrames() {
		for _, w := range wrongLattices() {
			check(frame, w)
		}
	}
	for _, frame := range wrongFrames() {
		for _, l := range append(wrongLattices(), impl.Lattice{A: 1, C: 1}, impl.Lattice{A: 8, C: 8}) {
			check(frame, l)
		}
	}
}

// checkIsKept calls with a list that has spare capacity, and checks both the list and what is behind it.
func checkIsKept(t *testing.T, name string, list []impl.Motion, call func([]impl.Motion)) {
	t.Helper()
	behind := slices.Repeat([]impl.Motion{{M: impl.Mat{A: -7}, T: impl.Vec{X: -7}}}, 100)
	whole := append(slices.Clone(list), behind...)
	want := slices.Clone(whole)
	if call(whole[:len(list)]); !slices.Equal(whole, want) {
		t.Errorf("%s changes its argument %v", name, list)
	}
}

func TestGroupListsShareNoMemory(t *testing.T) {
	wrong, v := impl.Motion{M: impl.Mat{A: -7}}, impl.Vec{X: 1, Y: -3}
	for _, p := range fewPlanes() {
		groups := groupsOf(p)
		step := len(groups)/20 + 1
		for i := 0; i < len(groups); i += step {
			frame, l, group, other := p.frame, p.l, groups[i], groups[len(groups)-1-i]
			list := slices.Clone(group[:min(len(group), 8)])
			slices.Reverse(list)
			before := slices.Concat(group, other, list)
			checkIsNew(t, "CloseGroup", func() []impl.Motion { r, _ := impl.CloseGroup(frame, l, list); return r }, wrong)
			checkIsNew(t, "PointPart", func() []impl.Mat { r, _ := impl.PointPart(frame, l, group); return r }, impl.Mat{A: -7})
			checkIsNew(t, "ShiftsOf", func() []impl.Vec { r, _ := impl.ShiftsOf(frame, l, group); return r }, impl.Vec{X: -7})
			checkIsNew(t, "MeetGroups", func() []impl.Motion { r, _ := impl.MeetGroups(frame, l, group, other); return r }, wrong)
			checkIsNew(t, "MeetGroups", func() []impl.Motion { r, _ := impl.MeetGroups(frame, l, group, group); return r }, wrong)
			checkIsNew(t, "ShiftedGroup", func() []impl.Motion { r, _ := impl.ShiftedGroup(frame, l, group, v); return r }, wrong)
			checkIsNew(t, "ShiftedGroup", func() []impl.Motion { r, _ := impl.ShiftedGroup(frame, l, group, impl.Vec{}); return r }, wrong)
			if after := slices.Concat(group, other, list); !slices.Equal(after, before) {
				t.Fatalf("a result shares memory with an argument: %v, %v", p, before)
			}
			checkIsKept(t, "IsGroup", group, func(s []impl.Motion) { impl.IsGroup(frame, l, s) })
			checkIsKept(t, "CloseGroup", list, func(s []impl.Motion) { impl.CloseGroup(frame, l, s) })
			checkIsKept(t, "PointPart", group, func(s []impl.Motion) { impl.PointPart(frame, l, s) })
			checkIsKept(t, "ShiftsOf", group, func(s []impl.Motion) { impl.ShiftsOf(frame, l, s) })
			checkIsKept(t, "MeetGroups", group, func(s []impl.Motion) { impl.MeetGroups(frame, l, s, other) })
			checkIsKept(t, "MeetGroups", group, func(s []impl.Motion) { impl.MeetGroups(frame, l, other, s) })
			checkIsKept(t, "ShiftedGroup", group, func(s []impl.Motion) { impl.ShiftedGroup(frame, l, s, v) })
		}
	}
}
