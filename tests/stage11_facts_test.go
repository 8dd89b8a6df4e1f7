package tests

import (
	"math"
	"slices"
	"testing"

	"loop.example/g00943/impl"
)

// The following functions say by the definitions what the program should find. They do not ask it.

func isMirrorMat(m impl.Mat) bool { return m.A*m.D-m.B*m.C == -1 && orderByPowers(m) == 2 }

// mirrorMats has the reflections of a frame that map a lattice to itself, in order.
func mirrorMats(p plane) []impl.Mat {
	return slices.DeleteFunc(pointMatsOf(p.frame), func(m impl.Mat) bool { return !isMirrorMat(m) || !keepsLattice(m, p.l) })
}

func negative(v impl.Vec) impl.Vec { return impl.Vec{X: -v.X, Y: -v.Y} }

// nearLattice has the sums of few multiples of the basis of a lattice: 0,0 and one vector at least for each
// class of its vectors modulo 2, 3 and 4.
func nearLattice(l impl.Lattice) []impl.Vec {
	var vecs []impl.Vec
	for _, v := range boxVecs(2) {
		b := basisOf(l)
		vecs = append(vecs, impl.Vec{X: v.X*b[0].X + v.Y*b[1].X, Y: v.X*b[0].Y + v.Y*b[1].Y})
	}
	return vecs
}

// isCentredBySums asks for vectors of a lattice that are no sum as told. The parts of a sum can only be half
// of the vector's sum with its image, and the rest.
func isCentredBySums(l impl.Lattice, m impl.Mat) bool {
	return slices.ContainsFunc(nearLattice(l), func(v impl.Vec) bool {
		twice := plus(v, image(m, v))
		if twice.X%2 != 0 || twice.Y%2 != 0 {
			return true
		}
		part := impl.Vec{X: twice.X / 2, Y: twice.Y / 2}
		rest := plus(v, negative(part))
		return !hasVec(l, part) || !hasVec(l, rest) || image(m, part) != part || image(m, rest) != negative(rest)
	})
}

// keptVecs has all vectors with numbers of at most 200 that a matrix maps to themselves, in order.
func keptVecs(m impl.Mat) []impl.Vec {
	return slices.DeleteFunc(boxVecs(200), func(v impl.Vec) bool { return image(m, v) != v })
}

// reflectionsWith has all reflections with a matrix whose shifts have numbers of at most 130. As the
// index of a lattice is at most 64, each reflection differs from one of them by a vector of the lattice.
func reflectionsWith(m impl.Mat) []impl.Motion {
	return slices.DeleteFunc(motionsOf([]impl.Mat{m}, boxVecs(130)), func(r impl.Motion) bool { return kindByDefinition(r) != impl.MotionReflection })
}

// mirrorTable keeps the lists of keptVecs and reflectionsWith for all reflections of both frames, as they
// are long searches.
type mirrorTable struct {
	kept        map[impl.Mat][]impl.Vec
	reflections map[impl.Mat][]impl.Motion
}

func newMirrorTable() mirrorTable {
	table := mirrorTable{map[impl.Mat][]impl.Vec{}, map[impl.Mat][]impl.Motion{}}
	for _, frame := range bothFrames() {
		for _, m := range pointMatsOf(frame) {
			table.reflections[m] = reflectionsWith(m)
			if isMirrorMat(m) {
				table.kept[m] = keptVecs(m)
			}
		}
	}
	return table
}

// invariantBySearch is the first vector behind 0,0 that a matrix keeps.
func (table mirrorTable) invariantBySearch(l impl.Lattice, m impl.Mat) impl.Vec {
	for _, v := range table.kept[m] {
		if compareVecs(v, impl.Vec{}) > 0 && hasVec(l, v) {
			return v
		}
	}
	panic("no vector is kept")
}

func (table mirrorTable) mayReflectBySearch(l impl.Lattice, m impl.Motion) bool {
	return slices.ContainsFunc(table.reflections[m.M], func(r impl.Motion) bool {
		return hasVec(l, plus(r.T, negative(m.T)))
	})
}

// shortestBySearch needs no longer vectors, as the least norm is at most 74.
func shortestBySearch(p plane) []impl.Vec {
	return bestOf(p.frame, slices.DeleteFunc(boxVecs(9), func(v impl.Vec) bool { return v == impl.Vec{} || !hasVec(p.l, v) }))
}

// isAlong tries the multiples of the axis, which is the first vector that the matrix keeps.
func (table mirrorTable) isAlong(p plane, m impl.Mat) bool {
	axis := table.invariantBySearch(impl.Lattice{A: 1, C: 1}, m)
	return slices.ContainsFunc(shortestBySearch(p), func(v impl.Vec) bool {
		for n := int64(-9); n <= 9; n++ {
			if (impl.Vec{X: n * axis.X, Y: n * axis.Y}) == v {
				return true
			}
		}
		return false
	})
}

func matsOf(group []impl.Motion) []impl.Mat {
	var mats []impl.Mat
	for _, m := range group {
		if !slices.Contains(mats, m.M) {
			mats = append(mats, m.M)
		}
	}
	return mats
}

func shiftCount(group []impl.Motion) int64 {
	count := int64(0)
	for _, m := range group {
		if m.M == unitMat {
			count++
		}
	}
	return count
}

func greatestOrder(group []impl.Motion) int64 {
	greatest := int64(0)
	for _, m := range matsOf(group) {
		if m.A*m.D-m.B*m.C == 1 {
			greatest = max(greatest, orderByPowers(m))
		}
	}
	return greatest
}

func (table mirrorTable) factsByDefinition(p plane, group []impl.Motion) impl.Facts {
	facts := impl.Facts{Rotation: greatestOrder(group)}
	var mirrors []impl.Mat
	for _, m := range matsOf(group) {
		if !isMirrorMat(m) {
			continue
		}
		mirrors = append(mirrors, m)
		if slices.ContainsFunc(group, func(g impl.Motion) bool { return g.M == m && table.mayReflectBySearch(p.l, g) }) {
			facts.Reflecting++
		}
		if isCentredBySums(p.l, m) {
			facts.Centred++
		}
	}
	facts.Mirrors = int64(len(mirrors))
	facts.Along = len(mirrors) > 0 && table.isAlong(p, mirrors[0])
	return facts
}

// pointClass is a point, with its numbers as parts of a least denominator, that is reduced by a lattice.
type pointClass struct {
	numbers     impl.Vec
	denominator int64
}

func classOf(l impl.Lattice, numbers impl.Vec, denominator int64) pointClass {
	a, b, c := l.A*denominator, l.B*denominator, l.C*denominator
	for ; numbers.Y < 0; numbers.Y += c {
		numbers.X += b
	}
	for ; numbers.Y >= c; numbers.Y -= c {
		numbers.X -= b
	}
	numbers.X = (numbers.X%a + a) % a
	return pointClass{numbers, denominator}
}

// centresBySearch has the classes of the centres of all rotations that few shifts of the lattice make. Each
// other shift of it differs from one of these by d times a vector of it, where d is the determinant of the
// unit minus the matrix, 4, 3, 2 or 1, and so the centres differ by a vector of the lattice.
func centresBySearch(l impl.Lattice, group []impl.Motion, n int64) map[pointClass]bool {
	classes := map[pointClass]bool{}
	for _, m := range group {
		if kindByDefinition(m) != impl.MotionRotation || orderByRepeating(m) != n {
			continue
		}
		for _, v := range nearLattice(l) {
			numbers, denominator := centreByRule(impl.Motion{M: m.M, T: plus(m.T, v)})
			classes[classOf(l, numbers, denominator)] = true
		}
	}
	return classes
}

func groupBy(l impl.Lattice, makers ...string) []impl.Motion {
	var list []impl.Motion
	for _, s := range makers {
		list = append(list, motionOf(s))
	}
	return closedByProducts(l, list)
}

func TestCentredLattices(t *testing.T) {
	const square, hexagonal = impl.FrameSquare, impl.FrameHexagonal
	for _, c := range []struct {
		frame int64
		l     impl.Lattice
		m     impl.Mat
		want  bool
		v     impl.Vec
	}{
		{square, impl.Lattice{A: 1, C: 1}, impl.Mat{A: 1, D: -1}, false, impl.Vec{X: 1}}, {square, impl.Lattice{A: 1, C: 1}, impl.Mat{A: -1, D: 1}, false, impl.Vec{Y: 1}},
		{square, impl.Lattice{A: 1, C: 1}, impl.Mat{B: 1, C: 1}, true, impl.Vec{X: 1, Y: 1}}, {square, impl.Lattice{A: 1, C: 1}, impl.Mat{B: -1, C: -1}, true, impl.Vec{X: 1, Y: -1}},
		{square, impl.Lattice{A: 3, C: 2}, impl.Mat{A: -1, D: 1}, false, impl.Vec{Y: 2}}, {square, impl.Lattice{A: 64, C: 1}, impl.Mat{A: 1, D: -1}, false, impl.Vec{X: 64}}, {square, impl.Lattice{A: 1, C: 64}, impl.Mat{A: -1, D: 1}, false, impl.Vec{Y: 64}},
		{square, impl.Lattice{A: 2, B: 1, C: 1}, impl.Mat{A: -1, D: 1}, true, impl.Vec{Y: 2}}, {square, impl.Lattice{A: 2, B: 1, C: 1}, impl.Mat{B: -1, C: -1}, false, impl.Vec{X: 1, Y: -1}},
		{square, impl.Lattice{A: 6, B: 3, C: 2}, impl.Mat{A: 1, D: -1}, true, impl.Vec{X: 6}}, {square, impl.Lattice{A: 6, B: 3, C: 2}, impl.Mat{A: -1, D: 1}, true, impl.Vec{Y: 4}},
		{square, impl.Lattice{A: 3, B: 1, C: 1}, impl.Mat{B: -1, C: -1}, true, impl.Vec{X: 3, Y: -3}}, {square, impl.Lattice{A: 3, B: 1, C: 1}, impl.Mat{B: 1, C: 1}, true, impl.Vec{X: 1, Y: 1}},
		{square, impl.Lattice{A: 4, B: 1, C: 1}, impl.Mat{B: 1, C: 1}, false, impl.Vec{X: 1, Y: 1}}, {square, impl.Lattice{A: 4, B: 1, C: 1}, impl.Mat{B: -1, C: -1}, false, impl.Vec{X: 2, Y: -2}},
		{square, impl.Lattice{A: 64, B: 63, C: 1}, impl.Mat{B: 1, C: 1}, false, impl.Vec{X: 32, Y: 32}}, {square, impl.Lattice{A: 63, B: 62, C: 1}, impl.Mat{B: 1, C: 1}, true, impl.Vec{X: 63, Y: 63}},
		{hexagonal, impl.Lattice{A: 1, C: 1}, impl.Mat{A: 1, B: 1, D: -1}, true, impl.Vec{X: 1}}, {hexagonal, impl.Lattice{A: 1, C: 1}, impl.Mat{A: -1, C: 1, D: 1}, true, impl.Vec{Y: 1}},
		{hexagonal, impl.Lattice{A: 1, C: 1}, impl.Mat{A: -1, B: -1, D: 1}, true, impl.Vec{X: 1, Y: -2}}, {hexagonal, impl.Lattice{A: 1, C: 1}, impl.Mat{A: 1, C: -1, D: -1}, true, impl.Vec{X: 2, Y: -1}},
		{hexagonal, impl.Lattice{A: 1, C: 1}, impl.Mat{B: -1, C: -1}, true, impl.Vec{X: 1, Y: -1}}, {hexagonal, impl.Lattice{A: 3, B: 1, C: 1}, impl.Mat{B: -1, C: -1}, true, impl.Vec{X: 3, Y: -3}},
		{hexagonal, impl.Lattice{A: 2, C: 1}, impl.Mat{A: 1, C: -1, D: -1}, false, impl.Vec{X: 2, Y: -1}}, {hexagonal, impl.Lattice{A: 2, C: 1}, impl.Mat{A: -1, C: 1, D: 1}, false, impl.Vec{Y: 1}},
		{hexagonal, impl.Lattice{A: 1, C: 2}, impl.Mat{A: 1, B: 1, D: -1}, false, impl.Vec{X: 1}}, {hexagonal, impl.Lattice{A: 32, B: 31, C: 2}, impl.Mat{A: 1, B: 1, D: -1}, false, impl.Vec{X: 32}}, {hexagonal, impl.Lattice{A: 32, B: 15, C: 2}, impl.Mat{A: 1, B: 1, D: -1}, true, impl.Vec{X: 32}},
		{hexagonal, impl.Lattice{A: 63, B: 31, C: 1}, impl.Mat{A: -1, B: -1, D: 1}, true, impl.Vec{X: 1, Y: -2}}, {hexagonal, impl.Lattice{A: 63, B: 31, C: 1}, impl.Mat{A: 1, B: 1, D: -1}, true, impl.Vec{X: 63}},
	} {
		if isCentred, code := impl.IsCentred(c.frame, c.l, c.m); isCentred != c.want || code != impl.ErrNone {
			t.Errorf("IsCentred(%d, %v, %v) = %v, %d", c.frame, c.l, c.m, isCentred, code)
		}
		if v, code := impl.InvariantVec(c.frame, c.l, c.m); v != c.v || code != impl.ErrNone {
			t.Errorf("InvariantVec(%d, %v, %v) = %v, %d, want %v", c.frame, c.l, c.m, v, code, c.v)
		}
	}
}

// checkInvariant checks with the program's own vector that it is kept, and that all other vectors of the
// lattice that are kept are multiples of it.
func checkInvariant(t *testing.T, p plane, m impl.Mat, kept []impl.Vec) {
	t.Helper()
	v, code := impl.InvariantVec(p.frame, p.l, m)
	if code != impl.ErrNone || !hasVec(p.l, v) || image(m, v) != v || compareVecs(v, impl.Vec{}) <= 0 {
		t.Fatalf("InvariantVec(%v, %v) = %v, %d", p, m, v, code)
	}
	for _, u := range kept {
		if hasVec(p.l, u) && (det(u, v) != 0 || (u.X*v.X+u.Y*v.Y)%(v.X*v.X+v.Y*v.Y) != 0) {
			t.Errorf("InvariantVec(%v, %v) = %v, but %v is kept", p, m, v, u)
		}
	}
}

// TestMirrorsOfAllLattices also checks that both kinds of lattice are there for each reflection.
func TestMirrorsOfAllLattices(t *testing.T) {
	table := newMirrorTable()
	type mirror struct {
		frame int64
		m     impl.Mat
	}
	centred, other := map[mirror]int{}, map[mirror]int{}
	for _, frame := range bothFrames() {
		for _, l := range latticesUpTo(64) {
			p := plane{frame, l}
			for _, m := range mirrorMats(p) {
				want := isCentredBySums(l, m)
				if isCentred, code := impl.IsCentred(frame, l, m); isCentred != want || code != impl.ErrNone {
					t.Errorf("IsCentred(%v, %v) = %v, %d", p, m, isCentred, code)
				}
				if v, code := impl.InvariantVec(frame, l, m); v != table.invariantBySearch(l, m) || code != impl.ErrNone {
					t.Errorf("InvariantVec(%v, %v) = %v, %d, want %v", p, m, v, code, table.invariantBySearch(l, m))
				}
				checkInvariant(t, p, m, table.kept[m])
				if want {
					centred[mirror{frame, m}]++
				} else {
					other[mirror{frame, m}]++
				}
			}
		}
	}
	if len(centred) != 10 || len(other) != 10 {
		t.Errorf("centred lattices for %d reflections, others for %d", len(centred), len(other))
	}
	for m, n := range centred {
		if min(n, other[m]) < 20 {
			t.Errorf("%d centred lattices, %d others for %v", n, other[m], m)
		}
	}
}

// TestMotionsThatMayReflect has glides that a shift of the lattice makes reflections.
func TestMotionsThatMayReflect(t *testing.T) {
	const square, hexagonal = impl.FrameSquare, impl.FrameHexagonal
	for _, c := range []struct {
		frame int64
		l     impl.Lattice
		m     string
		want  bool
	}{
		{square, impl.Lattice{A: 2, C: 2}, "1,0,0,-1;0,0", true}, {square, impl.Lattice{A: 2, C: 2}, "1,0,0,-1;2,0", true}, {square, impl.Lattice{A: 2, C: 2}, "1,0,0,-1;-4,7", true}, {square, impl.Lattice{A: 2, C: 2}, "1,0,0,-1;1,0", false}, {square, impl.Lattice{A: 2, C: 2}, "1,0,0,-1;3,1", false},
		{square, impl.Lattice{A: 2, C: 2}, "-1,0,0,1;1,2", true}, {square, impl.Lattice{A: 2, C: 2}, "-1,0,0,1;2,1", false}, {square, impl.Lattice{A: 2, C: 2}, "-1,0,0,1;1000,1000", true}, {square, impl.Lattice{A: 2, C: 2}, "-1,0,0,1;1000,999", false},
		{square, impl.Lattice{A: 2, C: 2}, "0,1,1,0;1,-1", true}, {square, impl.Lattice{A: 2, C: 2}, "0,1,1,0;1,1", true}, {square, impl.Lattice{A: 2, C: 2}, "0,1,1,0;2,0", true}, {square, impl.Lattice{A: 2, C: 2}, "0,1,1,0;1,0", false}, {square, impl.Lattice{A: 2, C: 2}, "0,-1,-1,0;1,0", false}, {square, impl.Lattice{A: 2, C: 2}, "0,-1,-1,0;1,1", true},
		{square, impl.Lattice{A: 1, C: 1}, "1,0,0,-1;-999,1000", true}, {square, impl.Lattice{A: 1, C: 1}, "0,1,1,0;1000,1000", true}, {square, impl.Lattice{A: 64, C: 1}, "1,0,0,-1;64,0", true}, {square, impl.Lattice{A: 64, C: 1}, "1,0,0,-1;32,0", false}, {square, impl.Lattice{A: 64, C: 1}, "-1,0,0,1;32,0", true},
		// This lattice has vectors 1,1 and 1,-1, those of the next one go twice as far along the first axis.
		{square, impl.Lattice{A: 2, B: 1, C: 1}, "1,0,0,-1;1,0", true}, {square, impl.Lattice{A: 2, B: 1, C: 1}, "-1,0,0,1;0,1", true}, {square, impl.Lattice{A: 2, B: 1, C: 1}, "0,1,1,0;1,0", false}, {square, impl.Lattice{A: 2, B: 1, C: 1}, "0,1,1,0;2,0", true},
		{square, impl.Lattice{A: 4, B: 2, C: 1}, "1,0,0,-1;2,0", true}, {square, impl.Lattice{A: 4, B: 2, C: 1}, "1,0,0,-1;1,0", false}, {square, impl.Lattice{A: 4, B: 2, C: 1}, "1,0,0,-1;4,0", true}, {square, impl.Lattice{A: 4, B: 2, C: 1}, "1,0,0,-1;1,1", false}, {square, impl.Lattice{A: 4, B: 2, C: 1}, "1,0,0,-1;2,1", true},
		{square, impl.Lattice{A: 5, B: 2, C: 1}, "0,-1,1,0;0,0", false}, {square, impl.Lattice{A: 5, B: 2, C: 1}, "1,0,0,1;0,0", false}, {square, impl.Lattice{A: 5, B: 2, C: 1}, "-1,0,0,-1;1,0", false}, {square, impl.Lattice{A: 5, B: 2, C: 1}, "1,0,0,1;1000,-1000", false},
		{hexagonal, impl.Lattice{A: 1, C: 1}, "1,1,0,-1;1,0", true}, {hexagonal, impl.Lattice{A: 2, C: 2}, "1,1,0,-1;1,0", true}, {hexagonal, impl.Lattice{A: 2, C: 2}, "1,1,0,-1;1,-2", true}, {hexagonal, impl.Lattice{A: 2, C: 2}, "1,1,0,-1;0,1", false}, {hexagonal, impl.Lattice{A: 2, C: 2}, "1,1,0,-1;-1,1", false}, {hexagonal, impl.Lattice{A: 2, C: 2}, "1,1,0,-1;2,0", true},
		{hexagonal, impl.Lattice{A: 2, C: 1}, "1,0,-1,-1;1,0", false}, {hexagonal, impl.Lattice{A: 2, C: 1}, "1,0,-1,-1;2,-1", true}, {hexagonal, impl.Lattice{A: 2, C: 1}, "-1,0,1,1;1,0", false}, {hexagonal, impl.Lattice{A: 2, C: 1}, "-1,0,1,1;0,1", true}, {hexagonal, impl.Lattice{A: 3, B: 1, C: 1}, "0,1,1,0;1,0", true}, {hexagonal, impl.Lattice{A: 3, B: 1, C: 1}, "0,-1,-1,0;1,0", false},
		{hexagonal, impl.Lattice{A: 3, B: 1, C: 1}, "0,-1,1,1;0,0", false}, {hexagonal, impl.Lattice{A: 8, C: 8}, "0,1,1,0;-1000,1000", true}, {hexagonal, impl.Lattice{A: 8, C: 8}, "0,1,1,0;-1000,999", false},
	} {
		if ok, code := impl.MayReflect(c.frame, c.l, motionOf(c.m)); ok != c.want || code != impl.ErrNone {
			t.Errorf("MayReflect(%d, %v, %q) = %v, %d", c.frame, c.l, c.m, ok, code)
		}
	}
}

// somePlanes has all lattices with few cells, and some of the others in both frames.
func somePlanes() []plane {
	var planes []plane
	for i, l := range latticesUpTo(64) {
		for _, frame := range bothFrames() {
			if p := (plane{frame, l}); l.A*l.C <= 12 || i%17 == 0 || len(mirrorMats(p)) > 2 && i%2 == 0 {
				planes = append(planes, p)
			}
		}
	}
	return append(planes, greatPlanes()...)
}

// TestMayReflectOfManyMotions has reduced motions and others, up to the edges of the plane, and checks that
// glides are among those that may reflect.
func TestMayReflectOfManyMotions(t *testing.T) {
	table := newMirrorTable()
	reflections, glides, others := 0, 0, 0
	for _, p := range somePlanes() {
		all := allMotions(p.frame, p.l)
		for i := 0; i < len(all); i += len(all)/80 + 1 {
			want := table.mayReflectBySearch(p.l, all[i])
			for _, m := range []impl.Motion{all[i], farMotion(p.l, all[i], int64(i)), {M: all[i].M, T: plus(all[i].T, impl.Vec{X: p.l.B - p.l.A, Y: p.l.C})}} {
				ok, code := impl.MayReflect(p.frame, p.l, m)
				if ok != want || code != impl.ErrNone {
					t.Errorf("MayReflect(%v, %v) = %v, %d", p, m, ok, code)
				}
				switch kind := kindByDefinition(m); {
				case kind == impl.MotionReflection && !ok:
					t.Errorf("MayReflect(%v, %v) = false", p, m)
				case kind == impl.MotionReflection:
					reflections++
				case kind == impl.MotionGlide && ok:
					glides++
				case kind == impl.MotionGlide:
					others++
				}
			}
		}
	}
	if min(reflections, glides, others) < 1000 {
		t.Errorf("%d reflections, %d glides that may reflect, %d others", reflections, glides, others)
	}
}

// TestReflectionsMayReflect adds vectors of the lattice to reflections.
func TestReflectionsMayReflect(t *testing.T) {
	for _, p := range slices.Concat(fewPlanes(), greatPlanes()) {
		for _, mat := range mirrorMats(p) {
			for _, v := range boxVecs(6) {
				m := impl.Motion{M: mat, T: v}
				if kindByDefinition(m) != impl.MotionReflection {
					continue
				}
				for _, shift := range nearLattice(p.l) {
					moved := impl.Motion{M: mat, T: plus(v, shift)}
					if ok, code := impl.MayReflect(p.frame, p.l, moved); !ok || code != impl.ErrNone {
						t.Errorf("MayReflect(%v, %v) = %v, %d", p, moved, ok, code)
					}
				}
			}
		}
	}
}

// TestFacts has groups of all kinds, some of them with several lattices.
func TestFacts(t *testing.T) {
	const square, hexagonal = impl.FrameSquare, impl.FrameHexagonal
	const flat, half, quarter, swap, third, sixth = "1,0,0,-1;0,0", "-1,0,0,-1;0,0", "0,-1,1,0;0,0", "0,1,1,0;0,0", "-1,-1,1,0;0,0", "0,-1,1,1;0,0"
	for _, c := range []struct {
		frame  int64
		l      impl.Lattice
		makers []string
		want   impl.Facts
	}{
		{square, impl.Lattice{A: 1, C: 1}, nil, impl.Facts{Rotation: 1}}, {hexagonal, impl.Lattice{A: 7, B: 3, C: 9}, nil, impl.Facts{Rotation: 1}}, {square, impl.Lattice{A: 3, B: 1, C: 2}, []string{"-1,0,0,-1;2,1"}, impl.Facts{Rotation: 2}},
		{square, impl.Lattice{A: 4, C: 4}, []string{flat}, impl.Facts{Rotation: 1, Mirrors: 1, Reflecting: 1, Along: true}}, {square, impl.Lattice{A: 4, C: 4}, []string{"1,0,0,-1;0,3"}, impl.Facts{Rotation: 1, Mirrors: 1, Reflecting: 1, Along: true}},
		{square, impl.Lattice{A: 3, C: 2}, []string{flat}, impl.Facts{Rotation: 1, Mirrors: 1, Reflecting: 1}}, {square, impl.Lattice{A: 3, C: 2}, []string{"-1,0,0,1;0,0"}, impl.Facts{Rotation: 1, Mirrors: 1, Reflecting: 1, Along: true}},
		{square, impl.Lattice{A: 4, C: 4}, []string{"1,0,0,-1;2,0"}, impl.Facts{Rotation: 1, Mirrors: 1, Along: true}}, {square, impl.Lattice{A: 4, C: 3}, []string{"1,0,0,-1;2,1"}, impl.Facts{Rotation: 1, Mirrors: 1}}, {square, impl.Lattice{A: 2, B: 1, C: 1}, []string{"0,1,1,0;1,0"}, impl.Facts{Rotation: 1, Mirrors: 1, Along: true}},
		{square, impl.Lattice{A: 4, C: 4}, []string{swap}, impl.Facts{Rotation: 1, Mirrors: 1, Reflecting: 1, Centred: 1}}, {square, impl.Lattice{A: 6, B: 3, C: 1}, []string{flat}, impl.Facts{Rotation: 1, Mirrors: 1, Reflecting: 1, Centred: 1}}, {square, impl.Lattice{A: 2, B: 1, C: 1}, []string{swap}, impl.Facts{Rotation: 1, Mirrors: 1, Reflecting: 1, Along: true}},
		{square, impl.Lattice{A: 2, B: 1, C: 3}, []string{"1,0,0,-1;0,3"}, impl.Facts{Rotation: 1, Mirrors: 1, Reflecting: 1, Centred: 1, Along: true}},
		{square, impl.Lattice{A: 4, C: 4}, []string{flat, half}, impl.Facts{Rotation: 2, Mirrors: 2, Reflecting: 2, Along: true}}, {square, impl.Lattice{A: 3, C: 5}, []string{flat, half}, impl.Facts{Rotation: 2, Mirrors: 2, Reflecting: 2}}, {square, impl.Lattice{A: 5, C: 3}, []string{flat, half}, impl.Facts{Rotation: 2, Mirrors: 2, Reflecting: 2, Along: true}},
		{square, impl.Lattice{A: 4, C: 4}, []string{"1,0,0,-1;2,0", half}, impl.Facts{Rotation: 2, Mirrors: 2, Reflecting: 1, Along: true}}, {square, impl.Lattice{A: 4, C: 4}, []string{"1,0,0,-1;2,2", half}, impl.Facts{Rotation: 2, Mirrors: 2, Along: true}}, {square, impl.Lattice{A: 4, C: 6}, []string{"1,0,0,-1;2,3", half}, impl.Facts{Rotation: 2, Mirrors: 2}},
		{square, impl.Lattice{A: 4, C: 4}, []string{swap, half}, impl.Facts{Rotation: 2, Mirrors: 2, Reflecting: 2, Centred: 2}}, {hexagonal, impl.Lattice{A: 1, C: 1}, []string{swap, half}, impl.Facts{Rotation: 2, Mirrors: 2, Reflecting: 2, Centred: 2, Along: true}}, {hexagonal, impl.Lattice{A: 2, C: 1}, []string{"-1,0,1,1;0,0", half}, impl.Facts{Rotation: 2, Mirrors: 2, Reflecting: 2, Along: true}},
		{hexagonal, impl.Lattice{A: 2, C: 1}, []string{"-1,0,1,1;1,0", half}, impl.Facts{Rotation: 2, Mirrors: 2, Along: true}}, {hexagonal, impl.Lattice{A: 2, C: 1}, []string{"-1,0,1,1;1,0", "-1,0,0,-1;1,0"}, impl.Facts{Rotation: 2, Mirrors: 2, Reflecting: 1, Along: true}},
		{square, impl.Lattice{A: 4, C: 4}, []string{quarter}, impl.Facts{Rotation: 4}}, {square, impl.Lattice{A: 5, B: 2, C: 1}, []string{quarter}, impl.Facts{Rotation: 4}}, {square, impl.Lattice{A: 4, C: 4}, []string{quarter, flat}, impl.Facts{Rotation: 4, Mirrors: 4, Reflecting: 4, Centred: 2, Along: true}}, {square, impl.Lattice{A: 2, B: 1, C: 1}, []string{quarter, flat}, impl.Facts{Rotation: 4, Mirrors: 4, Reflecting: 4, Centred: 2}},
		{square, impl.Lattice{A: 4, C: 4}, []string{quarter, "1,0,0,-1;2,2"}, impl.Facts{Rotation: 4, Mirrors: 4, Reflecting: 2, Centred: 2, Along: true}}, {square, impl.Lattice{A: 2, B: 1, C: 1}, []string{quarter, "0,1,1,0;1,0"}, impl.Facts{Rotation: 4, Mirrors: 4, Reflecting: 2, Centred: 2}},
		{hexagonal, impl.Lattice{A: 4, C: 4}, []string{third}, impl.Facts{Rotation: 3}}, {hexagonal, impl.Lattice{A: 7, B: 2, C: 1}, []string{"-1,-1,1,0;3,0"}, impl.Facts{Rotation: 3}}, {hexagonal, impl.Lattice{A: 4, C: 4}, []string{third, swap}, impl.Facts{Rotation: 3, Mirrors: 3, Reflecting: 3, Centred: 3}},
		{hexagonal, impl.Lattice{A: 4, C: 4}, []string{third, "1,1,0,-1;0,0"}, impl.Facts{Rotation: 3, Mirrors: 3, Reflecting: 3, Centred: 3, Along: true}}, {hexagonal, impl.Lattice{A: 3, B: 1, C: 1}, []string{third, swap}, impl.Facts{Rotation: 3, Mirrors: 3, Reflecting: 3, Centred: 3, Along: true}}, {hexagonal, impl.Lattice{A: 3, B: 1, C: 1}, []string{third, "1,1,0,-1;0,0"}, impl.Facts{Rotation: 3, Mirrors: 3, Reflecting: 3, Centred: 3}},
		{hexagonal, impl.Lattice{A: 4, C: 4}, []string{sixth}, impl.Facts{Rotation: 6}}, {hexagonal, impl.Lattice{A: 4, C: 4}, []string{sixth, swap}, impl.Facts{Rotation: 6, Mirrors: 6, Reflecting: 6, Centred: 6}}, {hexagonal, impl.Lattice{A: 3, B: 1, C: 1}, []string{sixth, swap}, impl.Facts{Rotation: 6, Mirrors: 6, Reflecting: 6, Centred: 6, Along: true}},
	} {
		group := groupBy(c.l, c.makers...)
		if facts, code := impl.FactsOf(c.frame, c.l, group); facts != c.want || code != impl.ErrNone {
			t.Errorf("FactsOf(%d, %v, %q) = %v, %d, want %v", c.frame, c.l, c.makers, facts, code, c.want)
		}
		if n, code := impl.RotationOrder(c.frame, c.l, group); n != c.want.Rotation || code != impl.ErrNone {
			t.Errorf("RotationOrder(%d, %v, %q) = %d, %d, want %d", c.frame, c.l, c.makers, n, code, c.want.Rotation)
		}
	}
}

// TestCentres has groups with several shifts, too, so that there are more classes of centres.
func TestCentres(t *testing.T) {
	const square, hexagonal = impl.FrameSquare, impl.FrameHexagonal
	for _, c := range []struct {
		frame  int64
		l      impl.Lattice
		makers []string
		want   [4]int64
	}{
		{square, impl.Lattice{A: 1, C: 1}, nil, [4]int64{}}, {square, impl.Lattice{A: 8, C: 8}, []string{"1,0,0,1;1,0", "1,0,0,1;0,1"}, [4]int64{}}, {square, impl.Lattice{A: 4, C: 4}, []string{"1,0,0,-1;2,0"}, [4]int64{}}, {hexagonal, impl.Lattice{A: 1, C: 1}, []string{"0,1,1,0;0,0"}, [4]int64{}},
		{square, impl.Lattice{A: 1, C: 1}, []string{"-1,0,0,-1;0,0"}, [4]int64{4}}, {square, impl.Lattice{A: 5, B: 3, C: 4}, []string{"-1,0,0,-1;4,3"}, [4]int64{4}}, {hexagonal, impl.Lattice{A: 64, B: 63, C: 1}, []string{"-1,0,0,-1;63,0"}, [4]int64{4}}, {square, impl.Lattice{A: 3, C: 2}, []string{"1,0,0,-1;0,0", "-1,0,0,1;0,1"}, [4]int64{4}},
		{square, impl.Lattice{A: 2, C: 1}, []string{"-1,0,0,-1;0,0", "1,0,0,1;1,0"}, [4]int64{8}}, {square, impl.Lattice{A: 4, C: 2}, []string{"-1,0,0,-1;1,1", "1,0,0,1;1,0"}, [4]int64{16}}, {square, impl.Lattice{A: 8, C: 8}, []string{"-1,0,0,-1;0,0", "1,0,0,1;1,0", "1,0,0,1;0,1"}, [4]int64{256}},
		{square, impl.Lattice{A: 1, C: 1}, []string{"0,-1,1,0;0,0"}, [4]int64{4, 0, 2}}, {square, impl.Lattice{A: 5, B: 2, C: 1}, []string{"0,1,-1,0;3,0"}, [4]int64{4, 0, 2}}, {square, impl.Lattice{A: 4, C: 4}, []string{"0,-1,1,0;0,0", "1,0,0,-1;2,2"}, [4]int64{4, 0, 2}}, {square, impl.Lattice{A: 4, C: 4}, []string{"0,-1,1,0;1,0", "1,0,0,1;2,2"}, [4]int64{8, 0, 4}},
		{square, impl.Lattice{A: 8, C: 8}, []string{"0,-1,1,0;0,0", "1,0,0,1;1,0"}, [4]int64{256, 0, 128}},
		{hexagonal, impl.Lattice{A: 1, C: 1}, []string{"-1,-1,1,0;0,0"}, [4]int64{0, 3}}, {hexagonal, impl.Lattice{A: 7, B: 2, C: 1}, []string{"0,1,-1,-1;5,0"}, [4]int64{0, 3}}, {hexagonal, impl.Lattice{A: 3, B: 1, C: 1}, []string{"-1,-1,1,0;0,0", "1,0,0,1;1,0"}, [4]int64{0, 9}}, {hexagonal, impl.Lattice{A: 4, C: 4}, []string{"-1,-1,1,0;0,0", "0,1,1,0;0,0"}, [4]int64{0, 3}},
		{hexagonal, impl.Lattice{A: 1, C: 1}, []string{"0,-1,1,1;0,0"}, [4]int64{4, 3, 0, 1}}, {hexagonal, impl.Lattice{A: 2, C: 2}, []string{"1,1,-1,0;1,0", "1,0,0,1;1,0"}, [4]int64{16, 12, 0, 4}}, {hexagonal, impl.Lattice{A: 8, C: 8}, []string{"0,-1,1,1;0,0", "0,1,1,0;0,0", "1,0,0,1;0,1"}, [4]int64{256, 192, 0, 64}},
	} {
		group := groupBy(c.l, c.makers...)
		for i, n := range []int64{2, 3, 4, 6} {
			if count, code := impl.CountCentres(c.frame, c.l, group, n); count != c.want[i] || code != impl.ErrNone {
				t.Errorf("CountCentres(%d, %v, %q, %d) = %d, %d, want %d", c.frame, c.l, c.makers, n, count, code, c.want[i])
			}
		}
	}
}

// checkClasses checks promise 11 with the program's own results: for each shift of a group there are four,
// three, two or one centres of an order that its rotations have, and CentreOf finds as many.
func checkClasses(t *testing.T, p plane, group []impl.Motion) {
	t.Helper()
	order, _ := impl.RotationOrder(p.frame, p.l, group)
	shifts, _ := impl.ShiftsOf(p.frame, p.l, group)
	for n, full := range map[int64]int64{2: 4, 3: 3, 4: 2, 6: 1} {
		want := int64(0)
		if order%n == 0 {
			want = full * int64(len(shifts))
		}
		count, code := impl.CountCentres(p.frame, p.l, group, n)
		if count != want || code != impl.ErrNone {
			t.Errorf("CountCentres(%v, %s, %d) = %d, %d, want %d", p, plainListText(group), n, count, code, want)
		}
		classes := map[pointClass]bool{}
		for _, m := range group {
			for _, v := range nearLattice(p.l) {
				turn := impl.Motion{M: m.M, T: plus(m.T, v)}
				if r, _ := impl.OrderOfMotion(turn); r != n {
					continue
				}
				if numbers, denominator, code := impl.CentreOf(turn); code == impl.ErrNone {
					classes[classOf(p.l, numbers, denominator)] = true
				}
			}
		}
		if int64(len(classes)) != count {
			t.Errorf("CountCentres(%v, %s, %d) = %d, but CentreOf finds %d", p, plainListText(group), n, count, len(classes))
		}
	}
}

// checkFacts compares with the definitions, and checks the guarantee of chapter 11.
func checkFacts(t *testing.T, table mirrorTable, p plane, group []impl.Motion) impl.Facts {
	t.Helper()
	want, wantCode := impl.Facts{}, int64(impl.ErrState)
	if shiftCount(group) == 1 {
		want, wantCode = table.factsByDefinition(p, group), impl.ErrNone
	}
	facts, code := impl.FactsOf(p.frame, p.l, group)
	if facts != want || code != wantCode {
		t.Errorf("FactsOf(%v, %s) = %v, %d, want %v, %d", p, plainListText(group), facts, code, want, wantCode)
	}
	if n, code := impl.RotationOrder(p.frame, p.l, group); n != greatestOrder(group) || code != impl.ErrNone {
		t.Errorf("RotationOrder(%v, %s) = %d, %d, want %d", p, plainListText(group), n, code, greatestOrder(group))
	}
	for _, n := range []int64{2, 3, 4, 6} {
		centres := centresBySearch(p.l, group, n)
		if count, code := impl.CountCentres(p.frame, p.l, group, n); count != int64(len(centres)) || code != impl.ErrNone {
			t.Errorf("CountCentres(%v, %s, %d) = %d, %d, want %d", p, plainListText(group), n, count, code, len(centres))
		}
	}
	if mats := int64(len(matsOf(group))); facts.Mirrors > mats-facts.Mirrors || facts.Reflecting > facts.Mirrors || facts.Centred > facts.Mirrors {
		t.Errorf("FactsOf(%v, %s) = %v, with %d matrices", p, plainListText(group), facts, mats)
	}
	return facts
}

// glidingGroups has the groups, for a lattice with any number of cells, that one motion makes for each
// matrix and some shifts, and those that motions about a point make.
func glidingGroups(p plane) [][]impl.Motion {
	cells := plainCells(p.l)
	about := aboutPoint(p, cells[len(cells)/2])
	groups := [][]impl.Motion{closedByProducts(p.l, about)}
	for i, m := range about {
		groups = append(groups, closedByProducts(p.l, []impl.Motion{m, about[(i+3)%len(about)]}))
	}
	for i, mat := range matsOf(about) {
		for _, v := range []impl.Vec{{}, cells[i%len(cells)], cells[len(cells)/2], cells[len(cells)-1]} {
			groups = append(groups, closedByProducts(p.l, []impl.Motion{{M: mat, T: v}}))
		}
	}
	return groups
}

// TestFactsOfManyGroups also checks that all kinds of groups are there that have a name (chapter 12), with
// both values of Along where both may be.
func TestFactsOfManyGroups(t *testing.T) {
	table := newMirrorTable()
	found := map[impl.Facts]int{}
	for _, p := range fewPlanes() {
		for _, group := range groupsOf(p) {
			found[checkFacts(t, table, p, group)]++
			checkClasses(t, p, group)
		}
	}
	for i, p := range somePlanes() {
		for j, group := range glidingGroups(p) {
			found[checkFacts(t, table, p, group)]++
			if (i+j)%5 == 0 {
				checkClasses(t, p, group)
			}
		}
	}
	var want []impl.Facts
	for _, f := range [][4]int64{
		{1, 1, 0, 0}, {1, 1, 1, 0}, {1, 1, 1, 1}, {2, 2, 2, 2}, {2, 2, 2, 0}, {2, 2, 1, 0}, {2, 2, 0, 0}, {4, 4, 4, 2}, {4, 4, 2, 2}, {3, 3, 3, 3}, {6, 6, 6, 6},
	} {
		for _, along := range []bool{false, true} {
			want = append(want, impl.Facts{Rotation: f[0], Mirrors: f[1], Reflecting: f[2], Centred: f[3], Along: along})
		}
	}
	for _, n := range []int64{1, 2, 3, 4, 6} {
		want = append(want, impl.Facts{Rotation: n})
	}
	for _, f := range want {
		if found[f] < 2 {
			t.Errorf("%d groups with the facts %v", found[f], f)
		}
		delete(found, f)
	}
	// What is left stands for the groups with several shifts.
	if found[impl.Facts{}] < 100 || len(found) != 1 {
		t.Errorf("other facts: %v", found)
	}
}

// TestFactsOfGreatGroups has up to 768 motions.
func TestFactsOfGreatGroups(t *testing.T) {
	table := newMirrorTable()
	for _, p := range greatPlanes() {
		for _, group := range someGroups(p) {
			checkFacts(t, table, p, group)
			checkClasses(t, p, group)
		}
	}
}

// TestFactsOfPatterns takes the groups that chapter 10 finds, and checks that facts do not depend on where
// the motions' points are, and that calls do not depend on those before.
func TestFactsOfPatterns(t *testing.T) {
	table := newMirrorTable()
	for i, q := range paintedPatterns() {
		if i%7 != 0 {
			continue
		}
		group, _ := impl.GroupOfPattern(q)
		p := plane{q.Frame, leanBySearch(q).Lattice}
		facts := checkFacts(t, table, p, group)
		for _, v := range []impl.Vec{{}, {X: 1}, {X: -3, Y: 2}} {
			moved, _ := impl.ShiftedGroup(p.frame, p.l, group, v)
			if other, code := impl.FactsOf(p.frame, p.l, moved); other != facts || code != impl.ErrNone {
				t.Errorf("FactsOf(%v, %s) = %v, %d, want %v", p, plainListText(moved), other, code, facts)
			}
		}
	}
}

// wrongMirrors has matrices that are no reflections of a frame or do not map a lattice to itself: rotations,
// reflections of the other frame or of none, matrices with other orders, and ones that are not valid.
func wrongMirrors(p plane) []impl.Mat {
	mats := slices.Concat(pointMatsOf(impl.FrameSquare), pointMatsOf(impl.FrameHexagonal), smallMats(2), greatMats(), wrongMats(), wrappingMats())
	return slices.DeleteFunc(mats, func(m impl.Mat) bool { return slices.Contains(mirrorMats(p), m) })
}

func checkMirrorError(t *testing.T, p plane, m impl.Mat, want int64) {
	t.Helper()
	if isCentred, code := impl.IsCentred(p.frame, p.l, m); isCentred || code != want {
		t.Errorf("IsCentred(%v, %v) = %v, %d, want %d", p, m, isCentred, code, want)
	}
	if v, code := impl.InvariantVec(p.frame, p.l, m); v != (impl.Vec{}) || code != want {
		t.Errorf("InvariantVec(%v, %v) = %v, %d, want %d", p, m, v, code, want)
	}
}

// TestWrongMirrors also checks that reflections which map the lattice to itself, but are not of the frame,
// are among the wrong ones.
func TestWrongMirrors(t *testing.T) {
	rotations, foreign, moving, endless := 0, 0, 0, 0
	for _, p := range slices.Concat(fewPlanes(), greatPlanes(), []plane{{impl.FrameSquare, impl.Lattice{A: 5, B: 1, C: 1}}, {impl.FrameHexagonal, impl.Lattice{A: 3, C: 1}}}) {
		for _, m := range wrongMirrors(p) {
			checkMirrorError(t, p, m, impl.ErrRange)
			isPointMat := slices.Contains(pointMatsOf(p.frame), m)
			switch {
			case isPointMat && !isMirrorMat(m):
				rotations++
			case isPointMat:
				moving++
			case slices.Contains(smallMats(2), m) && keepsLattice(m, p.l) && isMirrorMat(m):
				foreign++
			case slices.Contains(smallMats(2), m) && keepsLattice(m, p.l):
				endless++
			}
		}
	}
	if min(rotations, foreign, moving, endless) < 20 {
		t.Errorf("%d rotations, %d reflections of no frame, %d that do not map the lattice to itself, %d others", rotations, foreign, moving, endless)
	}
}

func TestMayReflectOfUnsuitable(t *testing.T) {
	for _, p := range slices.Concat(fewPlanes(), greatPlanes()) {
		for _, m := range unsuitableMotions(p) {
			if ok, code := impl.MayReflect(p.frame, p.l, m); ok || code != impl.ErrRange {
				t.Errorf("MayReflect(%v, %v) = %v, %d", p, m, ok, code)
			}
		}
	}
}

func checkFactsError(t *testing.T, p plane, list []impl.Motion, want int64) {
	t.Helper()
	if facts, code := impl.FactsOf(p.frame, p.l, list); facts != (impl.Facts{}) || code != want {
		t.Errorf("FactsOf(%v, %s) = %v, %d, want %d", p, plainListText(list), facts, code, want)
	}
	if n, code := impl.RotationOrder(p.frame, p.l, list); n != 0 || code != want {
		t.Errorf("RotationOrder(%v, %s) = %d, %d, want %d", p, plainListText(list), n, code, want)
	}
	for _, n := range []int64{2, 3, 5} {
		if count, code := impl.CountCentres(p.frame, p.l, list, n); count != 0 || code != want {
			t.Errorf("CountCentres(%v, %s, %d) = %d, %d, want %d", p, plainListText(list), n, count, code, want)
		}
	}
}

// TestFactsOfNoGroups has lists with shifts, too, as ErrRange comes before ErrState.
func TestFactsOfNoGroups(t *testing.T) {
	for _, p := range slices.Concat(fewPlanes(), greatPlanes()) {
		for _, group := range someGroups(p) {
			if len(group) > 64 {
				continue
			}
			for _, list := range brokenGroups(p, group) {
				checkFactsError(t, p, list, impl.ErrRange)
			}
		}
		cells := plainCells(p.l)
		if last := (impl.Motion{M: unitMat, T: cells[len(cells)-1]}); len(cells) > 2 && len(closedByProducts(p.l, []impl.Motion{last})) > 2 {
			checkFactsError(t, p, []impl.Motion{identity, last}, impl.ErrRange)
		}
	}
}

// TestFactsOfGroupsWithShifts checks that a shift other than 0,0 is an error for FactsOf alone.
func TestFactsOfGroupsWithShifts(t *testing.T) {
	checked := 0
	for _, p := range fewPlanes() {
		for _, group := range groupsOf(p) {
			if shiftCount(group) == 1 {
				continue
			}
			checked++
			if facts, code := impl.FactsOf(p.frame, p.l, group); facts != (impl.Facts{}) || code != impl.ErrState {
				t.Errorf("FactsOf(%v, %s) = %v, %d", p, plainListText(group), facts, code)
			}
			if n, code := impl.RotationOrder(p.frame, p.l, group); n < 1 || code != impl.ErrNone {
				t.Errorf("RotationOrder(%v, %s) = %d, %d", p, plainListText(group), n, code)
			}
			for _, n := range []int64{2, 3, 4, 6} {
				if count, code := impl.CountCentres(p.frame, p.l, group, n); code != impl.ErrNone {
					t.Errorf("CountCentres(%v, %s, %d) = %d, %d", p, plainListText(group), n, count, code)
				}
			}
		}
	}
	if checked < 200 {
		t.Errorf("only %d groups with shifts", checked)
	}
}

// TestCentresOfOtherOrders has orders that no rotation has, 1, and ones that are in the list when they are
// cut off.
func TestCentresOfOtherOrders(t *testing.T) {
	for _, p := range slices.Concat(fewPlanes(), greatPlanes()) {
		for i, group := range someGroups(p) {
			if i > 5 {
				break
			}
			for _, n := range []int64{0, 1, 5, 7, 8, 12, -1, -2, -3, -4, -6, 24, 256 + 2, 1<<32 + 3, 1<<32 + 4, -1<<32 + 6, math.MaxInt64, math.MinInt64, math.MinInt64 + 2} {
				if count, code := impl.CountCentres(p.frame, p.l, group, n); count != 0 || code != impl.ErrRange {
					t.Errorf("CountCentres(%v, %s, %d) = %d, %d", p, plainListText(group), n, count, code)
				}
			}
		}
	}
}

// TestFactsOfWrongPlanes has other arguments that are wrong, too, as ErrInvalid comes first.
func TestFactsOfWrongPlanes(t *testing.T) {
	var planes []plane
	for _, l := range wrongLattices() {
		for _, frame := range append(wrongFrames(), bothFrames()...) {
			planes = append(planes, plane{frame, l})
		}
	}
	for _, frame := range wrongFrames() {
		for _, l := range []impl.Lattice{{A: 1, C: 1}, {A: 2, B: 1, C: 1}, {A: 8, C: 8}} {
			planes = append(planes, plane{frame, l})
		}
	}
	for _, p := range planes {
		for _, m := range []impl.Mat{{A: 1, D: -1}, {B: 1, C: 1}, {A: 1, B: 1, D: -1}, unitMat, {}, {A: 1, B: 5, D: -1}, {A: 1001, B: 1, C: 1}, {A: math.MinInt64, D: 1}} {
			checkMirrorError(t, p, m, impl.ErrInvalid)
			for _, v := range []impl.Vec{{}, {X: 2, Y: -3}, {X: 1001}, {Y: math.MinInt64}} {
				motion := impl.Motion{M: m, T: v}
				if ok, code := impl.MayReflect(p.frame, p.l, motion); ok || code != impl.ErrInvalid {
					t.Errorf("MayReflect(%v, %v) = %v, %d", p, motion, ok, code)
				}
				checkFactsError(t, p, []impl.Motion{motion, identity}, impl.ErrInvalid)
			}
		}
		for _, list := range [][]impl.Motion{nil, {identity}, {identity, identity}, {motionWith(-1, 0, 0, -1, 0, 0), identity}, {identity, motionWith(1, 0, 0, 1, 1, 0)}} {
			checkFactsError(t, p, list, impl.ErrInvalid)
		}
	}
}

func TestFactsChangeNoArguments(t *testing.T) {
	for _, p := range fewPlanes() {
		groups := groupsOf(p)
		for i := 0; i < len(groups); i += len(groups)/20 + 1 {
			group, broken := groups[i], append(slices.Clone(groups[i]), identity)
			for _, list := range [][]impl.Motion{group, broken} {
				checkIsKept(t, "FactsOf", list, func(s []impl.Motion) { impl.FactsOf(p.frame, p.l, s) })
				checkIsKept(t, "RotationOrder", list, func(s []impl.Motion) { impl.RotationOrder(p.frame, p.l, s) })
				checkIsKept(t, "CountCentres", list, func(s []impl.Motion) { impl.CountCentres(p.frame, p.l, s, 2) })
			}
		}
	}
}

// TestFactsKeepNoState calls for other groups in between.
func TestFactsKeepNoState(t *testing.T) {
	l := impl.Lattice{A: 4, C: 4}
	full, small := groupBy(l, "0,-1,1,0;0,0", "1,0,0,-1;0,0"), groupBy(l, "0,1,1,0;0,0")
	want := [2]impl.Facts{{Rotation: 4, Mirrors: 4, Reflecting: 4, Centred: 2, Along: true}, {Rotation: 1, Mirrors: 1, Reflecting: 1, Centred: 1}}
	for range 5 {
		for i, group := range [][]impl.Motion{full, small} {
			if facts, code := impl.FactsOf(impl.FrameSquare, l, group); facts != want[i] || code != impl.ErrNone {
				t.Errorf("FactsOf(%v, %s) = %v, %d, want %v", l, plainListText(group), facts, code, want[i])
			}
			if facts, code := impl.FactsOf(impl.FrameSquare, l, nil); facts != (impl.Facts{}) || code != impl.ErrRange {
				t.Errorf("FactsOf(%v, nil) = %v, %d", l, facts, code)
			}
		}
	}
}
