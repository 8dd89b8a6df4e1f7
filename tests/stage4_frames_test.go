package tests

import (
	"math"
	"slices"
	"testing"

	"loop.example/g00943/impl"
)

func bothFrames() []int64 { return []int64{impl.FrameSquare, impl.FrameHexagonal} }

// wrongFrames has numbers next to the frames, and numbers that become frames when they are cut off.
func wrongFrames() []int64 {
	return []int64{-1, 2, 3, -2, 256, 257, 1 << 32, 1<<32 + 1, math.MaxInt64, math.MinInt64}
}

// pointMatsOf has the lists that the definition gives, in order.
func pointMatsOf(frame int64) []impl.Mat {
	if frame == impl.FrameSquare {
		return []impl.Mat{
			{A: -1, D: -1}, {A: -1, D: 1}, {B: -1, C: -1}, {B: -1, C: 1},
			{B: 1, C: -1}, {B: 1, C: 1}, {A: 1, D: -1}, {A: 1, D: 1},
		}
	}
	return []impl.Mat{
		{A: -1, B: -1, D: 1}, {A: -1, B: -1, C: 1}, {A: -1, D: -1}, {A: -1, C: 1, D: 1},
		{B: -1, C: -1}, {B: -1, C: 1, D: 1}, {B: 1, C: -1, D: -1}, {B: 1, C: 1},
		{A: 1, C: -1, D: -1}, {A: 1, D: 1}, {A: 1, B: 1, C: -1}, {A: 1, B: 1, D: -1},
	}
}

// wrappingMats has matrices of great numbers that seem to keep all norms of a frame, the first two
// of the square and the third of the hexagonal one, if products overflow.
func wrappingMats() []impl.Mat {
	const great = 1 << 32
	return []impl.Mat{
		{A: 1, B: great, C: -great, D: 1}, {A: great, B: 1, C: 1, D: -great},
		{A: 1 + great, B: 2 * great, C: -2 * great, D: 1 - great},
	}
}

func norm(frame int64, v impl.Vec) int64 {
	if frame == impl.FrameHexagonal {
		return v.X*v.X + v.X*v.Y + v.Y*v.Y
	}
	return v.X*v.X + v.Y*v.Y
}

func image(m impl.Mat, v impl.Vec) impl.Vec {
	return impl.Vec{X: m.A*v.X + m.B*v.Y, Y: m.C*v.X + m.D*v.Y}
}

// boxVecs has all vectors with numbers of at most limit, in order.
func boxVecs(limit int64) []impl.Vec {
	var vecs []impl.Vec
	for x := -limit; x <= limit; x++ {
		for y := -limit; y <= limit; y++ {
			vecs = append(vecs, impl.Vec{X: x, Y: y})
		}
	}
	return vecs
}

// keepsLattice tells whether m maps both vectors of the basis of l, and so all of l, into l.
func keepsLattice(m impl.Mat, l impl.Lattice) bool {
	return hasVec(l, image(m, basisOf(l)[0])) && hasVec(l, image(m, basisOf(l)[1]))
}

// bestOf has the vectors of a list with the least norm, in the order of the list.
func bestOf(frame int64, list []impl.Vec) []impl.Vec {
	least := int64(math.MaxInt64)
	for _, v := range list {
		least = min(least, norm(frame, v))
	}
	return slices.DeleteFunc(slices.Clone(list), func(v impl.Vec) bool { return norm(frame, v) != least })
}

func TestIsFrame(t *testing.T) {
	if impl.FrameSquare != 0 || impl.FrameHexagonal != 1 {
		t.Errorf("FrameSquare = %d, FrameHexagonal = %d", impl.FrameSquare, impl.FrameHexagonal)
	}
	for _, frame := range bothFrames() {
		if !impl.IsFrame(frame) {
			t.Errorf("IsFrame(%d) = false", frame)
		}
	}
	for _, frame := range wrongFrames() {
		if impl.IsFrame(frame) {
			t.Errorf("IsFrame(%d) = true", frame)
		}
	}
}

func TestPointMats(t *testing.T) {
	for _, frame := range bothFrames() {
		list, code := impl.PointMats(frame)
		if !slices.Equal(list, pointMatsOf(frame)) || code != impl.ErrNone {
			t.Errorf("PointMats(%d) = %v, %d, want %v", frame, list, code, pointMatsOf(frame))
		}
	}
	for _, frame := range wrongFrames() {
		if list, code := impl.PointMats(frame); len(list) != 0 || code != impl.ErrInvalid {
			t.Errorf("PointMats(%d) = %v, %d", frame, list, code)
		}
	}
}

func TestIsPointMat(t *testing.T) {
	for _, c := range []struct {
		m                 impl.Mat
		square, hexagonal bool
	}{
		{impl.Mat{A: 1, D: 1}, true, true},
		{impl.Mat{A: -1, D: -1}, true, true},
		{impl.Mat{B: 1, C: 1}, true, true},
		{impl.Mat{B: -1, C: -1}, true, true},
		{impl.Mat{B: -1, C: 1}, true, false},
		{impl.Mat{B: 1, C: -1}, true, false},
		{impl.Mat{A: 1, D: -1}, true, false},
		{impl.Mat{A: -1, D: 1}, true, false},
		{impl.Mat{B: -1, C: 1, D: 1}, false, true},
		{impl.Mat{A: -1, B: -1, C: 1}, false, true},
		{impl.Mat{A: 1, B: 1, D: -1}, false, true},
		{impl.Mat{A: 1, B: 1, D: 1}, false, false},
		// It keeps the hexagonal norms of 1,0 and of 0,1, but not that of their sum.
		{impl.Mat{A: 1, B: -1, D: 1}, false, false},
		{impl.Mat{A: 1, B: 2, D: -1}, false, false},
		{impl.Mat{A: 1, B: 1, C: 1}, false, false},
		{impl.Mat{}, false, false},
		{impl.Mat{A: 1}, false, false},
		{impl.Mat{A: 1, C: 1}, false, false},
	} {
		if impl.IsPointMat(impl.FrameSquare, c.m) != c.square || impl.IsPointMat(impl.FrameHexagonal, c.m) != c.hexagonal {
			t.Errorf("IsPointMat(frame, %v) is not %v, %v", c.m, c.square, c.hexagonal)
		}
	}
}

func TestIsPointMatOnlyOfPointMats(t *testing.T) {
	var mats []impl.Mat
	for n := range int64(9 * 9 * 9 * 9) {
		mats = append(mats, impl.Mat{A: n%9 - 4, B: n/9%9 - 4, C: n/81%9 - 4, D: n/729 - 4})
	}
	mats = slices.Concat(mats, greatMats(), wrongMats(), wrappingMats())
	for _, m := range mats {
		for _, frame := range bothFrames() {
			if want := slices.Contains(pointMatsOf(frame), m); impl.IsPointMat(frame, m) != want {
				t.Errorf("IsPointMat(%d, %v) = %v", frame, m, !want)
			}
		}
		for _, frame := range wrongFrames() {
			if impl.IsPointMat(frame, m) {
				t.Errorf("IsPointMat(%d, %v) = true", frame, m)
			}
		}
	}
}

// TestPointMatsAreAllThatKeepNorms compares with the definition: of the valid matrices, the point
// matrices change no norm, and each other one changes that of a short vector.
func TestPointMatsAreAllThatKeepNorms(t *testing.T) {
	vecs := boxVecs(3)
	for _, m := range append(smallMats(3), greatMats()...) {
		for _, frame := range bothFrames() {
			changed := slices.ContainsFunc(vecs, func(v impl.Vec) bool { return norm(frame, image(m, v)) != norm(frame, v) })
			if impl.IsPointMat(frame, m) == changed {
				t.Errorf("IsPointMat(%d, %v) = %v", frame, m, changed)
			}
		}
	}
}

func TestNormOf(t *testing.T) {
	for _, c := range []struct {
		v                 impl.Vec
		square, hexagonal int64
	}{
		{impl.Vec{}, 0, 0},
		{impl.Vec{X: 1}, 1, 1},
		{impl.Vec{Y: -1}, 1, 1},
		{impl.Vec{X: 1, Y: 1}, 2, 3},
		{impl.Vec{X: 1, Y: -1}, 2, 1},
		{impl.Vec{X: 3, Y: -2}, 13, 7},
		{impl.Vec{X: -3, Y: 2}, 13, 7},
		{impl.Vec{X: 3, Y: 2}, 13, 19},
		{impl.Vec{X: 1000}, 1000000, 1000000},
		{impl.Vec{X: 1000, Y: 1000}, 2000000, 3000000},
		{impl.Vec{X: -1000, Y: -1000}, 2000000, 3000000},
		{impl.Vec{X: 1000, Y: -1000}, 2000000, 1000000},
		{impl.Vec{X: -1000, Y: 999}, 1998001, 999001},
	} {
		for frame, want := range []int64{c.square, c.hexagonal} {
			if n, code := impl.NormOf(int64(frame), c.v); n != want || code != impl.ErrNone {
				t.Errorf("NormOf(%d, %v) = %d, %d, want %d", frame, c.v, n, code, want)
			}
		}
	}
}

func TestNormOfInvalid(t *testing.T) {
	check := func(frame int64, v impl.Vec) {
		if n, code := impl.NormOf(frame, v); n != 0 || code != impl.ErrInvalid {
			t.Errorf("NormOf(%d, %v) = %d, %d", frame, v, n, code)
		}
	}
	for _, w := range wrongVecs() {
		for _, frame := range append(wrongFrames(), bothFrames()...) {
			check(frame, w)
		}
	}
	for _, frame := range wrongFrames() {
		for _, v := range edgeVecs() {
			check(frame, v)
		}
	}
}

// TestPointMatsKeepNorms checks promise 4 with the program's own list, images and norms.
func TestPointMatsKeepNorms(t *testing.T) {
	for _, frame := range bothFrames() {
		list, _ := impl.PointMats(frame)
		if len(list) == 0 {
			t.Fatalf("PointMats(%d) has none", frame)
		}
		for _, m := range list {
			for _, v := range slices.Concat(edgeVecs(), boxVecs(12)) {
				moved, code := impl.ApplyMat(m, v)
				if code == impl.ErrLimit {
					continue
				}
				before, _ := impl.NormOf(frame, v)
				after, code := impl.NormOf(frame, moved)
				if after != before || before != norm(frame, v) || code != impl.ErrNone {
					t.Errorf("NormOf(%d, %v) = %d, NormOf(%d, %v) = %d", frame, v, before, frame, moved, after)
				}
			}
		}
	}
}

func TestNearVecs(t *testing.T) {
	for _, c := range []struct {
		frame, n int64
		want     []impl.Vec
	}{
		{impl.FrameSquare, 0, []impl.Vec{{}}},
		{impl.FrameHexagonal, 0, []impl.Vec{{}}},
		{impl.FrameSquare, 1, []impl.Vec{{X: -1}, {Y: -1}, {}, {Y: 1}, {X: 1}}},
		{impl.FrameHexagonal, 1, []impl.Vec{{X: -1}, {X: -1, Y: 1}, {Y: -1}, {}, {Y: 1}, {X: 1, Y: -1}, {X: 1}}},
		{impl.FrameHexagonal, 2, []impl.Vec{{X: -1}, {X: -1, Y: 1}, {Y: -1}, {}, {Y: 1}, {X: 1, Y: -1}, {X: 1}}},
		{impl.FrameSquare, 2, []impl.Vec{{X: -1, Y: -1}, {X: -1}, {X: -1, Y: 1}, {Y: -1}, {}, {Y: 1}, {X: 1, Y: -1}, {X: 1}, {X: 1, Y: 1}}},
	} {
		if list, code := impl.NearVecs(c.frame, c.n); !slices.Equal(list, c.want) || code != impl.ErrNone {
			t.Errorf("NearVecs(%d, %d) = %v, %d, want %v", c.frame, c.n, list, code, c.want)
		}
	}
	for frame, count := range []int{317, 367} {
		if list, code := impl.NearVecs(int64(frame), 100); len(list) != count || code != impl.ErrNone {
			t.Errorf("NearVecs(%d, 100) has %d vectors, %d, want %d", frame, len(list), code, count)
		}
	}
}

func TestNearVecsOfAllNorms(t *testing.T) {
	for _, frame := range bothFrames() {
		for n := int64(0); n <= 100; n++ {
			want := slices.DeleteFunc(boxVecs(20), func(v impl.Vec) bool { return norm(frame, v) > n })
			if list, code := impl.NearVecs(frame, n); !slices.Equal(list, want) || code != impl.ErrNone {
				t.Errorf("NearVecs(%d, %d) = %v, %d, want %v", frame, n, list, code, want)
			}
		}
	}
}

func TestNearVecsErrors(t *testing.T) {
	outside := []int64{-1, 101, -100, 1 << 32, 1<<62 + 1, math.MaxInt64, math.MinInt64}
	for _, frame := range bothFrames() {
		for _, n := range outside {
			if list, code := impl.NearVecs(frame, n); len(list) != 0 || code != impl.ErrRange {
				t.Errorf("NearVecs(%d, %d) = %v, %d", frame, n, list, code)
			}
		}
	}
	for _, frame := range wrongFrames() {
		for _, n := range append(outside, 0, 50, 100) {
			if list, code := impl.NearVecs(frame, n); len(list) != 0 || code != impl.ErrInvalid {
				t.Errorf("NearVecs(%d, %d) = %v, %d", frame, n, list, code)
			}
		}
	}
}

func TestLatticeMats(t *testing.T) {
	turns := []impl.Mat{{A: -1, D: -1}, {B: -1, C: 1}, {B: 1, C: -1}, {A: 1, D: 1}}
	sixths := []impl.Mat{{A: -1, B: -1, C: 1}, {A: -1, D: -1}, {B: -1, C: 1, D: 1}, {B: 1, C: -1, D: -1}, {A: 1, D: 1}, {A: 1, B: 1, C: -1}}
	halves := []impl.Mat{{A: -1, D: -1}, {A: 1, D: 1}}
	upright := []impl.Mat{{A: -1, D: -1}, {A: -1, D: 1}, {A: 1, D: -1}, {A: 1, D: 1}}
	slanting := []impl.Mat{{A: -1, D: -1}, {B: -1, C: -1}, {B: 1, C: 1}, {A: 1, D: 1}}
	for _, c := range []struct {
		frame int64
		l     impl.Lattice
		want  []impl.Mat
	}{
		{impl.FrameSquare, impl.Lattice{A: 1, C: 1}, pointMatsOf(impl.FrameSquare)},
		{impl.FrameSquare, impl.Lattice{A: 2, B: 1, C: 1}, pointMatsOf(impl.FrameSquare)},
		{impl.FrameSquare, impl.Lattice{A: 8, C: 8}, pointMatsOf(impl.FrameSquare)},
		{impl.FrameSquare, impl.Lattice{A: 5, B: 2, C: 1}, turns},
		{impl.FrameSquare, impl.Lattice{A: 3, C: 2}, upright},
		{impl.FrameSquare, impl.Lattice{A: 2, B: 1, C: 3}, upright},
		{impl.FrameSquare, impl.Lattice{A: 64, C: 1}, upright},
		{impl.FrameSquare, impl.Lattice{A: 1, C: 64}, upright},
		{impl.FrameSquare, impl.Lattice{A: 3, B: 1, C: 1}, slanting},
		{impl.FrameSquare, impl.Lattice{A: 64, B: 63, C: 1}, slanting},
		{impl.FrameSquare, impl.Lattice{A: 7, B: 2, C: 1}, halves},
		{impl.FrameHexagonal, impl.Lattice{A: 1, C: 1}, pointMatsOf(impl.FrameHexagonal)},
		{impl.FrameHexagonal, impl.Lattice{A: 3, B: 1, C: 1}, pointMatsOf(impl.FrameHexagonal)},
		{impl.FrameHexagonal, impl.Lattice{A: 8, C: 8}, pointMatsOf(impl.FrameHexagonal)},
		{impl.FrameHexagonal, impl.Lattice{A: 7, B: 2, C: 1}, sixths},
		{impl.FrameHexagonal, impl.Lattice{A: 2, B: 1, C: 1}, slanting},
		{impl.FrameHexagonal, impl.Lattice{A: 64, B: 2, C: 1}, halves},
	} {
		if list, code := impl.LatticeMats(c.frame, c.l); !slices.Equal(list, c.want) || code != impl.ErrNone {
			t.Errorf("LatticeMats(%d, %v) = %v, %d, want %v", c.frame, c.l, list, code, c.want)
		}
	}
}

// TestLatticeMatsOfAllLattices also checks that a lattice is mapped to itself by these matrices and
// by no others.
func TestLatticeMatsOfAllLattices(t *testing.T) {
	for _, frame := range bothFrames() {
		for _, l := range latticesUpTo(64) {
			want := slices.DeleteFunc(pointMatsOf(frame), func(m impl.Mat) bool { return !keepsLattice(m, l) })
			if list, code := impl.LatticeMats(frame, l); !slices.Equal(list, want) || code != impl.ErrNone {
				t.Errorf("LatticeMats(%d, %v) = %v, %d, want %v", frame, l, list, code, want)
			}
			for _, m := range pointMatsOf(frame) {
				if r, _ := impl.MapLattice(frame, m, l); (r == l) != slices.Contains(want, m) {
					t.Errorf("MapLattice(%d, %v, %v) = %v", frame, m, l, r)
				}
			}
		}
	}
}

func TestShortestVecs(t *testing.T) {
	for _, c := range []struct {
		frame int64
		l     impl.Lattice
		want  []impl.Vec
	}{
		{impl.FrameSquare, impl.Lattice{A: 1, C: 1}, []impl.Vec{{X: -1}, {Y: -1}, {Y: 1}, {X: 1}}},
		{impl.FrameSquare, impl.Lattice{A: 2, B: 1, C: 1}, []impl.Vec{{X: -1, Y: -1}, {X: -1, Y: 1}, {X: 1, Y: -1}, {X: 1, Y: 1}}},
		{impl.FrameSquare, impl.Lattice{A: 5, B: 2, C: 1}, []impl.Vec{{X: -2, Y: -1}, {X: -1, Y: 2}, {X: 1, Y: -2}, {X: 2, Y: 1}}},
		{impl.FrameSquare, impl.Lattice{A: 3, C: 2}, []impl.Vec{{Y: -2}, {Y: 2}}},
		{impl.FrameSquare, impl.Lattice{A: 64, C: 1}, []impl.Vec{{Y: -1}, {Y: 1}}},
		{impl.FrameSquare, impl.Lattice{A: 1, C: 64}, []impl.Vec{{X: -1}, {X: 1}}},
		{impl.FrameSquare, impl.Lattice{A: 64, B: 63, C: 1}, []impl.Vec{{X: -1, Y: 1}, {X: 1, Y: -1}}},
		{impl.FrameSquare, impl.Lattice{A: 8, C: 8}, []impl.Vec{{X: -8}, {Y: -8}, {Y: 8}, {X: 8}}},
		{impl.FrameHexagonal, impl.Lattice{A: 1, C: 1}, []impl.Vec{{X: -1}, {X: -1, Y: 1}, {Y: -1}, {Y: 1}, {X: 1, Y: -1}, {X: 1}}},
		{impl.FrameHexagonal, impl.Lattice{A: 3, B: 1, C: 1}, []impl.Vec{{X: -2, Y: 1}, {X: -1, Y: -1}, {X: -1, Y: 2}, {X: 1, Y: -2}, {X: 1, Y: 1}, {X: 2, Y: -1}}},
		{impl.FrameHexagonal, impl.Lattice{A: 7, B: 2, C: 1}, []impl.Vec{{X: -3, Y: 2}, {X: -2, Y: -1}, {X: -1, Y: 3}, {X: 1, Y: -3}, {X: 2, Y: 1}, {X: 3, Y: -2}}},
		{impl.FrameHexagonal, impl.Lattice{A: 2, B: 1, C: 1}, []impl.Vec{{X: -1, Y: 1}, {X: 1, Y: -1}}},
		{impl.FrameHexagonal, impl.Lattice{A: 64, C: 1}, []impl.Vec{{Y: -1}, {Y: 1}}},
	} {
		if list, code := impl.ShortestVecs(c.frame, c.l); !slices.Equal(list, c.want) || code != impl.ErrNone {
			t.Errorf("ShortestVecs(%d, %v) = %v, %d, want %v", c.frame, c.l, list, code, c.want)
		}
	}
}

// TestShortestVecsBySearch looks at all vectors with numbers of at most 12, as no lattice has a
// shortest vector with a norm above 74, by Hermite's constant.
func TestShortestVecsBySearch(t *testing.T) {
	box := slices.DeleteFunc(boxVecs(12), func(v impl.Vec) bool { return v == impl.Vec{} })
	for _, frame := range bothFrames() {
		for _, l := range latticesUpTo(64) {
			inside := slices.DeleteFunc(slices.Clone(box), func(v impl.Vec) bool { return !hasVec(l, v) })
			want := bestOf(frame, inside)
			if list, code := impl.ShortestVecs(frame, l); !slices.Equal(list, want) || code != impl.ErrNone {
				t.Errorf("ShortestVecs(%d, %v) = %v, %d, want %v", frame, l, list, code, want)
			}
		}
	}
}

func TestReducedBasis(t *testing.T) {
	for _, c := range []struct {
		frame int64
		l     impl.Lattice
		u, v  impl.Vec
	}{
		{impl.FrameSquare, impl.Lattice{A: 1, C: 1}, impl.Vec{X: 1}, impl.Vec{Y: 1}},
		{impl.FrameSquare, impl.Lattice{A: 5, B: 2, C: 1}, impl.Vec{X: 2, Y: 1}, impl.Vec{X: -1, Y: 2}},
		{impl.FrameSquare, impl.Lattice{A: 2, B: 1, C: 1}, impl.Vec{X: 1, Y: 1}, impl.Vec{X: -1, Y: 1}},
		{impl.FrameSquare, impl.Lattice{A: 3, C: 2}, impl.Vec{Y: 2}, impl.Vec{X: -3}},
		{impl.FrameSquare, impl.Lattice{A: 64, C: 1}, impl.Vec{Y: 1}, impl.Vec{X: -64}},
		{impl.FrameSquare, impl.Lattice{A: 1, C: 64}, impl.Vec{X: 1}, impl.Vec{Y: 64}},
		{impl.FrameSquare, impl.Lattice{A: 8, C: 8}, impl.Vec{X: 8}, impl.Vec{Y: 8}},
		{impl.FrameSquare, impl.Lattice{A: 7, B: 3, C: 1}, impl.Vec{X: 1, Y: -2}, impl.Vec{X: 3, Y: 1}},
		// Two vectors with the least norm stand beside the last shortest one in each of the following.
		{impl.FrameSquare, impl.Lattice{A: 2, B: 1, C: 3}, impl.Vec{X: 2}, impl.Vec{X: 1, Y: 3}},
		{impl.FrameSquare, impl.Lattice{A: 6, B: 3, C: 1}, impl.Vec{Y: 2}, impl.Vec{X: -3, Y: 1}},
		{impl.FrameSquare, impl.Lattice{A: 7, B: 1, C: 1}, impl.Vec{X: 1, Y: 1}, impl.Vec{X: -3, Y: 4}},
		{impl.FrameSquare, impl.Lattice{A: 7, B: 6, C: 1}, impl.Vec{X: 1, Y: -1}, impl.Vec{X: 4, Y: 3}},
		{impl.FrameHexagonal, impl.Lattice{A: 1, C: 1}, impl.Vec{X: 1}, impl.Vec{Y: 1}},
		{impl.FrameHexagonal, impl.Lattice{A: 3, B: 1, C: 1}, impl.Vec{X: 2, Y: -1}, impl.Vec{X: 1, Y: 1}},
		{impl.FrameHexagonal, impl.Lattice{A: 7, B: 2, C: 1}, impl.Vec{X: 3, Y: -2}, impl.Vec{X: 2, Y: 1}},
		{impl.FrameHexagonal, impl.Lattice{A: 8, C: 8}, impl.Vec{X: 8}, impl.Vec{Y: 8}},
		{impl.FrameHexagonal, impl.Lattice{A: 1, C: 7}, impl.Vec{X: 1}, impl.Vec{X: -3, Y: 7}},
		{impl.FrameHexagonal, impl.Lattice{A: 7, C: 1}, impl.Vec{Y: 1}, impl.Vec{X: -7, Y: 4}},
		{impl.FrameHexagonal, impl.Lattice{A: 2, B: 1, C: 1}, impl.Vec{X: 1, Y: -1}, impl.Vec{X: 1, Y: 1}},
		{impl.FrameHexagonal, impl.Lattice{A: 64, C: 1}, impl.Vec{Y: 1}, impl.Vec{X: -64, Y: 32}},
		{impl.FrameHexagonal, impl.Lattice{A: 1, C: 64}, impl.Vec{X: 1}, impl.Vec{X: -32, Y: 64}},
	} {
		if u, v, code := impl.ReducedBasis(c.frame, c.l); u != c.u || v != c.v || code != impl.ErrNone {
			t.Errorf("ReducedBasis(%d, %v) = %v, %v, %d, want %v, %v", c.frame, c.l, u, v, code, c.u, c.v)
		}
	}
}

// TestReducedBasisBySearch finds u among all vectors with numbers of at most 12 and v among those of
// at most 80, as v differs from a right angle to u by half of u at most, and its norm is thus below
// 4200.
func TestReducedBasisBySearch(t *testing.T) {
	near := slices.DeleteFunc(boxVecs(12), func(v impl.Vec) bool { return v == impl.Vec{} })
	far := boxVecs(80)
	for _, frame := range bothFrames() {
		for _, l := range latticesUpTo(64) {
			shortest := bestOf(frame, slices.DeleteFunc(slices.Clone(near), func(v impl.Vec) bool { return !hasVec(l, v) }))
			wantU := shortest[len(shortest)-1]
			var partners []impl.Vec
			for _, v := range far {
				if det(wantU, v) == l.A*l.C && hasVec(l, v) {
					partners = append(partners, v)
				}
			}
			best := bestOf(frame, partners)
			wantV := best[len(best)-1]
			if u, v, code := impl.ReducedBasis(frame, l); u != wantU || v != wantV || code != impl.ErrNone {
				t.Errorf("ReducedBasis(%d, %v) = %v, %v, %d, want %v, %v", frame, l, u, v, code, wantU, wantV)
			}
		}
	}
}

// TestReducedBasisSpansItsLattice checks both vectors with the program's own functions.
func TestReducedBasisSpansItsLattice(t *testing.T) {
	for _, frame := range bothFrames() {
		for _, l := range latticesUpTo(64) {
			u, v, code := impl.ReducedBasis(frame, l)
			d, _ := impl.DetOf(u, v)
			r, _ := impl.LatticeOf(u, v)
			list, _ := impl.ShortestVecs(frame, l)
			if code != impl.ErrNone || d != l.A*l.C || r != l || len(list) == 0 || u != list[len(list)-1] {
				t.Errorf("ReducedBasis(%d, %v) = %v, %v, %d with the lattice %v", frame, l, u, v, code, r)
			}
		}
	}
}

func checkLatticeIsInvalid(t *testing.T, frame int64, l impl.Lattice) {
	if list, code := impl.LatticeMats(frame, l); len(list) != 0 || code != impl.ErrInvalid {
		t.Errorf("LatticeMats(%d, %v) = %v, %d", frame, l, list, code)
	}
	if list, code := impl.ShortestVecs(frame, l); len(list) != 0 || code != impl.ErrInvalid {
		t.Errorf("ShortestVecs(%d, %v) = %v, %d", frame, l, list, code)
	}
	if u, v, code := impl.ReducedBasis(frame, l); u != (impl.Vec{}) || v != (impl.Vec{}) || code != impl.ErrInvalid {
		t.Errorf("ReducedBasis(%d, %v) = %v, %v, %d", frame, l, u, v, code)
	}
	// The last four are no point matrices, so that the order of the errors shows.
	for _, m := range []impl.Mat{{A: 1, D: 1}, {B: 1, C: 1}, {A: 1, B: 1, D: 1}, {A: 2, D: 1}, {}, {A: math.MinInt64, D: 1}} {
		if r, code := impl.MapLattice(frame, m, l); r != (impl.Lattice{}) || code != impl.ErrInvalid {
			t.Errorf("MapLattice(%d, %v, %v) = %v, %d", frame, m, l, r, code)
		}
	}
}

func TestInvalidFramesAndLattices(t *testing.T) {
	for _, frame := range bothFrames() {
		for _, w := range wrongLattices() {
			checkLatticeIsInvalid(t, frame, w)
		}
	}
	for _, frame := range wrongFrames() {
		for _, l := range append(wrongLattices(), impl.Lattice{A: 1, C: 1}, impl.Lattice{A: 5, B: 2, C: 1}, impl.Lattice{A: 8, B: 7, C: 8}, impl.Lattice{A: 64, C: 1}) {
			checkLatticeIsInvalid(t, frame, l)
		}
	}
}

func TestMapLattice(t *testing.T) {
	for _, c := range []struct {
		frame   int64
		m       impl.Mat
		l, want impl.Lattice
	}{
		{impl.FrameSquare, impl.Mat{A: 1, D: -1}, impl.Lattice{A: 5, B: 2, C: 1}, impl.Lattice{A: 5, B: 3, C: 1}},
		{impl.FrameSquare, impl.Mat{B: 1, C: 1}, impl.Lattice{A: 5, B: 2, C: 1}, impl.Lattice{A: 5, B: 3, C: 1}},
		{impl.FrameSquare, impl.Mat{B: -1, C: 1}, impl.Lattice{A: 5, B: 2, C: 1}, impl.Lattice{A: 5, B: 2, C: 1}},
		{impl.FrameSquare, impl.Mat{B: -1, C: 1}, impl.Lattice{A: 3, C: 2}, impl.Lattice{A: 2, C: 3}},
		{impl.FrameSquare, impl.Mat{B: 1, C: 1}, impl.Lattice{A: 64, C: 1}, impl.Lattice{A: 1, C: 64}},
		{impl.FrameSquare, impl.Mat{A: -1, D: 1}, impl.Lattice{A: 64, B: 1, C: 1}, impl.Lattice{A: 64, B: 63, C: 1}},
		{impl.FrameSquare, impl.Mat{A: 1, D: 1}, impl.Lattice{A: 8, B: 7, C: 8}, impl.Lattice{A: 8, B: 7, C: 8}},
		{impl.FrameSquare, impl.Mat{A: -1, D: -1}, impl.Lattice{A: 1, C: 1}, impl.Lattice{A: 1, C: 1}},
		{impl.FrameHexagonal, impl.Mat{B: -1, C: 1, D: 1}, impl.Lattice{A: 2, C: 1}, impl.Lattice{A: 2, B: 1, C: 1}},
		{impl.FrameHexagonal, impl.Mat{B: -1, C: 1, D: 1}, impl.Lattice{A: 1, C: 2}, impl.Lattice{A: 2, C: 1}},
		{impl.FrameHexagonal, impl.Mat{B: -1, C: 1, D: 1}, impl.Lattice{A: 2, B: 1, C: 1}, impl.Lattice{A: 1, C: 2}},
		{impl.FrameHexagonal, impl.Mat{B: 1, C: 1}, impl.Lattice{A: 7, B: 2, C: 1}, impl.Lattice{A: 7, B: 4, C: 1}},
		{impl.FrameHexagonal, impl.Mat{A: 1, B: 1, D: -1}, impl.Lattice{A: 64, C: 1}, impl.Lattice{A: 64, B: 63, C: 1}},
	} {
		if l, code := impl.MapLattice(c.frame, c.m, c.l); l != c.want || code != impl.ErrNone {
			t.Errorf("MapLattice(%d, %v, %v) = %v, %d, want %v", c.frame, c.m, c.l, l, code, c.want)
		}
	}
}

// TestPointMatsKeepIndices uses that a lattice with the same index that has the images of both
// vectors of the basis is the lattice of all images.
func TestPointMatsKeepIndices(t *testing.T) {
	for _, frame := range bothFrames() {
		for _, m := range pointMatsOf(frame) {
			for _, l := range latticesUpTo(64) {
				r, code := impl.MapLattice(frame, m, l)
				if code != impl.ErrNone || !impl.IsLattice(r) || r.A*r.C != l.A*l.C {
					t.Fatalf("MapLattice(%d, %v, %v) = %v, %d", frame, m, l, r, code)
				}
				if !hasVec(r, image(m, basisOf(l)[0])) || !hasVec(r, image(m, basisOf(l)[1])) {
					t.Errorf("MapLattice(%d, %v, %v) = %v", frame, m, l, r)
				}
			}
		}
	}
}

func TestMapLatticeByOtherMats(t *testing.T) {
	mats := slices.Concat(wrongMats(), wrappingMats(), greatMats(), smallMats(3))
	for _, frame := range bothFrames() {
		for _, m := range mats {
			if slices.Contains(pointMatsOf(frame), m) {
				continue
			}
			for _, l := range []impl.Lattice{{A: 1, C: 1}, {A: 5, B: 2, C: 1}, {A: 8, B: 7, C: 8}, {A: 1, C: 64}} {
				if r, code := impl.MapLattice(frame, m, l); r != (impl.Lattice{}) || code != impl.ErrRange {
					t.Errorf("MapLattice(%d, %v, %v) = %v, %d", frame, m, l, r, code)
				}
			}
		}
	}
}

// checkIsNew overwrites one list that a call returned and checks those of two other calls.
func checkIsNew[T comparable](t *testing.T, name string, call func() []T, value T) {
	first, second := call(), call()
	want := slices.Clone(second)
	overwrite(first, value)
	if third := call(); !slices.Equal(second, want) || !slices.Equal(third, want) {
		t.Errorf("%s = %v, then %v, want %v", name, second, third, want)
	}
}

func TestFrameListsShareNoMemory(t *testing.T) {
	wrongMat, wrongVec := impl.Mat{A: -7}, impl.Vec{X: -7, Y: -7}
	for _, frame := range bothFrames() {
		checkIsNew(t, "PointMats", func() []impl.Mat { list, _ := impl.PointMats(frame); return list }, wrongMat)
		for n := int64(0); n <= 100; n++ {
			checkIsNew(t, "NearVecs", func() []impl.Vec { list, _ := impl.NearVecs(frame, n); return list }, wrongVec)
		}
		for _, l := range latticesUpTo(64) {
			checkIsNew(t, "LatticeMats", func() []impl.Mat { list, _ := impl.LatticeMats(frame, l); return list }, wrongMat)
			checkIsNew(t, "ShortestVecs", func() []impl.Vec { list, _ := impl.ShortestVecs(frame, l); return list }, wrongVec)
		}
	}
}
