package tests

import (
	"math"
	"regexp"
	"slices"
	"strconv"
	"strings"
	"testing"

	"loop.example/g00943/impl"
)

var identity = impl.Motion{M: unitMat}

// The following functions say by the definitions, without limits, what the program should find.

func isTurnOrFlip(m impl.Mat) bool { return orderByPowers(m) != 0 }

func place(m impl.Motion, v impl.Vec) impl.Vec {
	u := image(m.M, v)
	return impl.Vec{X: u.X + m.T.X, Y: u.Y + m.T.Y}
}

// composed does n first, as T of the result is where 0,0 goes.
func composed(m impl.Motion, n impl.Motion) impl.Motion {
	return impl.Motion{M: product(m.M, n.M), T: place(m, n.T)}
}

func isLimitedVec(v impl.Vec) bool {
	return v.X >= -1000 && v.X <= 1000 && v.Y >= -1000 && v.Y <= 1000
}

// orderByRepeating needs no more than 12 repetitions, as the order of a matrix is at most 6.
func orderByRepeating(m impl.Motion) int64 {
	power := m
	for n := int64(1); n <= 12; n++ {
		if power == identity {
			return n
		}
		power = composed(m, power)
	}
	return 0
}

func kindByDefinition(m impl.Motion) int64 {
	isShift := m.M == unitMat
	isFlip := m.M.A*m.M.D-m.M.B*m.M.C == -1
	switch {
	case isShift && m.T == impl.Vec{}:
		return impl.MotionIdentity
	case isShift:
		return impl.MotionShift
	case !isFlip:
		return impl.MotionRotation
	case composed(m, m) == identity:
		return impl.MotionReflection
	}
	return impl.MotionGlide
}

// centreByRule solves the two equations of a centre by Cramer's rule.
func centreByRule(m impl.Motion) (impl.Vec, int64) {
	first, second := impl.Vec{X: 1 - m.M.A, Y: -m.M.C}, impl.Vec{X: -m.M.B, Y: 1 - m.M.D}
	den := det(first, second)
	c := impl.Vec{X: det(m.T, second), Y: det(first, m.T)}
	d := divisor(divisor(c.X, c.Y), den)
	if den < 0 {
		d = -d
	}
	return impl.Vec{X: c.X / d, Y: c.Y / d}, den / d
}

func plainMotionText(m impl.Motion) string {
	text := ""
	for _, n := range []int64{m.M.A, m.M.B, m.M.C, m.M.D} {
		text += "," + strconv.FormatInt(n, 10)
	}
	return text[1:] + ";" + strconv.FormatInt(m.T.X, 10) + "," + strconv.FormatInt(m.T.Y, 10)
}

func motionWith(a, b, c, d, x, y int64) impl.Motion {
	return impl.Motion{M: impl.Mat{A: a, B: b, C: c, D: d}, T: impl.Vec{X: x, Y: y}}
}

// turnMats and flipMats have small and great rotations and reflections, turnMats the unit too.
func turnMats() []impl.Mat {
	return slices.DeleteFunc(slices.Concat(smallMats(3), greatMats()), func(m impl.Mat) bool {
		return !isTurnOrFlip(m) || m.A*m.D-m.B*m.C != 1
	})
}

func flipMats() []impl.Mat {
	return slices.DeleteFunc(slices.Concat(smallMats(3), greatMats()), func(m impl.Mat) bool {
		return !isTurnOrFlip(m) || m.A*m.D-m.B*m.C != -1
	})
}

// otherMats has valid matrices of infinite order with both determinants, so that they are neither
// rotations nor reflections.
func otherMats() []impl.Mat {
	return slices.DeleteFunc(slices.Concat(smallMats(3), greatMats()), isTurnOrFlip)
}

// someVecs has the ends of the coordinates, and vectors for which glides and centres differ.
func someVecs() []impl.Vec {
	return []impl.Vec{
		{}, {X: 1}, {Y: 1}, {X: -1, Y: 1}, {X: 2, Y: -2}, {X: 3, Y: 4}, {X: -5, Y: 7}, {X: 12, Y: -30},
		{X: 500, Y: -500}, {X: 501, Y: 501}, {X: -999, Y: 998}, {X: 1000}, {Y: -1000},
		{X: 1000, Y: 1000}, {X: -1000, Y: 1000}, {X: -1000, Y: -1000},
	}
}

func motionsOf(mats []impl.Mat, vecs []impl.Vec) []impl.Motion {
	var motions []impl.Motion
	for _, m := range mats {
		for _, v := range vecs {
			motions = append(motions, impl.Motion{M: m, T: v})
		}
	}
	return motions
}

func someMotions() []impl.Motion {
	return motionsOf(slices.Concat(turnMats(), flipMats()), someVecs())
}

// fewMotions has motions of all kinds and orders, few enough for all pairs.
func fewMotions() []impl.Motion {
	mats := []impl.Mat{{A: 18, B: 49, C: -7, D: -19}, {A: -1, B: 1000, D: 1}, {A: 999, B: 1000, C: -998, D: -999}}
	for _, frame := range bothFrames() {
		mats = append(mats, pointMatsOf(frame)...)
	}
	return motionsOf(mats, []impl.Vec{{}, {X: 1}, {X: -2, Y: 3}, {X: 400, Y: -601}, {X: 1000}, {X: -1000, Y: 1000}})
}

// wrongMotions has motions that are wrong in their matrix alone, in their vector alone and in both.
func wrongMotions() []impl.Motion {
	wrong := slices.Concat(wrongMats(), otherMats())
	return slices.Concat(
		motionsOf(wrong, []impl.Vec{{}, {X: 1, Y: -2}, {X: 1000, Y: 1000}}),
		motionsOf([]impl.Mat{unitMat, {A: -1, D: -1}, {B: -1, C: 1, D: 1}, {A: 1, D: -1}, {A: 1, B: 1000, D: -1}, {}, {A: 1, B: 1, D: 1}, {A: math.MinInt64, D: 1}}, wrongVecs()),
	)
}

func TestMotionKinds(t *testing.T) {
	kinds := []int64{impl.MotionIdentity, impl.MotionShift, impl.MotionRotation, impl.MotionReflection, impl.MotionGlide}
	for want, kind := range kinds {
		if kind != int64(want) {
			t.Errorf("motion kind %d is %d", want, kind)
		}
	}
}

func TestIsMotion(t *testing.T) {
	for _, m := range slices.Concat(someMotions(), motionsOf([]impl.Mat{unitMat, {B: 1, C: 1}}, edgeVecs())) {
		if !impl.IsMotion(m) {
			t.Errorf("IsMotion(%v) = false", m)
		}
	}
	for _, w := range wrongMotions() {
		if impl.IsMotion(w) {
			t.Errorf("IsMotion(%v) = true", w)
		}
	}
	for n := range int64(9 * 9 * 9 * 9) {
		m := impl.Mat{A: n%9 - 4, B: n/9%9 - 4, C: n/81%9 - 4, D: n/729 - 4}
		det := m.A*m.D - m.B*m.C
		want := (det == 1 || det == -1) && isTurnOrFlip(m)
		if impl.IsMotion(impl.Motion{M: m, T: impl.Vec{X: 1}}) != want {
			t.Errorf("IsMotion with the matrix %v = %v", m, !want)
		}
	}
}

// TestIsMotionAgreesWithMatKind uses that MatKind is 0 just for the other matrices.
func TestIsMotionAgreesWithMatKind(t *testing.T) {
	for _, m := range slices.Concat(smallMats(5), greatMats(), wrongMats()) {
		kind, code := impl.MatKind(m)
		if want := code == impl.ErrNone && kind != 0; impl.IsMotion(impl.Motion{M: m}) != want {
			t.Errorf("IsMotion with the matrix %v = %v", m, !want)
		}
	}
}

func TestComposeMotions(t *testing.T) {
	for _, c := range []struct {
		m, n, want impl.Motion
		code       int64
	}{
		{motionWith(0, -1, 1, 0, 3, 1), motionWith(-1, 0, 0, -1, 3, 4), motionWith(0, 1, -1, 0, -1, 4), impl.ErrNone},
		{motionWith(-1, 0, 0, -1, 3, 4), motionWith(0, -1, 1, 0, 3, 1), motionWith(0, 1, -1, 0, 0, 3), impl.ErrNone},
		{motionWith(1, 0, 0, 1, 2, 5), motionWith(1, 0, 0, 1, -3, 1), motionWith(1, 0, 0, 1, -1, 6), impl.ErrNone},
		{motionWith(0, 1, 1, 0, 1, 0), motionWith(0, -1, 1, 1, 10, 20), motionWith(1, 1, 0, -1, 21, 10), impl.ErrNone},
		{motionWith(1, 0, 0, 1, 999, 0), motionWith(1, 0, 0, 1, 1, -1000), motionWith(1, 0, 0, 1, 1000, -1000), impl.ErrNone},
		// The vector on the way is not valid, but that of the result is.
		{motionWith(1, 1, 0, -1, -1, 0), motionWith(1, 0, 0, 1, 1000, 1), motionWith(1, 1, 0, -1, 1000, -1), impl.ErrNone},
		{motionWith(-1, 1000, 0, 1, -1000, 0), motionWith(1, 0, 0, 1, 0, 2), motionWith(-1, 1000, 0, 1, 1000, 2), impl.ErrNone},
		{motionWith(-1, 500, 0, 1, 0, 0), motionWith(-1, 500, 0, 1, 0, 0), motionWith(1, 0, 0, 1, 0, 0), impl.ErrNone},
		{motionWith(1, 0, 0, 1, 1000, 0), motionWith(1, 0, 0, 1, 1, 0), impl.Motion{}, impl.ErrLimit},
		{motionWith(1, 0, 0, 1, 0, -1), motionWith(1, 0, 0, 1, 0, -1000), impl.Motion{}, impl.ErrLimit},
		{motionWith(-1, 1000, 0, 1, 0, 0), motionWith(1, 0, 0, -1, 0, 2), impl.Motion{}, impl.ErrLimit},
		// One number of the matrix is out of range: A, B, C and D in turn.
		{motionWith(-1, 1000, 0, 1, 0, 0), motionWith(1, 0, -1, -1, 0, 0), impl.Motion{}, impl.ErrLimit},
		{motionWith(-1, 1000, 0, 1, 0, 0), motionWith(1, 1, 0, -1, 0, 0), impl.Motion{}, impl.ErrLimit},
		{motionWith(1, 0, 1000, -1, 0, 0), motionWith(1, 0, -1, -1, 0, 0), impl.Motion{}, impl.ErrLimit},
		{motionWith(1, 0, 1000, -1, 0, 0), motionWith(1, 1, 0, -1, 0, 0), impl.Motion{}, impl.ErrLimit},
		// The matrix of the result is a shear, or has infinite order otherwise.
		{motionWith(0, -1, 1, 0, 0, 0), motionWith(0, -1, 1, 1, 0, 0), impl.Motion{}, impl.ErrState},
		{motionWith(1, 1, 0, -1, 0, 0), motionWith(1, 0, 0, -1, 7, 0), impl.Motion{}, impl.ErrState},
		{motionWith(1, 600, 0, -1, 0, 0), motionWith(1, -400, 0, -1, 0, 0), impl.Motion{}, impl.ErrState},
		{motionWith(1, 600, 0, -1, 0, 0), motionWith(1, -401, 0, -1, 0, 0), impl.Motion{}, impl.ErrLimit},
		{motionWith(1, 0, 0, -1, 0, 0), motionWith(0, -1, 1, 1, 0, 0), impl.Motion{}, impl.ErrState},
		// Both wrong: ErrState is checked behind ErrLimit.
		{motionWith(0, -1, 1, 0, 1000, 0), motionWith(0, -1, 1, 1, 0, -1), impl.Motion{}, impl.ErrLimit},
		{motionWith(0, -1, 1, 0, 999, 0), motionWith(0, -1, 1, 1, 0, -1), impl.Motion{}, impl.ErrState},
		{motionWith(0, -1, 1, 0, 0, -1000), motionWith(0, -1, 1, 1, -1, 0), impl.Motion{}, impl.ErrLimit},
	} {
		if m, code := impl.ComposeMotions(c.m, c.n); m != c.want || code != c.code {
			t.Errorf("ComposeMotions(%v, %v) = %v, %d, want %v, %d", c.m, c.n, m, code, c.want, c.code)
		}
	}
}

// TestComposeAllPairs compares with the definition, and counts that each code occurs.
func TestComposeAllPairs(t *testing.T) {
	counts := map[int64]int{}
	motions := fewMotions()
	for _, m := range motions {
		for _, n := range motions {
			want, wantCode := composed(m, n), int64(impl.ErrNone)
			if !isLimitedMat(want.M) || !isLimitedVec(want.T) {
				want, wantCode = impl.Motion{}, impl.ErrLimit
			} else if !isTurnOrFlip(want.M) {
				want, wantCode = impl.Motion{}, impl.ErrState
			}
			if r, code := impl.ComposeMotions(m, n); r != want || code != wantCode {
				t.Errorf("ComposeMotions(%v, %v) = %v, %d, want %v, %d", m, n, r, code, want, wantCode)
			}
			counts[wantCode]++
		}
	}
	for _, code := range []int64{impl.ErrNone, impl.ErrLimit, impl.ErrState} {
		if counts[code] < 1000 {
			t.Errorf("only %d pairs with the code %d", counts[code], code)
		}
	}
}

// TestComposedMotionsAreDoneOneAfterTheOther uses the program's own images.
func TestComposedMotionsAreDoneOneAfterTheOther(t *testing.T) {
	for _, frame := range bothFrames() {
		motions := motionsOf(pointMatsOf(frame), []impl.Vec{{}, {X: 4, Y: -1}, {X: -2, Y: 30}})
		for _, m := range motions {
			for _, n := range motions {
				both, code := impl.ComposeMotions(m, n)
				if code != impl.ErrNone {
					t.Fatalf("ComposeMotions(%v, %v) = %v, %d", m, n, both, code)
				}
				for _, v := range boxVecs(1) {
					first, _ := impl.ApplyMotion(n, v)
					want, _ := impl.ApplyMotion(m, first)
					if r, code := impl.ApplyMotion(both, v); r != want || code != impl.ErrNone {
						t.Errorf("ApplyMotion(%v, %v) = %v, %d, want %v", both, v, r, code, want)
					}
				}
			}
		}
	}
}

// TestComposeMotionsInvalid has partners with which the result would be beyond a limit or have a
// wrong matrix, so that the order of the errors shows.
func TestComposeMotionsInvalid(t *testing.T) {
	partners := []impl.Motion{{M: unitMat}, {M: unitMat, T: impl.Vec{X: 1000, Y: 1000}}, {M: impl.Mat{B: -1, C: 1}}, {M: impl.Mat{A: -1, B: 1000, D: 1}}}
	for _, w := range wrongMotions() {
		for _, m := range append(partners, w) {
			if r, code := impl.ComposeMotions(w, m); r != (impl.Motion{}) || code != impl.ErrInvalid {
				t.Errorf("ComposeMotions(%v, %v) = %v, %d", w, m, r, code)
			}
			if r, code := impl.ComposeMotions(m, w); r != (impl.Motion{}) || code != impl.ErrInvalid {
				t.Errorf("ComposeMotions(%v, %v) = %v, %d", m, w, r, code)
			}
		}
	}
}

func TestInverseMotion(t *testing.T) {
	for _, c := range []struct {
		m, want impl.Motion
		code    int64
	}{
		{motionWith(1, 0, 0, 1, 0, 0), motionWith(1, 0, 0, 1, 0, 0), impl.ErrNone},
		{motionWith(1, 0, 0, 1, 1000, -1000), motionWith(1, 0, 0, 1, -1000, 1000), impl.ErrNone},
		{motionWith(0, -1, 1, 0, 3, 1), motionWith(0, 1, -1, 0, -1, 3), impl.ErrNone},
		{motionWith(-1, 0, 0, -1, 1000, 7), motionWith(-1, 0, 0, -1, 1000, 7), impl.ErrNone},
		{motionWith(0, -1, 1, 1, 5, 2), motionWith(1, 1, -1, 0, -7, 5), impl.ErrNone},
		{motionWith(1, 0, 0, -1, 1, 3), motionWith(1, 0, 0, -1, -1, 3), impl.ErrNone},
		{motionWith(0, -1, 1, 1, 999, 1), motionWith(1, 1, -1, 0, -1000, 999), impl.ErrNone},
		{motionWith(0, -1, 1, 1, 1000, 1), impl.Motion{}, impl.ErrLimit},
		{motionWith(1, 1, -1, 0, 1, 1000), impl.Motion{}, impl.ErrLimit},
		{motionWith(1, 1000, 0, -1, 0, 1), motionWith(1, 1000, 0, -1, -1000, 1), impl.ErrNone},
		{motionWith(1, 1000, 0, -1, 1, 1), impl.Motion{}, impl.ErrLimit},
		{motionWith(1, 0, 1000, -1, 1, -1), impl.Motion{}, impl.ErrLimit},
	} {
		if m, code := impl.InverseMotion(c.m); m != c.want || code != c.code {
			t.Errorf("InverseMotion(%v) = %v, %d, want %v, %d", c.m, m, code, c.want, c.code)
		}
	}
}

// TestMotionAndInverseCancel checks the guarantee of chapter 5 with the program's own products. The
// inverse is not valid just if the vector that goes to 0,0 is not.
func TestMotionAndInverseCancel(t *testing.T) {
	inverses, limits := 0, 0
	for _, m := range slices.Concat(someMotions(), fewMotions()) {
		n, code := impl.InverseMotion(m)
		back, _ := impl.InverseMat(m.M)
		source := image(back, m.T)
		if !isLimitedVec(source) {
			limits++
			if n != (impl.Motion{}) || code != impl.ErrLimit {
				t.Errorf("InverseMotion(%v) = %v, %d", m, n, code)
			}
			continue
		}
		inverses++
		if code != impl.ErrNone || !impl.IsMotion(n) {
			t.Fatalf("InverseMotion(%v) = %v, %d", m, n, code)
		}
		for _, pair := range [][2]impl.Motion{{m, n}, {n, m}} {
			if r, code := impl.ComposeMotions(pair[0], pair[1]); r != identity || code != impl.ErrNone {
				t.Errorf("ComposeMotions(%v, %v) = %v, %d", pair[0], pair[1], r, code)
			}
		}
		if r, code := impl.InverseMotion(n); r != m || code != impl.ErrNone {
			t.Errorf("InverseMotion(%v) = %v, %d, want %v", n, r, code, m)
		}
		for _, v := range boxVecs(1) {
			u, code := impl.ApplyMotion(m, v)
			if code == impl.ErrLimit {
				continue
			}
			if w, code := impl.ApplyMotion(n, u); w != v || code != impl.ErrNone {
				t.Errorf("ApplyMotion(%v, %v) = %v, %d, want %v", n, u, w, code, v)
			}
		}
	}
	if inverses < 500 || limits < 100 {
		t.Errorf("only %d inverses and %d beyond the limit", inverses, limits)
	}
}

func TestApplyMotion(t *testing.T) {
	for _, c := range []struct {
		m       impl.Motion
		v, want impl.Vec
		code    int64
	}{
		{motionWith(1, 0, 0, 1, 0, 0), impl.Vec{X: 1000, Y: -1000}, impl.Vec{X: 1000, Y: -1000}, impl.ErrNone},
		{motionWith(0, -1, 1, 0, 3, 1), impl.Vec{X: 2, Y: 5}, impl.Vec{X: -2, Y: 3}, impl.ErrNone},
		{motionWith(1, 0, 0, 1, 1000, -1000), impl.Vec{}, impl.Vec{X: 1000, Y: -1000}, impl.ErrNone},
		{motionWith(1, 0, 0, 1, 1000, 0), impl.Vec{X: 1}, impl.Vec{}, impl.ErrLimit},
		{motionWith(1, 0, 0, 1, -1, 0), impl.Vec{X: -1000}, impl.Vec{}, impl.ErrLimit},
		{motionWith(1, 0, 0, 1, 0, 1), impl.Vec{Y: 1000}, impl.Vec{}, impl.ErrLimit},
		{motionWith(1, 0, 0, 1, 0, -1000), impl.Vec{Y: -1}, impl.Vec{}, impl.ErrLimit},
		{motionWith(1, 0, 0, 1, -2000, 0), impl.Vec{X: 1000}, impl.Vec{}, impl.ErrInvalid},
		{motionWith(1, 0, 0, 1, -1, 0), impl.Vec{X: 1001}, impl.Vec{}, impl.ErrInvalid},
		// The image by the matrix alone is not valid, but the sum is.
		{motionWith(1, 1, 0, -1, -1000, 0), impl.Vec{X: 1000, Y: 1000}, impl.Vec{X: 1000, Y: -1000}, impl.ErrNone},
		{motionWith(1, 1, 0, -1, -999, 0), impl.Vec{X: 1000, Y: 1000}, impl.Vec{}, impl.ErrLimit},
		{motionWith(1, 0, 1000, -1, 0, -500), impl.Vec{X: 1, Y: -500}, impl.Vec{X: 1, Y: 1000}, impl.ErrNone},
	} {
		if v, code := impl.ApplyMotion(c.m, c.v); v != c.want || code != c.code {
			t.Errorf("ApplyMotion(%v, %v) = %v, %d, want %v, %d", c.m, c.v, v, code, c.want, c.code)
		}
	}
	for _, m := range someMotions() {
		for _, v := range someVecs() {
			want, wantCode := place(m, v), int64(impl.ErrNone)
			if !isLimitedVec(want) {
				want, wantCode = impl.Vec{}, impl.ErrLimit
			}
			if r, code := impl.ApplyMotion(m, v); r != want || code != wantCode {
				t.Errorf("ApplyMotion(%v, %v) = %v, %d, want %v, %d", m, v, r, code, want, wantCode)
			}
		}
	}
}

func TestApplyMotionInvalid(t *testing.T) {
	check := func(m impl.Motion, v impl.Vec) {
		if r, code := impl.ApplyMotion(m, v); r != (impl.Vec{}) || code != impl.ErrInvalid {
			t.Errorf("ApplyMotion(%v, %v) = %v, %d", m, v, r, code)
		}
	}
	for _, w := range wrongMotions() {
		for _, v := range append(wrongVecs(), impl.Vec{}, impl.Vec{X: 1000, Y: 1000}) {
			check(w, v)
		}
	}
	for _, m := range fewMotions() {
		for _, v := range wrongVecs() {
			check(m, v)
		}
	}
}

func TestKindAndOrderOfMotion(t *testing.T) {
	for _, c := range []struct {
		m           impl.Motion
		kind, order int64
	}{
		{motionWith(1, 0, 0, 1, 0, 0), impl.MotionIdentity, 1},
		{motionWith(1, 0, 0, 1, 1, 0), impl.MotionShift, 0},
		{motionWith(1, 0, 0, 1, 0, -1000), impl.MotionShift, 0},
		{motionWith(-1, 0, 0, -1, 0, 0), impl.MotionRotation, 2},
		{motionWith(-1, 0, 0, -1, 3, 4), impl.MotionRotation, 2},
		{motionWith(-1, -1, 1, 0, 1, 0), impl.MotionRotation, 3},
		{motionWith(0, -1, 1, 0, 0, 1000), impl.MotionRotation, 4},
		{motionWith(0, -1, 1, 1, 5, 0), impl.MotionRotation, 6},
		{motionWith(239, 338, -169, -239, 1, 1), impl.MotionRotation, 4},
		{motionWith(1, 0, 0, -1, 0, 0), impl.MotionReflection, 2},
		{motionWith(1, 0, 0, -1, 0, 3), impl.MotionReflection, 2},
		{motionWith(1, 0, 0, -1, 1, 3), impl.MotionGlide, 0},
		{motionWith(-1, 0, 0, 1, 3, 0), impl.MotionReflection, 2},
		{motionWith(-1, 0, 0, 1, 3, 1), impl.MotionGlide, 0},
		{motionWith(0, 1, 1, 0, 2, -2), impl.MotionReflection, 2},
		{motionWith(0, 1, 1, 0, 2, 2), impl.MotionGlide, 0},
		{motionWith(0, -1, -1, 0, 2, 2), impl.MotionReflection, 2},
		{motionWith(1, 1, 0, -1, -1, 2), impl.MotionReflection, 2},
		{motionWith(1, 1, 0, -1, 1, 2), impl.MotionGlide, 0},
		{motionWith(1, 1000, 0, -1, 1000, -2), impl.MotionReflection, 2},
		{motionWith(1, 1000, 0, -1, 1000, 1000), impl.MotionGlide, 0},
	} {
		kind, kindCode := impl.KindOfMotion(c.m)
		order, orderCode := impl.OrderOfMotion(c.m)
		if kind != c.kind || order != c.order || kindCode != impl.ErrNone || orderCode != impl.ErrNone {
			t.Errorf("motion %v: %d, %d, %d, %d, want %d, %d", c.m, kind, kindCode, order, orderCode, c.kind, c.order)
		}
	}
}

func TestKindAndOrderByDefinition(t *testing.T) {
	counts := map[int64]int{}
	for _, m := range slices.Concat(someMotions(), fewMotions()) {
		want := kindByDefinition(m)
		if kind, code := impl.KindOfMotion(m); kind != want || code != impl.ErrNone {
			t.Errorf("KindOfMotion(%v) = %d, %d, want %d", m, kind, code, want)
		}
		counts[want]++
		if order, code := impl.OrderOfMotion(m); order != orderByRepeating(m) || code != impl.ErrNone {
			t.Errorf("OrderOfMotion(%v) = %d, %d, want %d", m, order, code, orderByRepeating(m))
		}
	}
	for kind := int64(impl.MotionIdentity); kind <= impl.MotionGlide; kind++ {
		if counts[kind] == 0 {
			t.Errorf("no motion of the kind %d", kind)
		}
	}
}

// TestMotionRepeatedByItsOrder uses the program's own products: none before the order is the identity.
func TestMotionRepeatedByItsOrder(t *testing.T) {
	for _, frame := range bothFrames() {
		for _, m := range motionsOf(pointMatsOf(frame), boxVecs(3)) {
			order, _ := impl.OrderOfMotion(m)
			power := identity
			for n := int64(1); n <= 12; n++ {
				power, _ = impl.ComposeMotions(m, power)
				if isUnit := power == identity; isUnit != (order > 0 && n%order == 0) {
					t.Errorf("OrderOfMotion(%v) = %d, done %d times it is %v", m, order, n, power)
				}
			}
		}
	}
}

func TestCentreOf(t *testing.T) {
	for _, c := range []struct {
		m    impl.Motion
		want impl.Vec
		den  int64
		code int64
	}{
		{motionWith(-1, 0, 0, -1, 0, 0), impl.Vec{}, 1, impl.ErrNone},
		{motionWith(-1, 0, 0, -1, 3, 4), impl.Vec{X: 3, Y: 4}, 2, impl.ErrNone},
		{motionWith(-1, 0, 0, -1, 4, -3), impl.Vec{X: 4, Y: -3}, 2, impl.ErrNone},
		{motionWith(-1, 0, 0, -1, -6, 4), impl.Vec{X: -3, Y: 2}, 1, impl.ErrNone},
		{motionWith(-1, 0, 0, -1, -999, 1000), impl.Vec{X: -999, Y: 1000}, 2, impl.ErrNone},
		{motionWith(0, -1, 1, 0, 3, 1), impl.Vec{X: 1, Y: 2}, 1, impl.ErrNone},
		{motionWith(0, -1, 1, 0, 1, 0), impl.Vec{X: 1, Y: 1}, 2, impl.ErrNone},
		{motionWith(0, 1, -1, 0, -1, 0), impl.Vec{X: -1, Y: 1}, 2, impl.ErrNone},
		{motionWith(0, 1, -1, 0, 0, 0), impl.Vec{}, 1, impl.ErrNone},
		{motionWith(-1, -1, 1, 0, 1, 0), impl.Vec{X: 1, Y: 1}, 3, impl.ErrNone},
		{motionWith(-1, -1, 1, 0, -1, 2), impl.Vec{X: -1, Y: 1}, 1, impl.ErrNone},
		{motionWith(-1, -1, 1, 0, 3, 0), impl.Vec{X: 1, Y: 1}, 1, impl.ErrNone},
		{motionWith(0, 1, -1, -1, -4, 1), impl.Vec{X: -7, Y: 5}, 3, impl.ErrNone},
		{motionWith(0, -1, 1, 1, 5, 2), impl.Vec{X: -2, Y: 7}, 1, impl.ErrNone},
		{motionWith(1, 1, -1, 0, 5, 2), impl.Vec{X: 7, Y: -5}, 1, impl.ErrNone},
		{motionWith(239, 338, -169, -239, 0, 1), impl.Vec{X: 169, Y: -119}, 1, impl.ErrNone},
		// The numerators may exceed the limit only before they are divided.
		{motionWith(0, -1, 1, 0, 1000, 1), impl.Vec{}, 0, impl.ErrLimit},
		{motionWith(0, -1, 1, 0, 999, 1), impl.Vec{X: 499, Y: 500}, 1, impl.ErrNone},
		{motionWith(0, -1, 1, 0, 1000, 1000), impl.Vec{Y: 1000}, 1, impl.ErrNone},
		{motionWith(0, -1, 1, 0, 1000, -999), impl.Vec{}, 0, impl.ErrLimit},
		{motionWith(-1, -1, 1, 0, 1000, 1), impl.Vec{X: 333, Y: 334}, 1, impl.ErrNone},
		{motionWith(-1, -1, 1, 0, 1000, 2), impl.Vec{}, 0, impl.ErrLimit},
		{motionWith(0, -1, 1, 1, 999, 1), impl.Vec{X: -1, Y: 1000}, 1, impl.ErrNone},
		{motionWith(0, -1, 1, 1, 1000, 1), impl.Vec{}, 0, impl.ErrLimit},
		{motionWith(18, 49, -7, -19, 1000, 1000), impl.Vec{}, 0, impl.ErrLimit},
		{motionWith(1, 0, 0, 1, 0, 0), impl.Vec{}, 0, impl.ErrState},
		{motionWith(1, 0, 0, 1, 1000, 1000), impl.Vec{}, 0, impl.ErrState},
		{motionWith(1, 0, 0, -1, 0, 0), impl.Vec{}, 0, impl.ErrState},
		{motionWith(0, 1, 1, 0, 2, -2), impl.Vec{}, 0, impl.ErrState},
		{motionWith(1, 1000, 0, -1, 1000, 1000), impl.Vec{}, 0, impl.ErrState},
	} {
		if v, den, code := impl.CentreOf(c.m); v != c.want || den != c.den || code != c.code {
			t.Errorf("CentreOf(%v) = %v, %d, %d, want %v, %d, %d", c.m, v, den, code, c.want, c.den, c.code)
		}
	}
}

// checkCentre needs no other centre: a rotation moves all points but one, and that one has just one
// least denominator.
func checkCentre(t *testing.T, m impl.Motion) int64 {
	t.Helper()
	c, den, code := impl.CentreOf(m)
	if code == impl.ErrLimit {
		if want, _ := centreByRule(m); isLimitedVec(want) || c != (impl.Vec{}) || den != 0 {
			t.Fatalf("CentreOf(%v) = %v, %d, %d, want %v", m, c, den, code, want)
		}
		return code
	}
	if code != impl.ErrNone || den < 1 || !isLimitedVec(c) || divisor(divisor(c.X, c.Y), den) != 1 {
		t.Fatalf("CentreOf(%v) = %v, %d, %d", m, c, den, code)
	}
	scaled := impl.Motion{M: m.M, T: impl.Vec{X: den * m.T.X, Y: den * m.T.Y}}
	if place(scaled, c) != c {
		t.Fatalf("CentreOf(%v) = %v, %d is moved", m, c, den)
	}
	return code
}

// TestCentresAreNotMoved checks promise 5 for all matrices of the orders 3, 4 and 6, and for half
// turns.
func TestCentresAreNotMoved(t *testing.T) {
	counts := map[int64]int{}
	for trace := int64(-1); trace <= 1; trace++ {
		eachMatWith(trace, 1, func(m impl.Mat) {
			for _, v := range someVecs() {
				counts[checkCentre(t, impl.Motion{M: m, T: v})]++
			}
		})
	}
	for _, v := range slices.Concat(someVecs(), edgeVecs(), boxVecs(10)) {
		counts[checkCentre(t, impl.Motion{M: impl.Mat{A: -1, D: -1}, T: v})]++
	}
	if counts[impl.ErrNone] < 10000 || counts[impl.ErrLimit] < 10000 {
		t.Errorf("only %d centres and %d beyond the limit", counts[impl.ErrNone], counts[impl.ErrLimit])
	}
}

// TestCentreStaysInItsPlace checks promise 5 with the program's own images, in a plane that is as
// many times as fine as the denominator says.
func TestCentreStaysInItsPlace(t *testing.T) {
	denominators := map[int64]int{}
	for _, frame := range bothFrames() {
		for _, m := range motionsOf(pointMatsOf(frame), boxVecs(6)) {
			if kind, _ := impl.KindOfMotion(m); kind != impl.MotionRotation {
				continue
			}
			c, den, code := impl.CentreOf(m)
			fine, _ := impl.ScaleVec(m.T, den)
			if v, applied := impl.ApplyMotion(impl.Motion{M: m.M, T: fine}, c); v != c || code != impl.ErrNone || applied != impl.ErrNone {
				t.Errorf("CentreOf(%v) = %v, %d, %d, moved to %v", m, c, den, code, v)
			}
			denominators[den]++
		}
	}
	if len(denominators) != 3 || denominators[1] == 0 || denominators[2] == 0 || denominators[3] == 0 {
		t.Errorf("denominators %v", denominators)
	}
}

// TestCentreOfOtherKinds has shifts so great that a limit would be exceeded too.
func TestCentreOfOtherKinds(t *testing.T) {
	for _, m := range slices.Concat(someMotions(), fewMotions()) {
		if kindByDefinition(m) == impl.MotionRotation {
			continue
		}
		if c, den, code := impl.CentreOf(m); c != (impl.Vec{}) || den != 0 || code != impl.ErrState {
			t.Errorf("CentreOf(%v) = %v, %d, %d", m, c, den, code)
		}
	}
}

func TestTwiceGlide(t *testing.T) {
	for _, c := range []struct {
		m    impl.Motion
		want impl.Vec
		code int64
	}{
		{motionWith(1, 0, 0, -1, 0, 0), impl.Vec{}, impl.ErrNone},
		{motionWith(1, 0, 0, -1, 0, 1000), impl.Vec{}, impl.ErrNone},
		{motionWith(1, 0, 0, -1, 1, 3), impl.Vec{X: 2}, impl.ErrNone},
		{motionWith(-1, 0, 0, 1, 9, -4), impl.Vec{Y: -8}, impl.ErrNone},
		{motionWith(0, 1, 1, 0, 3, 2), impl.Vec{X: 5, Y: 5}, impl.ErrNone},
		{motionWith(0, -1, -1, 0, 3, 2), impl.Vec{X: 1, Y: -1}, impl.ErrNone},
		{motionWith(1, 1, 0, -1, 3, 2), impl.Vec{X: 8}, impl.ErrNone},
		{motionWith(1, 0, 0, -1, -500, 1), impl.Vec{X: -1000}, impl.ErrNone},
		{motionWith(1, 0, 0, -1, -501, 1), impl.Vec{}, impl.ErrLimit},
		{motionWith(-1, 0, 0, 1, 1, 501), impl.Vec{}, impl.ErrLimit},
		{motionWith(1, 1000, 0, -1, 0, 1), impl.Vec{X: 1000}, impl.ErrNone},
		{motionWith(1, 1000, 0, -1, 1, 1), impl.Vec{}, impl.ErrLimit},
		// M maps T beyond the limit, but the sum is within it.
		{motionWith(1, 1, 0, -1, -600, 1000), impl.Vec{X: -200}, impl.ErrNone},
		{motionWith(1, 1000, 0, -1, -1000, 3), impl.Vec{X: 1000}, impl.ErrNone},
		{motionWith(1, 0, 0, 1, 0, 0), impl.Vec{}, impl.ErrState},
		{motionWith(1, 0, 0, 1, 1000, 0), impl.Vec{}, impl.ErrState},
		{motionWith(-1, 0, 0, -1, 1, 0), impl.Vec{}, impl.ErrState},
		{motionWith(-1, -1, 1, 0, 1, 0), impl.Vec{}, impl.ErrState},
		{motionWith(0, -1, 1, 0, 1000, 1000), impl.Vec{}, impl.ErrState},
		{motionWith(0, -1, 1, 1, 1000, 1000), impl.Vec{}, impl.ErrState},
	} {
		if v, code := impl.TwiceGlide(c.m); v != c.want || code != c.code {
			t.Errorf("TwiceGlide(%v) = %v, %d, want %v, %d", c.m, v, code, c.want, c.code)
		}
	}
}

// TestTwiceGlideShifts compares with the motion done twice, for all reflections among the matrices.
func TestTwiceGlideShifts(t *testing.T) {
	for _, m := range slices.Concat(someMotions(), fewMotions()) {
		want, wantCode := composed(m, m).T, int64(impl.ErrNone)
		if kind := kindByDefinition(m); kind != impl.MotionReflection && kind != impl.MotionGlide {
			want, wantCode = impl.Vec{}, impl.ErrState
		} else if !isLimitedVec(want) {
			want, wantCode = impl.Vec{}, impl.ErrLimit
		}
		v, code := impl.TwiceGlide(m)
		if v != want || code != wantCode {
			t.Errorf("TwiceGlide(%v) = %v, %d, want %v, %d", m, v, code, want, wantCode)
		}
		if code == impl.ErrNone {
			kind, _ := impl.KindOfMotion(m)
			if both, code := impl.ComposeMotions(m, m); both != (impl.Motion{M: unitMat, T: v}) || code != impl.ErrNone || (kind == impl.MotionReflection) != (v == impl.Vec{}) {
				t.Errorf("TwiceGlide(%v) = %v, ComposeMotions = %v, %d", m, v, both, code)
			}
		}
	}
}

func TestInvalidMotions(t *testing.T) {
	for _, w := range wrongMotions() {
		if m, code := impl.InverseMotion(w); m != (impl.Motion{}) || code != impl.ErrInvalid {
			t.Errorf("InverseMotion(%v) = %v, %d", w, m, code)
		}
		if n, code := impl.KindOfMotion(w); n != 0 || code != impl.ErrInvalid {
			t.Errorf("KindOfMotion(%v) = %d, %d", w, n, code)
		}
		if n, code := impl.OrderOfMotion(w); n != 0 || code != impl.ErrInvalid {
			t.Errorf("OrderOfMotion(%v) = %d, %d", w, n, code)
		}
		if v, n, code := impl.CentreOf(w); v != (impl.Vec{}) || n != 0 || code != impl.ErrInvalid {
			t.Errorf("CentreOf(%v) = %v, %d, %d", w, v, n, code)
		}
		if v, code := impl.TwiceGlide(w); v != (impl.Vec{}) || code != impl.ErrInvalid {
			t.Errorf("TwiceGlide(%v) = %v, %d", w, v, code)
		}
		if s := impl.MotionText(w); s != "" {
			t.Errorf("MotionText(%v) = %q", w, s)
		}
		if m, ok := impl.ReadMotion(plainMotionText(w)); m != (impl.Motion{}) || ok {
			t.Errorf("ReadMotion(%q) = %v, %v", plainMotionText(w), m, ok)
		}
	}
}

func TestMotionText(t *testing.T) {
	for _, c := range []struct {
		m    impl.Motion
		want string
	}{
		{motionWith(1, 0, 0, 1, 0, 0), "1,0,0,1;0,0"},
		{motionWith(1, 0, 0, 1, 1000, -1000), "1,0,0,1;1000,-1000"},
		{motionWith(0, -1, 1, 1, 5, -12), "0,-1,1,1;5,-12"},
		{motionWith(18, 49, -7, -19, -3, 4), "18,49,-7,-19;-3,4"},
		{motionWith(-1, 1000, 0, 1, 0, 10), "-1,1000,0,1;0,10"},
	} {
		if s := impl.MotionText(c.m); s != c.want {
			t.Errorf("MotionText(%v) = %q, want %q", c.m, s, c.want)
		}
	}
}

func TestMotionIsFoundFromItsText(t *testing.T) {
	motions := slices.Concat(someMotions(), fewMotions(), motionsOf([]impl.Mat{{B: 1, C: 1}}, edgeVecs()))
	for n := int64(-1000); n <= 1000; n++ {
		motions = append(motions, impl.Motion{M: impl.Mat{A: 1, B: n, D: -1}, T: impl.Vec{X: n}},
			impl.Motion{M: impl.Mat{A: -1, C: n, D: 1}, T: impl.Vec{Y: n}})
	}
	for _, m := range motions {
		s := impl.MotionText(m)
		if s != plainMotionText(m) {
			t.Errorf("MotionText(%v) = %q", m, s)
		}
		if r, ok := impl.ReadMotion(s); r != m || !ok {
			t.Errorf("ReadMotion(%q) = %v, %v, want %v", s, r, ok, m)
		}
	}
}

func TestReadMotionRejects(t *testing.T) {
	for _, s := range []string{
		"", ";", ",,,;,", "1,0,0,1", "1,0,0,1;", ";0,0", "0,0", "1,0,0,1;0", "1,0,0,1;,0", "1,0,0,1;0,", "1,0,0;0,0", "1,0,0,1,0,0",
		"1,0,0,1,0;0", "1,0,0,1;0,0;", ";1,0,0,1;0,0", "1,0,0,1;;0,0", "1,0,0,1;0,0,", "1,0,0,1,;0,0", "1,0,0,1;0,0,0", "1,0,0,1,0;0,0",
		"1,0,0,1;0,0;0,0", "1,0,0,1;1,0,0,1", "1,0,0,1;1,0,0,1;0,0", "0,0;1,0,0,1", "1;0;0;1;0;0", "1,0;0,1,0,0", "1,0,0,1:0,0", "1,0,0,1 0,0",
		"01,0,0,1;0,0", "1,00,0,1;0,0", "1,0,-0,1;0,0", "1,0,0,+1;0,0", "1,0,0,1;00,0", "1,0,0,1;0,-0", "1,0,0,1;+1,0", "1,0,0,1;01,0", "1,0,0,1;1,-01",
		" 1,0,0,1;0,0", "1,0,0,1;0,0 ", "1,0,0,1 ;0,0", "1,0,0,1; 0,0", "1, 0,0,1;0,0", "1,0,0,1;0 ,0", "1,0,0,1;0,0\n", "\t1,0,0,1;0,0", "1,0,0,1;0,0\x00",
		"1,0,0,1;1001,0", "1,0,0,1;0,-1001", "1,1001,0,-1;0,0", "1,1,0,1;0,0", "1,1,1,0;0,0", "2,1,1,1;0,0", "-1,1,0,-1;0,0", "0,0,0,0;0,0", "1,0,0,2;0,0", "1,0,0,0;0,0",
		"1,0,0,1;18446744073709551616,0", "1,0,0,1;9223372036854775808,0", "18446744073709551617,0,0,1;0,0",
		"1,0,0,1\uff1b0,0", "1,0,0,1;\u22121,0", "1,0,0,1;\uff11,0", "1,0,0,1;0,\xff", "(1,0,0,1;0,0)", "1.0,0,0,1;0,0", "0x1,0,0,1;0,0", "a,b,c,d;e,f",
		strings.Repeat(";", 1000), strings.Repeat("1,0,0,1;0,0", 100), "1,0,0,1;" + strings.Repeat("0", 1000) + ",0",
	} {
		if m, ok := impl.ReadMotion(s); m != (impl.Motion{}) || ok {
			t.Errorf("ReadMotion(%q) = %v, %v", s, m, ok)
		}
	}
}

var motionForm = regexp.MustCompile(`^(0|-?[1-9][0-9]*),(0|-?[1-9][0-9]*),(0|-?[1-9][0-9]*),(0|-?[1-9][0-9]*);(0|-?[1-9][0-9]*),(0|-?[1-9][0-9]*)$`)

// readPlainly expects numbers that are not too long for an int64.
func readPlainly(s string) (impl.Motion, bool) {
	parts := motionForm.FindStringSubmatch(s)
	if parts == nil {
		return impl.Motion{}, false
	}
	var n [6]int64
	for i := range n {
		n[i], _ = strconv.ParseInt(parts[i+1], 10, 64)
	}
	m := impl.Motion{M: impl.Mat{A: n[0], B: n[1], C: n[2], D: n[3]}, T: impl.Vec{X: n[4], Y: n[5]}}
	det := m.M.A*m.M.D - m.M.B*m.M.C
	if !isLimitedMat(m.M) || !isLimitedVec(m.T) || det != 1 && det != -1 || !isTurnOrFlip(m.M) {
		return impl.Motion{}, false
	}
	return m, true
}

// TestReadMotionOfChangedTexts changes one or two letters of texts: just the texts of motions are read.
func TestReadMotionOfChangedTexts(t *testing.T) {
	const letters = "0129-+,; \n"
	accepted := 0
	check := func(s string) {
		want, isText := readPlainly(s)
		if isText {
			accepted++
		}
		if m, ok := impl.ReadMotion(s); m != want || ok != isText {
			t.Errorf("ReadMotion(%q) = %v, %v, want %v, %v", s, m, ok, want, isText)
		}
	}
	for _, text := range []string{"1,0,0,1;0,0", "0,-1,1,1;5,-12", "1,0,0,-1;1,3", "18,49,-7,-19;1000,-1000"} {
		for _, once := range changesOf(text, letters) {
			check(once)
			for _, twice := range changesOf(once, letters) {
				check(twice)
			}
		}
	}
	if accepted < 1000 {
		t.Errorf("only %d texts of motions", accepted)
	}
}

// changesOf has all texts in which one letter is left out, put in or replaced.
func changesOf(s string, letters string) []string {
	var list []string
	for i := range len(s) + 1 {
		for _, letter := range letters {
			list = append(list, s[:i]+string(letter)+s[i:])
			if i < len(s) {
				list = append(list, s[:i]+string(letter)+s[i+1:])
			}
		}
		if i < len(s) {
			list = append(list, s[:i]+s[i+1:])
		}
	}
	return list
}
