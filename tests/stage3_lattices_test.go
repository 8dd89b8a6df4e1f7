package tests

import (
	"math"
	"slices"
	"strconv"
	"strings"
	"testing"

	"loop.example/g00943/impl"
)

// latticesUpTo has all valid lattices with an index of at most limit, in the order of their indices
// and then of their numbers. It does not ask the program.
func latticesUpTo(limit int64) []impl.Lattice {
	var list []impl.Lattice
	for n := int64(1); n <= limit; n++ {
		list = append(list, latticesWith(n)...)
	}
	return list
}

func latticesWith(index int64) []impl.Lattice {
	var list []impl.Lattice
	for a := int64(1); a <= index; a++ {
		for b := int64(0); b < a && index%a == 0; b++ {
			list = append(list, impl.Lattice{A: a, B: b, C: index / a})
		}
	}
	return list
}

// wrongLattices has lattices with numbers one beyond each range, with the index one beyond its
// limit, and with indices that overflow, to numbers in 0..64 in some of them.
func wrongLattices() []impl.Lattice {
	return []impl.Lattice{
		{}, {A: 1}, {C: 1}, {A: -1, C: 1}, {A: 1, C: -1}, {A: -1, C: -1}, {A: -8, C: -8}, {C: 64}, {A: 64},
		{A: 1, B: 1, C: 1}, {A: 1, B: -1, C: 1}, {A: 8, B: 8, C: 8}, {A: 8, B: -1, C: 8}, {A: 64, B: 64, C: 1}, {A: 64, B: -1, C: 1},
		{A: 3, B: 3, C: 2}, {A: 3, B: 4, C: 2}, {A: 2, B: -2, C: 1},
		{A: 65, C: 1}, {A: 1, C: 65}, {A: 5, C: 13}, {A: 13, B: 12, C: 5}, {A: 65, B: 64, C: 1}, {A: 9, C: 8}, {A: 8, B: 7, C: 9},
		{A: 33, C: 2}, {A: 2, B: 1, C: 33}, {A: 64, C: 2}, {A: 64, B: 63, C: 64},
		{A: math.MaxInt64, C: 1}, {A: 1, C: math.MaxInt64}, {A: math.MinInt64, C: 1}, {A: 1, C: math.MinInt64},
		{A: math.MaxInt64, C: math.MaxInt64}, {A: math.MinInt64, C: math.MinInt64}, {A: 1, B: math.MinInt64, C: 1}, {A: 8, B: math.MaxInt64, C: 8},
		{A: 1 << 32, C: 1 << 32}, {A: 1 << 33, B: 7, C: 1 << 31}, {A: 3, C: 6148914691236517206}, {A: 6148914691236517206, B: 2, C: 3},
	}
}

// hasVec tells by the definition whether v is a sum of multiples of A,0 and B,C.
func hasVec(l impl.Lattice, v impl.Vec) bool {
	return v.Y%l.C == 0 && (v.X-v.Y/l.C*l.B)%l.A == 0
}

func basisOf(l impl.Lattice) [2]impl.Vec {
	return [2]impl.Vec{{X: l.A}, {X: l.B, Y: l.C}}
}

// hasLattice tells whether all vectors of m are in l.
func hasLattice(l impl.Lattice, m impl.Lattice) bool {
	return hasVec(l, basisOf(m)[0]) && hasVec(l, basisOf(m)[1])
}

func det(u impl.Vec, v impl.Vec) int64 { return u.X*v.Y - u.Y*v.X }

func divisor(a int64, b int64) int64 {
	for b != 0 {
		a, b = b, a%b
	}
	return max(a, -a)
}

func TestIsLattice(t *testing.T) {
	if impl.MaxIndex != 64 {
		t.Errorf("MaxIndex = %d", impl.MaxIndex)
	}
	for _, l := range []impl.Lattice{{A: 1, C: 1}, {A: 1, C: 64}, {A: 64, C: 1}, {A: 64, B: 63, C: 1}, {A: 8, B: 7, C: 8}, {A: 9, B: 8, C: 7}} {
		if !impl.IsLattice(l) {
			t.Errorf("IsLattice(%v) = false", l)
		}
	}
	for _, l := range wrongLattices() {
		if impl.IsLattice(l) {
			t.Errorf("IsLattice(%v) = true", l)
		}
	}
	count := 0
	for a := int64(-3); a <= 67; a++ {
		for b := int64(-3); b <= 67; b++ {
			for c := int64(-3); c <= 67; c++ {
				if impl.IsLattice(impl.Lattice{A: a, B: b, C: c}) {
					count++
				}
			}
		}
	}
	if want := len(latticesUpTo(64)); count != want {
		t.Errorf("%d lattices with numbers in -3..67, want %d", count, want)
	}
}

func TestLatticeOf(t *testing.T) {
	for _, c := range []struct {
		u, v impl.Vec
		want impl.Lattice
		code int64
	}{
		{impl.Vec{X: 2, Y: 1}, impl.Vec{X: -1, Y: 2}, impl.Lattice{A: 5, B: 2, C: 1}, impl.ErrNone},
		{impl.Vec{X: -1, Y: 2}, impl.Vec{X: 2, Y: 1}, impl.Lattice{A: 5, B: 2, C: 1}, impl.ErrNone},
		{impl.Vec{X: -2, Y: -1}, impl.Vec{X: 1, Y: -2}, impl.Lattice{A: 5, B: 2, C: 1}, impl.ErrNone},
		{impl.Vec{X: 2, Y: -1}, impl.Vec{X: 1, Y: 2}, impl.Lattice{A: 5, B: 3, C: 1}, impl.ErrNone},
		{impl.Vec{X: 1}, impl.Vec{Y: 1}, impl.Lattice{A: 1, C: 1}, impl.ErrNone},
		{impl.Vec{Y: -1}, impl.Vec{X: -1}, impl.Lattice{A: 1, C: 1}, impl.ErrNone},
		{impl.Vec{X: 3}, impl.Vec{Y: -4}, impl.Lattice{A: 3, C: 4}, impl.ErrNone},
		{impl.Vec{X: 3}, impl.Vec{X: -1, Y: -4}, impl.Lattice{A: 3, B: 1, C: 4}, impl.ErrNone},
		{impl.Vec{X: 3}, impl.Vec{X: 1, Y: -4}, impl.Lattice{A: 3, B: 2, C: 4}, impl.ErrNone},
		{impl.Vec{X: 4, Y: 2}, impl.Vec{X: 1, Y: 3}, impl.Lattice{A: 10, B: 7, C: 1}, impl.ErrNone},
		{impl.Vec{X: 4, Y: 6}, impl.Vec{X: 5, Y: 10}, impl.Lattice{A: 5, B: 3, C: 2}, impl.ErrNone},
		{impl.Vec{X: 64}, impl.Vec{Y: 1}, impl.Lattice{A: 64, C: 1}, impl.ErrNone},
		{impl.Vec{X: 1}, impl.Vec{Y: 64}, impl.Lattice{A: 1, C: 64}, impl.ErrNone},
		{impl.Vec{X: 8}, impl.Vec{X: -1, Y: 8}, impl.Lattice{A: 8, B: 7, C: 8}, impl.ErrNone},
		{impl.Vec{X: 64}, impl.Vec{X: 1000, Y: -1}, impl.Lattice{A: 64, B: 24, C: 1}, impl.ErrNone},
		{impl.Vec{X: 65}, impl.Vec{Y: 1}, impl.Lattice{}, impl.ErrLimit},
		{impl.Vec{X: 1}, impl.Vec{Y: -65}, impl.Lattice{}, impl.ErrLimit},
		{impl.Vec{X: 5}, impl.Vec{X: 2, Y: 13}, impl.Lattice{}, impl.ErrLimit},
		{impl.Vec{X: 9}, impl.Vec{Y: 9}, impl.Lattice{}, impl.ErrLimit},
		{impl.Vec{X: 8, Y: 1}, impl.Vec{X: -1, Y: 8}, impl.Lattice{}, impl.ErrLimit},
		{impl.Vec{X: 1000, Y: 999}, impl.Vec{X: 999, Y: 998}, impl.Lattice{A: 1, C: 1}, impl.ErrNone},
		{impl.Vec{X: -1000, Y: -936}, impl.Vec{X: 1, Y: 1}, impl.Lattice{A: 64, B: 1, C: 1}, impl.ErrNone},
		{impl.Vec{X: 1000, Y: -936}, impl.Vec{X: -1, Y: 1}, impl.Lattice{A: 64, B: 63, C: 1}, impl.ErrNone},
		{impl.Vec{X: 936, Y: 1000}, impl.Vec{X: 1, Y: 1}, impl.Lattice{A: 64, B: 1, C: 1}, impl.ErrNone},
		{impl.Vec{X: 1000, Y: -935}, impl.Vec{X: -1, Y: 1}, impl.Lattice{}, impl.ErrLimit},
		{impl.Vec{X: 1000, Y: -1000}, impl.Vec{X: 1000, Y: 1000}, impl.Lattice{}, impl.ErrLimit},
		{impl.Vec{X: 1000}, impl.Vec{Y: 1000}, impl.Lattice{}, impl.ErrLimit},
		{impl.Vec{X: 1000, Y: 1000}, impl.Vec{X: -1000, Y: -1000}, impl.Lattice{}, impl.ErrState},
		{impl.Vec{X: 1000, Y: -1000}, impl.Vec{X: 1, Y: -1}, impl.Lattice{}, impl.ErrState},
		{impl.Vec{X: 2, Y: 2}, impl.Vec{X: 3, Y: 3}, impl.Lattice{}, impl.ErrState},
		{impl.Vec{X: 4, Y: -6}, impl.Vec{X: -6, Y: 9}, impl.Lattice{}, impl.ErrState},
		{impl.Vec{X: 5}, impl.Vec{X: -7}, impl.Lattice{}, impl.ErrState},
		{impl.Vec{Y: 5}, impl.Vec{Y: 5}, impl.Lattice{}, impl.ErrState},
		{impl.Vec{}, impl.Vec{X: 1}, impl.Lattice{}, impl.ErrState},
		{impl.Vec{Y: 1}, impl.Vec{}, impl.Lattice{}, impl.ErrState},
		{impl.Vec{}, impl.Vec{}, impl.Lattice{}, impl.ErrState},
	} {
		if l, code := impl.LatticeOf(c.u, c.v); l != c.want || code != c.code {
			t.Errorf("LatticeOf(%v, %v) = %v, %d, want %v, %d", c.u, c.v, l, code, c.want, c.code)
		}
	}
}

// TestLatticeOfInvalid also has pairs along one line and with a great index, as ErrInvalid comes
// first.
func TestLatticeOfInvalid(t *testing.T) {
	for _, w := range wrongVecs() {
		for _, v := range []impl.Vec{{}, {X: 1, Y: 2}, {X: 1000, Y: -1000}, w} {
			if l, code := impl.LatticeOf(w, v); l != (impl.Lattice{}) || code != impl.ErrInvalid {
				t.Errorf("LatticeOf(%v, %v) = %v, %d", w, v, l, code)
			}
			if l, code := impl.LatticeOf(v, w); l != (impl.Lattice{}) || code != impl.ErrInvalid {
				t.Errorf("LatticeOf(%v, %v) = %v, %d", v, w, l, code)
			}
		}
	}
}

// checkLatticeOf uses that a lattice that contains both vectors and whose index is their
// determinant is the lattice of their sums.
func checkLatticeOf(t *testing.T, u impl.Vec, v impl.Vec) {
	l, code := impl.LatticeOf(u, v)
	index := max(det(u, v), -det(u, v))
	switch {
	case index == 0:
		if l != (impl.Lattice{}) || code != impl.ErrState {
			t.Errorf("LatticeOf(%v, %v) = %v, %d", u, v, l, code)
		}
	case index > 64:
		if l != (impl.Lattice{}) || code != impl.ErrLimit {
			t.Errorf("LatticeOf(%v, %v) = %v, %d", u, v, l, code)
		}
	case code != impl.ErrNone || l.A < 1 || l.C < 1 || l.B < 0 || l.B >= l.A:
		t.Errorf("LatticeOf(%v, %v) = %v, %d", u, v, l, code)
	case l.A*l.C != index || !hasVec(l, u) || !hasVec(l, v):
		t.Errorf("LatticeOf(%v, %v) = %v with the determinant %d", u, v, l, index)
	}
}

func TestLatticeOfAllSmallVecs(t *testing.T) {
	for n := range int64(19 * 19 * 19 * 19) {
		checkLatticeOf(t, impl.Vec{X: n%19 - 9, Y: n/19%19 - 9}, impl.Vec{X: n/361%19 - 9, Y: n/6859 - 9})
	}
}

// TestLatticeOfFarVecs adds vectors near the same line, for which the determinant is small.
func TestLatticeOfFarVecs(t *testing.T) {
	for _, u := range edgeVecs() {
		for _, v := range edgeVecs() {
			checkLatticeOf(t, u, v)
		}
		for _, v := range []impl.Vec{{X: u.X - 1, Y: u.Y}, {X: u.X, Y: u.Y + 1}, {X: -u.X, Y: 2 - u.Y}, {X: u.X / 2, Y: u.Y/2 - 1}, {X: u.X/9 + 1, Y: u.Y / 9}} {
			if impl.IsVec(v) {
				checkLatticeOf(t, u, v)
				checkLatticeOf(t, v, u)
			}
		}
	}
}

func TestReduceVec(t *testing.T) {
	for _, c := range []struct {
		l       impl.Lattice
		v, want impl.Vec
	}{
		{impl.Lattice{A: 5, B: 2, C: 1}, impl.Vec{X: 1, Y: 2}, impl.Vec{X: 2}},
		{impl.Lattice{A: 5, B: 2, C: 1}, impl.Vec{X: -1, Y: 2}, impl.Vec{}},
		{impl.Lattice{A: 5, B: 2, C: 1}, impl.Vec{X: -1, Y: -1}, impl.Vec{X: 1}},
		{impl.Lattice{A: 3, B: 1, C: 4}, impl.Vec{X: 2, Y: 3}, impl.Vec{X: 2, Y: 3}},
		{impl.Lattice{A: 3, B: 1, C: 4}, impl.Vec{X: 2, Y: 4}, impl.Vec{X: 1}},
		{impl.Lattice{A: 3, B: 1, C: 4}, impl.Vec{X: 2, Y: -1}, impl.Vec{Y: 3}},
		{impl.Lattice{A: 3, B: 1, C: 4}, impl.Vec{X: -3, Y: -4}, impl.Vec{X: 1}},
		{impl.Lattice{A: 1, C: 1}, impl.Vec{X: 1000, Y: -1000}, impl.Vec{}},
		{impl.Lattice{A: 1, C: 64}, impl.Vec{X: 1000, Y: -1000}, impl.Vec{Y: 24}},
		{impl.Lattice{A: 64, C: 1}, impl.Vec{X: -1000, Y: 1000}, impl.Vec{X: 24}},
		{impl.Lattice{A: 64, B: 63, C: 1}, impl.Vec{X: 1000, Y: 1000}, impl.Vec{X: 16}},
		{impl.Lattice{A: 64, B: 63, C: 1}, impl.Vec{X: -1000, Y: -1000}, impl.Vec{X: 48}},
		{impl.Lattice{A: 8, B: 7, C: 8}, impl.Vec{X: 63, Y: 63}, impl.Vec{X: 6, Y: 7}},
	} {
		if v, code := impl.ReduceVec(c.l, c.v); v != c.want || code != impl.ErrNone {
			t.Errorf("ReduceVec(%v, %v) = %v, %d, want %v", c.l, c.v, v, code, c.want)
		}
	}
}

// checkReduced uses that just one cell differs from v by a vector of the lattice.
func checkReduced(t *testing.T, l impl.Lattice, v impl.Vec) {
	r, code := impl.ReduceVec(l, v)
	if code != impl.ErrNone || r.X < 0 || r.X >= l.A || r.Y < 0 || r.Y >= l.C || !hasVec(l, impl.Vec{X: v.X - r.X, Y: v.Y - r.Y}) {
		t.Errorf("ReduceVec(%v, %v) = %v, %d", l, v, r, code)
	}
	if ok, code := impl.IsInLattice(l, v); ok != hasVec(l, v) || code != impl.ErrNone {
		t.Errorf("IsInLattice(%v, %v) = %v, %d", l, v, ok, code)
	}
}

func TestReduceManyVecs(t *testing.T) {
	for _, l := range latticesUpTo(64) {
		for _, v := range edgeVecs() {
			checkReduced(t, l, v)
		}
	}
	for _, l := range latticesUpTo(12) {
		for n := range int64(41 * 41) {
			checkReduced(t, l, impl.Vec{X: n%41 - 20, Y: n/41 - 20})
		}
	}
}

func TestIsInLattice(t *testing.T) {
	for _, c := range []struct {
		l    impl.Lattice
		v    impl.Vec
		want bool
	}{
		{impl.Lattice{A: 5, B: 2, C: 1}, impl.Vec{X: -1, Y: 2}, true},
		{impl.Lattice{A: 5, B: 2, C: 1}, impl.Vec{X: 1, Y: 2}, false},
		{impl.Lattice{A: 5, B: 2, C: 1}, impl.Vec{}, true},
		{impl.Lattice{A: 1, C: 1}, impl.Vec{X: 999, Y: -1000}, true},
		{impl.Lattice{A: 1, C: 64}, impl.Vec{X: 999, Y: -960}, true},
		{impl.Lattice{A: 1, C: 64}, impl.Vec{X: 999, Y: -1000}, false},
		{impl.Lattice{A: 8, B: 7, C: 8}, impl.Vec{X: -1, Y: 1000}, false},
		{impl.Lattice{A: 8, B: 7, C: 8}, impl.Vec{X: -5, Y: 1000}, true},
		{impl.Lattice{A: 64, C: 1}, impl.Vec{X: 64, Y: -1000}, true},
		{impl.Lattice{A: 64, C: 1}, impl.Vec{X: 63, Y: -1000}, false},
	} {
		if ok, code := impl.IsInLattice(c.l, c.v); ok != c.want || code != impl.ErrNone {
			t.Errorf("IsInLattice(%v, %v) = %v, %d", c.l, c.v, ok, code)
		}
	}
}

func checkReduceIsInvalid(t *testing.T, l impl.Lattice, v impl.Vec) {
	if r, code := impl.ReduceVec(l, v); r != (impl.Vec{}) || code != impl.ErrInvalid {
		t.Errorf("ReduceVec(%v, %v) = %v, %d", l, v, r, code)
	}
	if ok, code := impl.IsInLattice(l, v); ok || code != impl.ErrInvalid {
		t.Errorf("IsInLattice(%v, %v) = %v, %d", l, v, ok, code)
	}
}

func TestReduceInvalid(t *testing.T) {
	for _, w := range wrongLattices() {
		for _, v := range append(wrongVecs(), impl.Vec{}, impl.Vec{X: 1, Y: 1}, impl.Vec{X: -1000, Y: 1000}) {
			checkReduceIsInvalid(t, w, v)
		}
	}
	for _, v := range wrongVecs() {
		for _, l := range []impl.Lattice{{A: 1, C: 1}, {A: 8, B: 7, C: 8}, {A: 64, C: 1}, {A: 1, C: 64}} {
			checkReduceIsInvalid(t, l, v)
		}
	}
}

func TestCellsOf(t *testing.T) {
	list, code := impl.CellsOf(impl.Lattice{A: 3, B: 1, C: 2})
	want := []impl.Vec{{}, {Y: 1}, {X: 1}, {X: 1, Y: 1}, {X: 2}, {X: 2, Y: 1}}
	if !slices.Equal(list, want) || code != impl.ErrNone {
		t.Errorf("CellsOf = %v, %d, want %v", list, code, want)
	}
	for _, w := range wrongLattices() {
		if list, code := impl.CellsOf(w); len(list) != 0 || code != impl.ErrInvalid {
			t.Errorf("CellsOf(%v) = %v, %d", w, list, code)
		}
	}
}

// TestCellsHaveTheirNumbers checks that there are as many cells as the index, that the number of
// each is its place, and that each is reduced to itself.
func TestCellsHaveTheirNumbers(t *testing.T) {
	for _, l := range latticesUpTo(64) {
		list, code := impl.CellsOf(l)
		if int64(len(list)) != l.A*l.C || code != impl.ErrNone {
			t.Fatalf("CellsOf(%v) = %v, %d", l, list, code)
		}
		for i, v := range list {
			if v.X*l.C+v.Y != int64(i) || v.Y < 0 || v.Y >= l.C {
				t.Errorf("CellsOf(%v) has %v at %d", l, v, i)
			}
			if r, code := impl.ReduceVec(l, v); r != v || code != impl.ErrNone {
				t.Errorf("ReduceVec(%v, %v) = %v, %d", l, v, r, code)
			}
		}
	}
}

func TestJoinAndMeet(t *testing.T) {
	type lattice = impl.Lattice
	for _, c := range []struct {
		l, m, join, meet lattice
		code             int64
	}{
		{lattice{A: 2, B: 1, C: 1}, lattice{A: 3, C: 2}, lattice{A: 1, C: 1}, lattice{A: 6, C: 2}, impl.ErrNone},
		{lattice{A: 1, C: 1}, lattice{A: 1, C: 1}, lattice{A: 1, C: 1}, lattice{A: 1, C: 1}, impl.ErrNone},
		{lattice{A: 1, C: 1}, lattice{A: 8, B: 7, C: 8}, lattice{A: 1, C: 1}, lattice{A: 8, B: 7, C: 8}, impl.ErrNone},
		{lattice{A: 8, B: 7, C: 8}, lattice{A: 8, B: 7, C: 8}, lattice{A: 8, B: 7, C: 8}, lattice{A: 8, B: 7, C: 8}, impl.ErrNone},
		{lattice{A: 4, C: 4}, lattice{A: 2, C: 2}, lattice{A: 2, C: 2}, lattice{A: 4, C: 4}, impl.ErrNone},
		{lattice{A: 4, B: 2, C: 2}, lattice{A: 2, C: 2}, lattice{A: 2, C: 2}, lattice{A: 4, B: 2, C: 2}, impl.ErrNone},
		{lattice{A: 5, B: 2, C: 1}, lattice{A: 5, B: 3, C: 1}, lattice{A: 1, C: 1}, lattice{A: 5, C: 5}, impl.ErrNone},
		{lattice{A: 2, B: 1, C: 1}, lattice{A: 2, C: 1}, lattice{A: 1, C: 1}, lattice{A: 2, C: 2}, impl.ErrNone},
		{lattice{A: 4, B: 1, C: 1}, lattice{A: 4, B: 3, C: 1}, lattice{A: 2, B: 1, C: 1}, lattice{A: 4, B: 2, C: 2}, impl.ErrNone},
		{lattice{A: 6, B: 4, C: 2}, lattice{A: 4, B: 2, C: 2}, lattice{A: 2, C: 2}, lattice{A: 12, B: 10, C: 2}, impl.ErrNone},
		{lattice{A: 8, B: 1, C: 1}, lattice{A: 8, B: 2, C: 1}, lattice{A: 1, C: 1}, lattice{A: 8, C: 8}, impl.ErrNone},
		{lattice{A: 64, C: 1}, lattice{A: 64, B: 32, C: 1}, lattice{A: 32, C: 1}, lattice{}, impl.ErrLimit},
		{lattice{A: 32, C: 1}, lattice{A: 32, B: 16, C: 1}, lattice{A: 16, C: 1}, lattice{A: 32, C: 2}, impl.ErrNone},
		{lattice{A: 1, C: 64}, lattice{A: 1, C: 32}, lattice{A: 1, C: 32}, lattice{A: 1, C: 64}, impl.ErrNone},
		{lattice{A: 9, C: 1}, lattice{A: 1, C: 7}, lattice{A: 1, C: 1}, lattice{A: 9, C: 7}, impl.ErrNone},
		{lattice{A: 5, C: 1}, lattice{A: 13, C: 1}, lattice{A: 1, C: 1}, lattice{}, impl.ErrLimit},
		{lattice{A: 1, C: 5}, lattice{A: 13, B: 6, C: 1}, lattice{A: 1, C: 1}, lattice{}, impl.ErrLimit},
		{lattice{A: 8, C: 8}, lattice{A: 3, C: 1}, lattice{A: 1, C: 1}, lattice{}, impl.ErrLimit},
		{lattice{A: 64, C: 1}, lattice{A: 1, C: 64}, lattice{A: 1, C: 1}, lattice{}, impl.ErrLimit},
		{lattice{A: 64, B: 63, C: 1}, lattice{A: 63, B: 62, C: 1}, lattice{A: 1, C: 1}, lattice{}, impl.ErrLimit},
	} {
		for _, p := range [][2]lattice{{c.l, c.m}, {c.m, c.l}} {
			if l, code := impl.JoinLattices(p[0], p[1]); l != c.join || code != impl.ErrNone {
				t.Errorf("JoinLattices(%v, %v) = %v, %d, want %v", p[0], p[1], l, code, c.join)
			}
			if l, code := impl.MeetLattices(p[0], p[1]); l != c.meet || code != c.code {
				t.Errorf("MeetLattices(%v, %v) = %v, %d, want %v, %d", p[0], p[1], l, code, c.meet, c.code)
			}
		}
	}
}

// TestJoinAndMeetInvalid also has pairs whose meet would have a great index, as ErrInvalid comes
// first.
func TestJoinAndMeetInvalid(t *testing.T) {
	for _, w := range wrongLattices() {
		for _, l := range []impl.Lattice{{A: 1, C: 1}, {A: 3, B: 1, C: 1}, {A: 64, B: 63, C: 1}, {A: 1, C: 64}, w} {
			for _, p := range [][2]impl.Lattice{{w, l}, {l, w}} {
				if r, code := impl.JoinLattices(p[0], p[1]); r != (impl.Lattice{}) || code != impl.ErrInvalid {
					t.Errorf("JoinLattices(%v, %v) = %v, %d", p[0], p[1], r, code)
				}
				if r, code := impl.MeetLattices(p[0], p[1]); r != (impl.Lattice{}) || code != impl.ErrInvalid {
					t.Errorf("MeetLattices(%v, %v) = %v, %d", p[0], p[1], r, code)
				}
			}
		}
	}
}

// TestJoinAndMeetBySearch compares with the definitions: of the lattices that contain both, the
// join has the greatest index, and of those that both contain, the meet has the least one.
func TestJoinAndMeetBySearch(t *testing.T) {
	all := latticesUpTo(64)
	for _, l := range latticesUpTo(10) {
		for _, m := range latticesUpTo(10) {
			var join, meet impl.Lattice
			code := int64(impl.ErrLimit)
			for _, k := range all {
				if hasLattice(k, l) && hasLattice(k, m) {
					join = k
				}
				if code != impl.ErrNone && hasLattice(l, k) && hasLattice(m, k) {
					meet, code = k, impl.ErrNone
				}
			}
			if r, c := impl.JoinLattices(l, m); r != join || c != impl.ErrNone {
				t.Errorf("JoinLattices(%v, %v) = %v, %d, want %v", l, m, r, c, join)
			}
			if r, c := impl.MeetLattices(l, m); r != meet || c != code {
				t.Errorf("MeetLattices(%v, %v) = %v, %d, want %v, %d", l, m, r, c, meet, code)
			}
		}
	}
}

// joinIndex is the greatest common divisor of the determinants of all pairs of basis vectors.
func joinIndex(l impl.Lattice, m impl.Lattice) int64 {
	index := divisor(l.A*l.C, m.A*m.C)
	for _, u := range basisOf(l) {
		for _, v := range basisOf(m) {
			index = divisor(index, det(u, v))
		}
	}
	return index
}

// TestJoinAndMeetHaveTheProductOfBothIndices checks promise 3 for all pairs of lattices. With these
// indices, the only lattice that contains both is the join, and the only one in both is the meet.
func TestJoinAndMeetHaveTheProductOfBothIndices(t *testing.T) {
	all := latticesUpTo(64)
	for _, l := range all {
		for _, m := range all {
			index := joinIndex(l, m)
			join, code := impl.JoinLattices(l, m)
			if code != impl.ErrNone || !impl.IsLattice(join) || join.A*join.C != index || !hasLattice(join, l) || !hasLattice(join, m) {
				t.Fatalf("JoinLattices(%v, %v) = %v, %d, want the index %d", l, m, join, code, index)
			}
			product := l.A * l.C * m.A * m.C
			meet, code := impl.MeetLattices(l, m)
			if product > 64*index {
				if meet != (impl.Lattice{}) || code != impl.ErrLimit {
					t.Fatalf("MeetLattices(%v, %v) = %v, %d", l, m, meet, code)
				}
				continue
			}
			if code != impl.ErrNone || !impl.IsLattice(meet) || meet.A*meet.C*join.A*join.C != product || !hasLattice(l, meet) || !hasLattice(m, meet) {
				t.Fatalf("MeetLattices(%v, %v) = %v, %d, want the index %d", l, m, meet, code, product/index)
			}
		}
	}
}

func TestSublatticesOf(t *testing.T) {
	want := []impl.Lattice{{A: 1, C: 4}, {A: 2, C: 2}, {A: 2, B: 1, C: 2}, {A: 4, C: 1}, {A: 4, B: 1, C: 1}, {A: 4, B: 2, C: 1}, {A: 4, B: 3, C: 1}}
	if list, code := impl.SublatticesOf(4); !slices.Equal(list, want) || code != impl.ErrNone {
		t.Errorf("SublatticesOf(4) = %v, %d, want %v", list, code, want)
	}
	for _, c := range []struct{ n, count int64 }{{1, 1}, {2, 3}, {6, 12}, {12, 28}, {60, 168}, {61, 62}, {63, 104}, {64, 127}} {
		if list, code := impl.SublatticesOf(c.n); int64(len(list)) != c.count || code != impl.ErrNone {
			t.Errorf("SublatticesOf(%d) = %v, %d, want %d of them", c.n, list, code, c.count)
		}
	}
	for n := int64(1); n <= 64; n++ {
		if list, code := impl.SublatticesOf(n); !slices.Equal(list, latticesWith(n)) || code != impl.ErrNone {
			t.Errorf("SublatticesOf(%d) = %v, %d", n, list, code)
		}
	}
	for _, n := range []int64{0, 65, -1, -64, 128, 1 << 32, math.MaxInt64, math.MinInt64} {
		if list, code := impl.SublatticesOf(n); len(list) != 0 || code != impl.ErrRange {
			t.Errorf("SublatticesOf(%d) = %v, %d", n, list, code)
		}
	}
}

// overwrite changes all of a list and the spare capacity behind it.
func overwrite[T any](list []T, value T) {
	list = list[:cap(list)]
	for i := range list {
		list[i] = value
	}
}

func TestListsShareNoMemory(t *testing.T) {
	for _, l := range latticesUpTo(64) {
		first, _ := impl.CellsOf(l)
		second, _ := impl.CellsOf(l)
		want := slices.Clone(second)
		overwrite(first, impl.Vec{X: -7, Y: -7})
		third, _ := impl.CellsOf(l)
		if !slices.Equal(second, want) || !slices.Equal(third, want) {
			t.Errorf("CellsOf(%v) = %v, then %v, want %v", l, second, third, want)
		}
	}
	for n := int64(1); n <= 64; n++ {
		first, _ := impl.SublatticesOf(n)
		second, _ := impl.SublatticesOf(n)
		overwrite(first, impl.Lattice{A: -7})
		third, _ := impl.SublatticesOf(n)
		if !slices.Equal(second, latticesWith(n)) || !slices.Equal(third, latticesWith(n)) {
			t.Errorf("SublatticesOf(%d) = %v, then %v", n, second, third)
		}
	}
}

func plainLatticeText(l impl.Lattice) string {
	return strconv.FormatInt(l.A, 10) + "," + strconv.FormatInt(l.B, 10) + "," + strconv.FormatInt(l.C, 10)
}

func TestLatticeText(t *testing.T) {
	for _, c := range []struct {
		l    impl.Lattice
		want string
	}{
		{impl.Lattice{A: 1, C: 1}, "1,0,1"},
		{impl.Lattice{A: 2, B: 1, C: 1}, "2,1,1"},
		{impl.Lattice{A: 5, B: 3, C: 12}, "5,3,12"},
		{impl.Lattice{A: 64, B: 63, C: 1}, "64,63,1"},
		{impl.Lattice{A: 1, C: 64}, "1,0,64"},
	} {
		if s := impl.LatticeText(c.l); s != c.want {
			t.Errorf("LatticeText(%v) = %q, want %q", c.l, s, c.want)
		}
	}
	for _, w := range wrongLattices() {
		if s := impl.LatticeText(w); s != "" {
			t.Errorf("LatticeText(%v) = %q", w, s)
		}
	}
}

func TestLatticeIsFoundFromItsText(t *testing.T) {
	for _, l := range latticesUpTo(64) {
		s := impl.LatticeText(l)
		if r, ok := impl.ReadLattice(s); s != plainLatticeText(l) || r != l || !ok {
			t.Errorf("ReadLattice(%q) = %v, %v, want %v", s, r, ok, l)
		}
	}
}

func TestReadLatticeRejects(t *testing.T) {
	texts := []string{
		"", ",", ",,", ",,,", "3", "3,", "3,0", "3,0,", ",0,2", "3,,2", "3,0,2,", ",3,0,2", "3,0,2,1", "3,0,2,0", "302", "3 0 2", "3;0;2", "3,0;2",
		"03,0,2", "3,00,2", "3,0,02", "3,01,2", "0003,0,2", "+3,0,2", "3,+0,2", "3,0,+2", "-3,0,2", "3,-0,2", "3,0,-2", "3,-1,2", "--3,0,2", "3,-,2", "-,-,-",
		" 3,0,2", "3 ,0,2", "3, 0,2", "3,0 ,2", "3,0, 2", "3,0,2 ", "\t3,0,2", "3,0,2\n", "3,0,2\r\n", "3,0,2\x00", " ", " , , ",
		"3,3,2", "3,4,2", "0,0,1", "1,0,0", "0,0,0", "9,0,8", "65,0,1", "1,0,65", "13,5,5", "1,1,1", "64,64,1",
		"3.0,0,2", "3e0,0,2", "0x3,0,2", "1_0,0,2", "a,b,c", "(3,0,2)", "[3,0,2]", "{3 0 2}", "3,0,2x", "3,0,x",
		"18446744073709551619,0,2", "3,18446744073709551616,2", "3,0,9223372036854775808", "4294967299,0,2",
		"\uff13,0,2", "3\uff0c0\uff0c2", "3,\u22120,2", "\xff,0,2", "3,0,\xff",
		strings.Repeat(",", 1000), strings.Repeat("1", 1000) + ",0,1", strings.Repeat("0", 1000) + "1,0,1",
	}
	for _, w := range wrongLattices() {
		texts = append(texts, plainLatticeText(w))
	}
	for _, s := range texts {
		if l, ok := impl.ReadLattice(s); l != (impl.Lattice{}) || ok {
			t.Errorf("ReadLattice(%q) = %v, %v", s, l, ok)
		}
	}
}

// TestReadLatticeOfAllShortTexts tries every text of up to seven of these letters: exactly the
// texts of lattices are read.
func TestReadLatticeOfAllShortTexts(t *testing.T) {
	texts := map[string]impl.Lattice{}
	for _, l := range latticesUpTo(64) {
		texts[plainLatticeText(l)] = l
	}
	beginnings := []string{""}
	for range 7 {
		var longer []string
		for _, s := range beginnings {
			for _, letter := range []string{"0", "1", "4", "6", "-", ","} {
				longer = append(longer, s+letter)
			}
		}
		for _, s := range longer {
			want, isText := texts[s]
			if l, ok := impl.ReadLattice(s); l != want || ok != isText {
				t.Errorf("ReadLattice(%q) = %v, %v, want %v, %v", s, l, ok, want, isText)
			}
		}
		beginnings = longer
	}
}
