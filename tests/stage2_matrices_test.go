package tests

import (
	"math"
	"math/big"
	"strconv"
	"strings"
	"testing"

	"loop.example/g00943/impl"
)

var unitMat = impl.Mat{A: 1, D: 1}

// smallMats has all valid matrices with numbers of at most limit, in order.
func smallMats(limit int64) []impl.Mat {
	var mats []impl.Mat
	for a := -limit; a <= limit; a++ {
		for b := -limit; b <= limit; b++ {
			for c := -limit; c <= limit; c++ {
				for d := -limit; d <= limit; d++ {
					if det := a*d - b*c; det == 1 || det == -1 {
						mats = append(mats, impl.Mat{A: a, B: b, C: c, D: d})
					}
				}
			}
		}
	}
	return mats
}

// greatMats has valid matrices with numbers at MaxCoordinate or near it, with both determinants and
// all orders.
func greatMats() []impl.Mat {
	return []impl.Mat{
		{A: 1, B: 1000, D: 1}, {A: 1, B: -1000, D: 1}, {A: 1, C: 1000, D: 1}, {A: -1, C: -1000, D: -1},
		{A: 1, B: 1000, D: -1}, {A: -1, B: 1000, D: 1}, {A: 1, C: -1000, D: -1}, {A: -1, C: 1000, D: 1},
		{A: 1000, B: 1, C: 999, D: 1}, {A: 1, B: -1, C: 999, D: -1000}, {A: 1000, B: 1, C: 1}, {B: -1, C: 1, D: -1000},
		{A: 1000, B: 999, C: 999, D: 998}, {A: -1000, B: -999, C: -999, D: -998}, {A: 998, B: -999, C: -999, D: 1000},
		{A: 999, B: 1000, C: -998, D: -999}, {A: -999, B: 998, C: -1000, D: 999},
		{A: 18, B: 49, C: -7, D: -19}, {A: 239, B: 338, C: -169, D: -239}, {A: 19, B: 49, C: -7, D: -18},
	}
}

// wrongMats has matrices with numbers one beyond each limit and the determinant 1 or -1, with other
// determinants, and with products that overflow, to 1 in some of them.
func wrongMats() []impl.Mat {
	return []impl.Mat{
		{A: 1, B: 1001, D: 1}, {A: 1, B: -1001, D: 1}, {A: 1, C: 1001, D: -1}, {A: 1, C: -1001, D: 1},
		{A: 1001, B: 1000, C: 1, D: 1}, {A: -1001, B: 1000, C: 1, D: -1},
		{A: 1, B: 1, C: 1000, D: 1001}, {A: 1, B: -1, C: 1000, D: -1001},
		{A: 1001, B: 1, C: 1}, {B: 1, C: 1, D: -1001},
		{}, {A: 1}, {D: 1}, {A: 1, B: 1, C: 1, D: 1}, {A: 1000, B: 1000, C: 1000, D: 1000},
		{A: 2, D: 1}, {A: 1, D: 2}, {A: -2, D: 1}, {A: 2, B: 1, C: 1, D: 2}, {A: 1, B: 2, C: 2, D: 1},
		{A: 1000, D: 1000}, {A: 1000, B: -1000, C: 1000, D: 1000}, {B: 1000, C: 1000},
		{A: 3, D: -6148914691236517205}, {B: 3, C: -6148914691236517205}, {A: math.MinInt64, B: 1, C: 1},
		{A: math.MaxInt64, D: 1}, {A: math.MaxInt64, D: math.MaxInt64}, {A: math.MinInt64, D: math.MinInt64},
		{A: 1, B: math.MinInt64, D: 1}, {A: 1, C: math.MaxInt64, D: 1}, {A: 1, B: 1 << 32, C: 1 << 32, D: 1},
	}
}

func product(m impl.Mat, n impl.Mat) impl.Mat {
	return impl.Mat{
		A: m.A*n.A + m.B*n.C, B: m.A*n.B + m.B*n.D,
		C: m.C*n.A + m.D*n.C, D: m.C*n.B + m.D*n.D,
	}
}

func isLimitedMat(m impl.Mat) bool {
	for _, n := range []int64{m.A, m.B, m.C, m.D} {
		if n < -1000 || n > 1000 {
			return false
		}
	}
	return true
}

// eachMatWith calls visit with every valid matrix that has this trace A + D and determinant, which
// together settle whether its order is finite.
func eachMatWith(trace int64, det int64, visit func(impl.Mat)) {
	for a := int64(-1000); a <= 1000; a++ {
		d := trace - a
		rest := a*d - det
		for b := int64(-1000); b <= 1000; b++ {
			if b == 0 && rest != 0 || b != 0 && rest%b != 0 {
				continue
			}
			if b != 0 {
				if m := (impl.Mat{A: a, B: b, C: rest / b, D: d}); isLimitedMat(m) {
					visit(m)
				}
				continue
			}
			for c := int64(-1000); c <= 1000; c++ {
				visit(impl.Mat{A: a, C: c, D: d})
			}
		}
	}
}

func TestIsMat(t *testing.T) {
	for _, m := range append(smallMats(3), greatMats()...) {
		if !impl.IsMat(m) {
			t.Errorf("IsMat(%v) = false", m)
		}
	}
	for _, m := range wrongMats() {
		if impl.IsMat(m) {
			t.Errorf("IsMat(%v) = true", m)
		}
	}
	want := len(smallMats(4))
	count := 0
	for n := range int64(9 * 9 * 9 * 9) {
		if impl.IsMat(impl.Mat{A: n%9 - 4, B: n/9%9 - 4, C: n/81%9 - 4, D: n/729 - 4}) {
			count++
		}
	}
	if count != want {
		t.Errorf("%d matrices with numbers in -4..4, want %d", count, want)
	}
}

func TestMultiplyMats(t *testing.T) {
	for _, c := range []struct {
		m, n, want impl.Mat
		code       int64
	}{
		{impl.Mat{B: -1, C: 1, D: 1}, impl.Mat{B: 1, C: 1}, impl.Mat{A: -1, C: 1, D: 1}, impl.ErrNone},
		{impl.Mat{B: 1, C: 1}, impl.Mat{B: -1, C: 1, D: 1}, impl.Mat{A: 1, B: 1, D: -1}, impl.ErrNone},
		{impl.Mat{A: 1, B: 2, C: 1, D: 3}, impl.Mat{A: 5, B: 7, C: 2, D: 3}, impl.Mat{A: 9, B: 13, C: 11, D: 16}, impl.ErrNone},
		{impl.Mat{A: 1, B: 600, D: 1}, impl.Mat{A: 1, B: 400, D: 1}, impl.Mat{A: 1, B: 1000, D: 1}, impl.ErrNone},
		{impl.Mat{A: 1, B: 600, D: 1}, impl.Mat{A: 1, B: 401, D: 1}, impl.Mat{}, impl.ErrLimit},
		{impl.Mat{A: 1, C: -600, D: 1}, impl.Mat{A: 1, C: -401, D: 1}, impl.Mat{}, impl.ErrLimit},
		{impl.Mat{A: 1, B: 1000, D: 1}, impl.Mat{A: 1, C: 1, D: 1}, impl.Mat{}, impl.ErrLimit},
		{impl.Mat{A: 1, C: 1, D: 1}, impl.Mat{A: 1, B: 1000, D: 1}, impl.Mat{}, impl.ErrLimit},
		{impl.Mat{A: 1, B: 999, D: 1}, impl.Mat{A: 1, C: 1, D: 1}, impl.Mat{A: 1000, B: 999, C: 1, D: 1}, impl.ErrNone},
		{impl.Mat{A: 1, B: -1000, D: 1}, impl.Mat{A: 1, B: 1000, D: 1}, unitMat, impl.ErrNone},
	} {
		if m, code := impl.MultiplyMats(c.m, c.n); m != c.want || code != c.code {
			t.Errorf("MultiplyMats(%v, %v) = %v, %d, want %v, %d", c.m, c.n, m, code, c.want, c.code)
		}
	}
	mats := append(smallMats(2), greatMats()...)
	for _, m := range mats {
		for _, n := range mats {
			want, wantCode := product(m, n), int64(impl.ErrNone)
			if !isLimitedMat(want) {
				want, wantCode = impl.Mat{}, impl.ErrLimit
			}
			if r, code := impl.MultiplyMats(m, n); r != want || code != wantCode {
				t.Errorf("MultiplyMats(%v, %v) = %v, %d, want %v, %d", m, n, r, code, want, wantCode)
			}
		}
	}
}

func TestMultiplyMatsInvalid(t *testing.T) {
	for _, w := range wrongMats() {
		for _, m := range append(greatMats(), unitMat, w) {
			if r, code := impl.MultiplyMats(w, m); r != (impl.Mat{}) || code != impl.ErrInvalid {
				t.Errorf("MultiplyMats(%v, %v) = %v, %d", w, m, r, code)
			}
			if r, code := impl.MultiplyMats(m, w); r != (impl.Mat{}) || code != impl.ErrInvalid {
				t.Errorf("MultiplyMats(%v, %v) = %v, %d", m, w, r, code)
			}
		}
	}
}

func TestInverseMat(t *testing.T) {
	for _, c := range []struct{ m, want impl.Mat }{
		{unitMat, unitMat},
		{impl.Mat{B: -1, C: 1, D: 1}, impl.Mat{A: 1, B: 1, C: -1}},
		{impl.Mat{A: 1, B: 2, C: 1, D: 3}, impl.Mat{A: 3, B: -2, C: -1, D: 1}},
		{impl.Mat{A: 1, B: 2, C: 1, D: 1}, impl.Mat{A: -1, B: 2, C: 1, D: -1}},
		{impl.Mat{A: 1, B: 1000, D: 1}, impl.Mat{A: 1, B: -1000, D: 1}},
		{impl.Mat{A: 1000, B: 999, C: 999, D: 998}, impl.Mat{A: -998, B: 999, C: 999, D: -1000}},
	} {
		if m, code := impl.InverseMat(c.m); m != c.want || code != impl.ErrNone {
			t.Errorf("InverseMat(%v) = %v, %d, want %v", c.m, m, code, c.want)
		}
	}
	for _, w := range wrongMats() {
		if m, code := impl.InverseMat(w); m != (impl.Mat{}) || code != impl.ErrInvalid {
			t.Errorf("InverseMat(%v) = %v, %d", w, m, code)
		}
	}
}

// TestMatAndInverseCancel checks promise 2, on matrices and on vectors.
func TestMatAndInverseCancel(t *testing.T) {
	for _, m := range append(smallMats(5), greatMats()...) {
		n, code := impl.InverseMat(m)
		if code != impl.ErrNone || !impl.IsMat(n) {
			t.Fatalf("InverseMat(%v) = %v, %d", m, n, code)
		}
		if r, code := impl.MultiplyMats(m, n); r != unitMat || code != impl.ErrNone {
			t.Errorf("MultiplyMats(%v, %v) = %v, %d", m, n, r, code)
		}
		if r, code := impl.MultiplyMats(n, m); r != unitMat || code != impl.ErrNone {
			t.Errorf("MultiplyMats(%v, %v) = %v, %d", n, m, r, code)
		}
		if r, code := impl.InverseMat(n); r != m || code != impl.ErrNone {
			t.Errorf("InverseMat(%v) = %v, %d, want %v", n, r, code, m)
		}
		for _, v := range []impl.Vec{{}, {X: 1}, {Y: -1}, {X: 3, Y: -2}} {
			u, code := impl.ApplyMat(m, v)
			if code == impl.ErrLimit {
				continue
			}
			if w, code := impl.ApplyMat(n, u); w != v || code != impl.ErrNone {
				t.Errorf("ApplyMat(%v, %v) = %v, %d, want %v", n, u, w, code, v)
			}
		}
	}
}

func TestPowerMat(t *testing.T) {
	shear := impl.Mat{A: 1, B: 100, D: 1}
	golden := impl.Mat{A: 1, B: 1, C: 1}
	for _, c := range []struct {
		m    impl.Mat
		n    int64
		want impl.Mat
		code int64
	}{
		{impl.Mat{B: -1, C: 1, D: 1}, 3, impl.Mat{A: -1, D: -1}, impl.ErrNone},
		{impl.Mat{B: -1, C: 1, D: 1}, 100, impl.Mat{B: 1, C: -1, D: -1}, impl.ErrNone},
		{impl.Mat{B: -1, C: 1}, 100, unitMat, impl.ErrNone},
		{impl.Mat{A: 1, B: 1, D: 1}, 100, shear, impl.ErrNone},
		{impl.Mat{A: 1, C: -10, D: 1}, 100, impl.Mat{A: 1, C: -1000, D: 1}, impl.ErrNone},
		{impl.Mat{A: 1, C: -11, D: 1}, 90, impl.Mat{A: 1, C: -990, D: 1}, impl.ErrNone},
		{impl.Mat{A: 1, C: -11, D: 1}, 91, impl.Mat{}, impl.ErrLimit},
		{shear, 0, unitMat, impl.ErrNone},
		{shear, 1, shear, impl.ErrNone},
		{shear, 10, impl.Mat{A: 1, B: 1000, D: 1}, impl.ErrNone},
		{shear, 11, impl.Mat{}, impl.ErrLimit},
		{shear, 12, impl.Mat{}, impl.ErrLimit},
		{shear, 100, impl.Mat{}, impl.ErrLimit},
		{shear, 101, impl.Mat{}, impl.ErrRange},
		{shear, -1, impl.Mat{}, impl.ErrRange},
		{unitMat, 101, impl.Mat{}, impl.ErrRange},
		{unitMat, -1, impl.Mat{}, impl.ErrRange},
		{unitMat, math.MinInt64, impl.Mat{}, impl.ErrRange},
		{unitMat, math.MaxInt64, impl.Mat{}, impl.ErrRange},
		{golden, 15, impl.Mat{A: 987, B: 610, C: 610, D: 377}, impl.ErrNone},
		{golden, 16, impl.Mat{}, impl.ErrLimit},
		{golden, 100, impl.Mat{}, impl.ErrLimit},
		{impl.Mat{A: 1000, B: 999, C: 999, D: 998}, 0, unitMat, impl.ErrNone},
		{impl.Mat{A: 1000, B: 999, C: 999, D: 998}, 1, impl.Mat{A: 1000, B: 999, C: 999, D: 998}, impl.ErrNone},
		{impl.Mat{A: 1000, B: 999, C: 999, D: 998}, 2, impl.Mat{}, impl.ErrLimit},
		{impl.Mat{A: 1000, B: 999, C: 999, D: 998}, 100, impl.Mat{}, impl.ErrLimit},
	} {
		if m, code := impl.PowerMat(c.m, c.n); m != c.want || code != c.code {
			t.Errorf("PowerMat(%v, %d) = %v, %d, want %v, %d", c.m, c.n, m, code, c.want, c.code)
		}
	}
	for _, w := range wrongMats() {
		for _, n := range []int64{0, 1, 2, 100, 101, -1, math.MinInt64} {
			if m, code := impl.PowerMat(w, n); m != (impl.Mat{}) || code != impl.ErrInvalid {
				t.Errorf("PowerMat(%v, %d) = %v, %d", w, n, m, code)
			}
		}
	}
}

// TestPowersAreRepeatedProducts also checks that a power that is not valid makes all powers behind
// it fail.
func TestPowersAreRepeatedProducts(t *testing.T) {
	for _, m := range append(smallMats(2), greatMats()...) {
		want, wantCode := unitMat, int64(impl.ErrNone)
		for n := range int64(101) {
			if r, code := impl.PowerMat(m, n); r != want || code != wantCode {
				t.Errorf("PowerMat(%v, %d) = %v, %d, want %v, %d", m, n, r, code, want, wantCode)
			}
			if wantCode == impl.ErrNone {
				want = product(m, want)
			}
			if !isLimitedMat(want) {
				want, wantCode = impl.Mat{}, impl.ErrLimit
			}
		}
	}
}

// orderByPowers multiplies without a limit; an order that is finite is at most 6.
func orderByPowers(m impl.Mat) int64 {
	type great [4]*big.Int
	base := great{big.NewInt(m.A), big.NewInt(m.B), big.NewInt(m.C), big.NewInt(m.D)}
	dot := func(a, b, c, d *big.Int) *big.Int {
		return new(big.Int).Add(new(big.Int).Mul(a, b), new(big.Int).Mul(c, d))
	}
	power := base
	for n := int64(1); n <= 12; n++ {
		if power[0].String() == "1" && power[1].Sign() == 0 && power[2].Sign() == 0 && power[3].String() == "1" {
			return n
		}
		power = great{
			dot(base[0], power[0], base[1], power[2]), dot(base[0], power[1], base[1], power[3]),
			dot(base[2], power[0], base[3], power[2]), dot(base[2], power[1], base[3], power[3]),
		}
	}
	return 0
}

func TestOrderOf(t *testing.T) {
	for _, c := range []struct {
		m    impl.Mat
		want int64
	}{
		{unitMat, 1},
		{impl.Mat{A: -1, D: -1}, 2}, {impl.Mat{A: 1, D: -1}, 2}, {impl.Mat{A: -1, B: 1000, D: 1}, 2},
		{impl.Mat{A: 999, B: 1000, C: -998, D: -999}, 2},
		{impl.Mat{B: -1, C: 1, D: -1}, 3}, {impl.Mat{A: 18, B: 49, C: -7, D: -19}, 3},
		{impl.Mat{B: -1, C: 1}, 4}, {impl.Mat{A: 239, B: 338, C: -169, D: -239}, 4},
		{impl.Mat{B: -1, C: 1, D: 1}, 6}, {impl.Mat{A: 19, B: 49, C: -7, D: -18}, 6},
		{impl.Mat{A: 1, B: 1, D: 1}, 0}, {impl.Mat{A: -1, C: 1, D: -1}, 0}, {impl.Mat{A: 1, B: 1, C: 1}, 0},
		{impl.Mat{A: 2, B: 1, C: 1, D: 1}, 0}, {impl.Mat{B: 1, C: 1, D: -1}, 0}, {impl.Mat{A: 1000, B: 1, C: 999, D: 1}, 0},
	} {
		if n, code := impl.OrderOf(c.m); n != c.want || code != impl.ErrNone {
			t.Errorf("OrderOf(%v) = %d, %d, want %d", c.m, n, code, c.want)
		}
	}
	for _, m := range append(smallMats(3), greatMats()...) {
		if n, code := impl.OrderOf(m); n != orderByPowers(m) || code != impl.ErrNone {
			t.Errorf("OrderOf(%v) = %d, %d, want %d", m, n, code, orderByPowers(m))
		}
	}
	for _, w := range wrongMats() {
		if n, code := impl.OrderOf(w); n != 0 || code != impl.ErrInvalid {
			t.Errorf("OrderOf(%v) = %d, %d", w, n, code)
		}
	}
}

// TestRepeatedByOrderChangesNothing checks the second half of the guarantee of chapter 2 for all
// matrices of the orders 3, 4 and 6 and all reflections, and that no smaller power is the unit.
func TestRepeatedByOrderChangesNothing(t *testing.T) {
	for _, c := range []struct{ trace, det, order int64 }{{-1, 1, 3}, {0, 1, 4}, {1, 1, 6}, {0, -1, 2}} {
		eachMatWith(c.trace, c.det, func(m impl.Mat) {
			if n, code := impl.OrderOf(m); n != c.order || code != impl.ErrNone {
				t.Fatalf("OrderOf(%v) = %d, %d, want %d", m, n, code, c.order)
			}
			for n := int64(1); n <= c.order; n++ {
				if r, code := impl.PowerMat(m, n); code != impl.ErrNone || (r == unitMat) != (n == c.order) {
					t.Fatalf("PowerMat(%v, %d) = %v, %d", m, n, r, code)
				}
			}
		})
	}
}

func TestApplyMat(t *testing.T) {
	for _, c := range []struct {
		m       impl.Mat
		v, want impl.Vec
		code    int64
	}{
		{impl.Mat{B: -1, C: 1, D: 1}, impl.Vec{X: 2, Y: 5}, impl.Vec{X: -5, Y: 7}, impl.ErrNone},
		{impl.Mat{A: 1, B: 2, C: 3, D: 7}, impl.Vec{X: 10, Y: 100}, impl.Vec{X: 210, Y: 730}, impl.ErrNone},
		{unitMat, impl.Vec{X: 1000, Y: -1000}, impl.Vec{X: 1000, Y: -1000}, impl.ErrNone},
		{impl.Mat{A: 1000, B: 999, C: 999, D: 998}, impl.Vec{}, impl.Vec{}, impl.ErrNone},
		{impl.Mat{A: 1000, B: 999, C: 999, D: 998}, impl.Vec{X: 1}, impl.Vec{X: 1000, Y: 999}, impl.ErrNone},
		{impl.Mat{A: 1000, B: 999, C: 999, D: 998}, impl.Vec{X: 1000, Y: -1000}, impl.Vec{X: 1000, Y: 1000}, impl.ErrNone},
		{impl.Mat{A: 1000, B: 999, C: 999, D: 998}, impl.Vec{X: 1000, Y: 1000}, impl.Vec{}, impl.ErrLimit},
		{impl.Mat{A: 1, B: 1, D: 1}, impl.Vec{X: 999, Y: 1}, impl.Vec{X: 1000, Y: 1}, impl.ErrNone},
		{impl.Mat{A: 1, B: 1, D: 1}, impl.Vec{X: 1000, Y: 1}, impl.Vec{}, impl.ErrLimit},
		{impl.Mat{A: 1, B: 1, D: 1}, impl.Vec{X: -1000, Y: -1}, impl.Vec{}, impl.ErrLimit},
		{impl.Mat{A: 1, C: 1, D: 1}, impl.Vec{X: 1, Y: 1000}, impl.Vec{}, impl.ErrLimit},
		{impl.Mat{A: 1, C: -1, D: 1}, impl.Vec{X: 1, Y: -1000}, impl.Vec{}, impl.ErrLimit},
	} {
		if v, code := impl.ApplyMat(c.m, c.v); v != c.want || code != c.code {
			t.Errorf("ApplyMat(%v, %v) = %v, %d, want %v, %d", c.m, c.v, v, code, c.want, c.code)
		}
	}
	for _, w := range wrongMats() {
		for _, v := range append(wrongVecs(), impl.Vec{}, impl.Vec{X: 1000, Y: -1000}) {
			if r, code := impl.ApplyMat(w, v); r != (impl.Vec{}) || code != impl.ErrInvalid {
				t.Errorf("ApplyMat(%v, %v) = %v, %d", w, v, r, code)
			}
		}
	}
	for _, v := range wrongVecs() {
		for _, m := range append(greatMats(), unitMat) {
			if r, code := impl.ApplyMat(m, v); r != (impl.Vec{}) || code != impl.ErrInvalid {
				t.Errorf("ApplyMat(%v, %v) = %v, %d", m, v, r, code)
			}
		}
	}
}

// TestProductAppliesBothMats checks that a product does its right matrix first.
func TestProductAppliesBothMats(t *testing.T) {
	v := impl.Vec{X: 3, Y: -8}
	for _, m := range smallMats(2) {
		for _, n := range smallMats(2) {
			u, _ := impl.ApplyMat(n, v)
			want, _ := impl.ApplyMat(m, u)
			r, _ := impl.MultiplyMats(m, n)
			if w, code := impl.ApplyMat(r, v); w != want || code != impl.ErrNone {
				t.Errorf("ApplyMat(%v, %v) = %v, %d, want %v", r, v, w, code, want)
			}
		}
	}
}

func TestMatKind(t *testing.T) {
	for _, m := range append(smallMats(3), greatMats()...) {
		want := orderByPowers(m)
		if m.A*m.D-m.B*m.C == -1 && want == 2 {
			want = -2
		} else if m.A*m.D-m.B*m.C == -1 {
			want = 0
		}
		if n, code := impl.MatKind(m); n != want || code != impl.ErrNone {
			t.Errorf("MatKind(%v) = %d, %d, want %d", m, n, code, want)
		}
	}
	for _, w := range wrongMats() {
		if n, code := impl.MatKind(w); n != 0 || code != impl.ErrInvalid {
			t.Errorf("MatKind(%v) = %d, %d", w, n, code)
		}
	}
}

func TestAxisOf(t *testing.T) {
	for _, c := range []struct {
		m    impl.Mat
		want impl.Vec
		code int64
	}{
		{impl.Mat{A: 1, D: -1}, impl.Vec{X: 1}, impl.ErrNone},
		{impl.Mat{A: -1, D: 1}, impl.Vec{Y: 1}, impl.ErrNone},
		{impl.Mat{B: 1, C: 1}, impl.Vec{X: 1, Y: 1}, impl.ErrNone},
		{impl.Mat{B: -1, C: -1}, impl.Vec{X: 1, Y: -1}, impl.ErrNone},
		{impl.Mat{A: 1, B: 1000, D: -1}, impl.Vec{X: 1}, impl.ErrNone},
		{impl.Mat{A: -1, C: 1000, D: 1}, impl.Vec{Y: 1}, impl.ErrNone},
		{impl.Mat{A: -1, B: 1000, D: 1}, impl.Vec{X: 500, Y: 1}, impl.ErrNone},
		{impl.Mat{A: -1, B: -999, D: 1}, impl.Vec{X: 999, Y: -2}, impl.ErrNone},
		{impl.Mat{A: 1, C: -999, D: -1}, impl.Vec{X: 2, Y: -999}, impl.ErrNone},
		{impl.Mat{A: 999, B: 1000, C: -998, D: -999}, impl.Vec{X: 500, Y: -499}, impl.ErrNone},
		{impl.Mat{A: -3, B: 4, C: -2, D: 3}, impl.Vec{X: 1, Y: 1}, impl.ErrNone},
		{unitMat, impl.Vec{}, impl.ErrState},
		{impl.Mat{A: -1, D: -1}, impl.Vec{}, impl.ErrState},
		{impl.Mat{B: -1, C: 1}, impl.Vec{}, impl.ErrState},
		{impl.Mat{A: 1, B: 1, C: 1}, impl.Vec{}, impl.ErrState},
		{impl.Mat{A: 1, B: 1, D: 1}, impl.Vec{}, impl.ErrState},
		{impl.Mat{A: 1000, B: 1, C: 1}, impl.Vec{}, impl.ErrState},
	} {
		if v, code := impl.AxisOf(c.m); v != c.want || code != c.code {
			t.Errorf("AxisOf(%v) = %v, %d, want %v, %d", c.m, v, code, c.want, c.code)
		}
	}
	for _, w := range wrongMats() {
		if v, code := impl.AxisOf(w); v != (impl.Vec{}) || code != impl.ErrInvalid {
			t.Errorf("AxisOf(%v) = %v, %d", w, v, code)
		}
	}
}

// TestAxesOfAllReflections has no case of ErrLimit: it shows that the axis of every reflection is
// a valid vector.
func TestAxesOfAllReflections(t *testing.T) {
	count := 0
	eachMatWith(0, -1, func(m impl.Mat) {
		count++
		v, code := impl.AxisOf(m)
		if code != impl.ErrNone || v.X < 0 || v.X == 0 && v.Y <= 0 {
			t.Fatalf("AxisOf(%v) = %v, %d", m, v, code)
		}
		if d, _ := impl.DivisorOf(v.X, v.Y); d != 1 {
			t.Fatalf("AxisOf(%v) = %v with the divisor %d", m, v, d)
		}
		if u, code := impl.ApplyMat(m, v); u != v || code != impl.ErrNone {
			t.Fatalf("ApplyMat(%v, %v) = %v, %d", m, v, u, code)
		}
	})
	if count < 8000 {
		t.Errorf("only %d reflections", count)
	}
}

func TestMatText(t *testing.T) {
	for _, c := range []struct {
		m    impl.Mat
		want string
	}{
		{unitMat, "1,0,0,1"},
		{impl.Mat{B: -1, C: 1, D: 1}, "0,-1,1,1"},
		{impl.Mat{A: 5, B: 7, C: 2, D: 3}, "5,7,2,3"},
		{impl.Mat{A: -1, B: 1000, D: 1}, "-1,1000,0,1"},
		{impl.Mat{A: 1, C: -1000, D: -1}, "1,0,-1000,-1"},
		{impl.Mat{A: 1000, B: 999, C: 999, D: 998}, "1000,999,999,998"},
	} {
		if s := impl.MatText(c.m); s != c.want {
			t.Errorf("MatText(%v) = %q, want %q", c.m, s, c.want)
		}
	}
	for _, w := range wrongMats() {
		if s := impl.MatText(w); s != "" {
			t.Errorf("MatText(%v) = %q", w, s)
		}
	}
}

func TestMatIsFoundFromItsText(t *testing.T) {
	mats := append(smallMats(3), greatMats()...)
	for n := int64(-1000); n <= 1000; n++ {
		mats = append(mats, impl.Mat{A: n, B: 1, C: -1}, impl.Mat{A: 1, B: n, D: -1},
			impl.Mat{A: -1, C: n, D: -1}, impl.Mat{B: 1, C: 1, D: n})
	}
	for _, m := range mats {
		if r, ok := impl.ReadMat(impl.MatText(m)); r != m || !ok {
			t.Errorf("ReadMat(%q) = %v, %v, want %v", impl.MatText(m), r, ok, m)
		}
	}
}

func TestReadMatRejects(t *testing.T) {
	texts := []string{
		"", ",", ",,,", "1", "1,0", "1,0,0", "1,0,0,", ",0,0,1", "1,,0,1", "1,0,,1", "1,0,1", "1,0,0,1,", ",1,0,0,1",
		"1,0,0,1,0", "1,0,0,1,1", "1,0,0,1;0,0", "1;0;0;1", "1 0 0 1", "1,0;0,1", "1001",
		"01,0,0,1", "1,00,0,1", "1,0,00,1", "1,0,0,01", "-01,0,0,1", "1,-0,0,1", "1,0,-0,1", "+1,0,0,1", "1,+0,0,1", "1,0,0,+1",
		"--1,0,0,1", "1,-,0,1", "1,0,0,1-", "- 1,0,0,1",
		" 1,0,0,1", "1 ,0,0,1", "1, 0,0,1", "1,0,0,1 ", "\t1,0,0,1", "1,0,0,1\n", "1,0,0,1\r\n", "1,0,0,1\x00", " ",
		"1.0,0,0,1", "1e0,0,0,1", "0x1,0,0,1", "1_0,9,1,1", "a,b,c,d", "(1,0,0,1)", "[1,0,0,1]", "{1 0 0 1}", "1,0,0,x",
		"1,18446744073709551616,0,1", "18446744073709551617,0,0,1", "1,9223372036854775808,0,1",
		"\u22121,0,0,1", "\uff11,0,0,1", "1\uff0c0\uff0c0\uff0c1", "\xff,0,0,1", "1,0,0,\xff",
		strings.Repeat(",", 1000), strings.Repeat("1", 1000) + ",0,0,1",
	}
	for _, w := range wrongMats() {
		var parts []string
		for _, n := range []int64{w.A, w.B, w.C, w.D} {
			parts = append(parts, strconv.FormatInt(n, 10))
		}
		texts = append(texts, strings.Join(parts, ","))
	}
	for _, s := range texts {
		if m, ok := impl.ReadMat(s); m != (impl.Mat{}) || ok {
			t.Errorf("ReadMat(%q) = %v, %v", s, m, ok)
		}
	}
}

// TestReadMatOfAllShortTexts tries every text of up to eight of these letters: exactly the texts of
// matrices are read.
func TestReadMatOfAllShortTexts(t *testing.T) {
	texts := map[string]impl.Mat{}
	for _, m := range smallMats(11) {
		texts[impl.MatText(m)] = m
	}
	beginnings := []string{""}
	for range 8 {
		var longer []string
		for _, s := range beginnings {
			for _, letter := range []string{"0", "1", "-", ",", " "} {
				longer = append(longer, s+letter)
			}
		}
		for _, s := range longer {
			want, isText := texts[s]
			if m, ok := impl.ReadMat(s); m != want || ok != isText {
				t.Errorf("ReadMat(%q) = %v, %v, want %v, %v", s, m, ok, want, isText)
			}
		}
		beginnings = longer
	}
}
