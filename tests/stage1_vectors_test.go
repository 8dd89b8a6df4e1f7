package tests

import (
	"math"
	"strconv"
	"testing"

	"loop.example/g00943/impl"
)

// edgeNumbers has the limits of a coordinate and numbers of every length and sign between them.
func edgeNumbers() []int64 {
	return []int64{-1000, -999, -360, -101, -100, -99, -12, -10, -9, -1, 0, 1, 9, 10, 12, 99, 100, 101, 360, 999, 1000}
}

func edgeVecs() []impl.Vec {
	var vecs []impl.Vec
	for _, x := range edgeNumbers() {
		for _, y := range edgeNumbers() {
			vecs = append(vecs, impl.Vec{X: x, Y: y})
		}
	}
	return vecs
}

// wrongVecs has vectors one beyond each limit, and such as overflow when they are negated, added
// or multiplied.
func wrongVecs() []impl.Vec {
	return []impl.Vec{
		{X: 1001}, {X: -1001}, {Y: 1001}, {Y: -1001},
		{X: 1001, Y: 1001}, {X: 1000, Y: -1001}, {X: -1001, Y: 1000},
		{X: math.MaxInt64}, {X: math.MinInt64}, {Y: math.MaxInt64}, {Y: math.MinInt64},
		{X: math.MinInt64, Y: math.MinInt64}, {X: 1 << 32}, {Y: 1 << 62},
	}
}

func TestErrorCodes(t *testing.T) {
	codes := []int64{
		impl.ErrNone, impl.ErrInvalid, impl.ErrRange, impl.ErrLimit,
		impl.ErrNotFound, impl.ErrState, impl.ErrSyntax,
	}
	for want, code := range codes {
		if code != int64(want) {
			t.Errorf("error code %d is %d", want, code)
		}
	}
	if impl.MaxCoordinate != 1000 {
		t.Errorf("MaxCoordinate = %d", impl.MaxCoordinate)
	}
}

func TestIsVec(t *testing.T) {
	for _, v := range edgeVecs() {
		if !impl.IsVec(v) {
			t.Errorf("IsVec(%v) = false", v)
		}
	}
	for _, v := range wrongVecs() {
		if impl.IsVec(v) {
			t.Errorf("IsVec(%v) = true", v)
		}
	}
}

func TestAddVecs(t *testing.T) {
	for _, c := range []struct {
		u, v, want impl.Vec
		code       int64
	}{
		{impl.Vec{X: 2, Y: -3}, impl.Vec{X: 5, Y: 1}, impl.Vec{X: 7, Y: -2}, impl.ErrNone},
		{impl.Vec{}, impl.Vec{}, impl.Vec{}, impl.ErrNone},
		{impl.Vec{X: 999, Y: -999}, impl.Vec{X: 1, Y: -1}, impl.Vec{X: 1000, Y: -1000}, impl.ErrNone},
		{impl.Vec{X: -1000, Y: 1000}, impl.Vec{X: 1000, Y: -1000}, impl.Vec{}, impl.ErrNone},
		{impl.Vec{X: 1000, Y: 5}, impl.Vec{X: 1, Y: 5}, impl.Vec{}, impl.ErrLimit},
		{impl.Vec{X: -1000, Y: 5}, impl.Vec{X: -1, Y: 5}, impl.Vec{}, impl.ErrLimit},
		{impl.Vec{X: 5, Y: 1}, impl.Vec{X: 5, Y: 1000}, impl.Vec{}, impl.ErrLimit},
		{impl.Vec{X: 5, Y: -1}, impl.Vec{X: 5, Y: -1000}, impl.Vec{}, impl.ErrLimit},
	} {
		if v, code := impl.AddVecs(c.u, c.v); v != c.want || code != c.code {
			t.Errorf("AddVecs(%v, %v) = %v, %d, want %v, %d", c.u, c.v, v, code, c.want, c.code)
		}
	}
}

func TestAddVecsInvalid(t *testing.T) {
	for _, w := range wrongVecs() {
		for _, v := range []impl.Vec{{}, {X: 1000, Y: 1000}, {X: -1000, Y: -1000}, w} {
			if r, code := impl.AddVecs(w, v); r != (impl.Vec{}) || code != impl.ErrInvalid {
				t.Errorf("AddVecs(%v, %v) = %v, %d", w, v, r, code)
			}
			if r, code := impl.AddVecs(v, w); r != (impl.Vec{}) || code != impl.ErrInvalid {
				t.Errorf("AddVecs(%v, %v) = %v, %d", v, w, r, code)
			}
		}
	}
}

func TestScaleVec(t *testing.T) {
	for _, c := range []struct {
		v    impl.Vec
		n    int64
		want impl.Vec
		code int64
	}{
		{impl.Vec{X: 2, Y: -3}, -4, impl.Vec{X: -8, Y: 12}, impl.ErrNone},
		{impl.Vec{X: 1000, Y: -1000}, -1, impl.Vec{X: -1000, Y: 1000}, impl.ErrNone},
		{impl.Vec{X: 1000, Y: -1000}, 0, impl.Vec{}, impl.ErrNone},
		{impl.Vec{X: 1, Y: -1}, 1000, impl.Vec{X: 1000, Y: -1000}, impl.ErrNone},
		{impl.Vec{X: 1, Y: -1}, -1000, impl.Vec{X: -1000, Y: 1000}, impl.ErrNone},
		{impl.Vec{}, 1000, impl.Vec{}, impl.ErrNone},
		{impl.Vec{X: 2, Y: 1}, 501, impl.Vec{}, impl.ErrLimit},
		{impl.Vec{X: 1, Y: 2}, -501, impl.Vec{}, impl.ErrLimit},
		{impl.Vec{X: 7, Y: -11}, 91, impl.Vec{}, impl.ErrLimit},
		{impl.Vec{X: 1000, Y: 1000}, 1000, impl.Vec{}, impl.ErrLimit},
		{impl.Vec{}, 1001, impl.Vec{}, impl.ErrRange},
		{impl.Vec{}, -1001, impl.Vec{}, impl.ErrRange},
		{impl.Vec{X: 1}, 1001, impl.Vec{}, impl.ErrRange},
		{impl.Vec{X: 4}, 1 << 62, impl.Vec{}, impl.ErrRange},
		{impl.Vec{X: 2}, math.MinInt64, impl.Vec{}, impl.ErrRange},
		{impl.Vec{X: 1000}, math.MaxInt64, impl.Vec{}, impl.ErrRange},
	} {
		if v, code := impl.ScaleVec(c.v, c.n); v != c.want || code != c.code {
			t.Errorf("ScaleVec(%v, %d) = %v, %d, want %v, %d", c.v, c.n, v, code, c.want, c.code)
		}
	}
	for _, w := range wrongVecs() {
		for _, n := range []int64{0, 1, -1000, 1001, math.MinInt64} {
			if v, code := impl.ScaleVec(w, n); v != (impl.Vec{}) || code != impl.ErrInvalid {
				t.Errorf("ScaleVec(%v, %d) = %v, %d", w, n, v, code)
			}
		}
	}
}

func TestDetOf(t *testing.T) {
	for _, c := range []struct {
		u, v impl.Vec
		want int64
	}{
		{impl.Vec{X: 2, Y: 1}, impl.Vec{X: 1, Y: 3}, 5},
		{impl.Vec{X: 1, Y: 3}, impl.Vec{X: 2, Y: 1}, -5},
		{impl.Vec{X: 1}, impl.Vec{Y: 1}, 1},
		{impl.Vec{X: -6, Y: 4}, impl.Vec{X: 3, Y: -2}, 0},
		{impl.Vec{}, impl.Vec{X: 1000, Y: 1000}, 0},
		{impl.Vec{X: 1000, Y: -1000}, impl.Vec{X: 1000, Y: 1000}, 2000000},
		{impl.Vec{X: 1000, Y: 1000}, impl.Vec{X: 1000, Y: -1000}, -2000000},
	} {
		if n, code := impl.DetOf(c.u, c.v); n != c.want || code != impl.ErrNone {
			t.Errorf("DetOf(%v, %v) = %d, %d, want %d", c.u, c.v, n, code, c.want)
		}
	}
	for _, w := range wrongVecs() {
		v := impl.Vec{X: 3, Y: 5}
		if n, code := impl.DetOf(w, v); n != 0 || code != impl.ErrInvalid {
			t.Errorf("DetOf(%v, %v) = %d, %d", w, v, n, code)
		}
		if n, code := impl.DetOf(v, w); n != 0 || code != impl.ErrInvalid {
			t.Errorf("DetOf(%v, %v) = %d, %d", v, w, n, code)
		}
	}
}

func TestDivisorOf(t *testing.T) {
	for _, c := range []struct{ a, b, want, code int64 }{
		{-12, 18, 6, impl.ErrNone},
		{12, -18, 6, impl.ErrNone},
		{-12, -18, 6, impl.ErrNone},
		{18, 12, 6, impl.ErrNone},
		{0, 0, 0, impl.ErrNone},
		{0, 7, 7, impl.ErrNone},
		{0, -7, 7, impl.ErrNone},
		{-7, 0, 7, impl.ErrNone},
		{1, -1, 1, impl.ErrNone},
		{35, 64, 1, impl.ErrNone},
		{1000000, 1000000, 1000000, impl.ErrNone},
		{-1000000, 0, 1000000, impl.ErrNone},
		{-1000000, 999999, 1, impl.ErrNone},
		{1000001, 0, 0, impl.ErrRange},
		{0, 1000001, 0, impl.ErrRange},
		{-1000001, 5, 0, impl.ErrRange},
		{5, -1000001, 0, impl.ErrRange},
		{1000001, 1000001, 0, impl.ErrRange},
		{math.MinInt64, 0, 0, impl.ErrRange},
		{-1, math.MinInt64, 0, impl.ErrRange},
		{math.MaxInt64, math.MaxInt64, 0, impl.ErrRange},
	} {
		if n, code := impl.DivisorOf(c.a, c.b); n != c.want || code != c.code {
			t.Errorf("DivisorOf(%d, %d) = %d, %d, want %d, %d", c.a, c.b, n, code, c.want, c.code)
		}
	}
}

// TestDivisorIsGreatest tries all numbers as divisors.
func TestDivisorIsGreatest(t *testing.T) {
	for a := int64(-40); a <= 40; a++ {
		for b := int64(-40); b <= 40; b++ {
			want := int64(0)
			for d := int64(1); d <= 40; d++ {
				if (a != 0 || b != 0) && a%d == 0 && b%d == 0 {
					want = d
				}
			}
			if n, code := impl.DivisorOf(a, b); n != want || code != impl.ErrNone {
				t.Errorf("DivisorOf(%d, %d) = %d, %d, want %d", a, b, n, code, want)
			}
		}
	}
}

func TestPrimitiveVec(t *testing.T) {
	for _, c := range []struct {
		v, want impl.Vec
		d, code int64
	}{
		{impl.Vec{X: -6, Y: 4}, impl.Vec{X: -3, Y: 2}, 2, impl.ErrNone},
		{impl.Vec{X: -6, Y: -4}, impl.Vec{X: -3, Y: -2}, 2, impl.ErrNone},
		{impl.Vec{X: 5, Y: 7}, impl.Vec{X: 5, Y: 7}, 1, impl.ErrNone},
		{impl.Vec{X: 0, Y: -9}, impl.Vec{X: 0, Y: -1}, 9, impl.ErrNone},
		{impl.Vec{X: -1000, Y: 0}, impl.Vec{X: -1, Y: 0}, 1000, impl.ErrNone},
		{impl.Vec{X: 1000, Y: 1000}, impl.Vec{X: 1, Y: 1}, 1000, impl.ErrNone},
		{impl.Vec{X: 1000, Y: -999}, impl.Vec{X: 1000, Y: -999}, 1, impl.ErrNone},
		{impl.Vec{}, impl.Vec{}, 0, impl.ErrState},
	} {
		if v, d, code := impl.PrimitiveVec(c.v); v != c.want || d != c.d || code != c.code {
			t.Errorf("PrimitiveVec(%v) = %v, %d, %d, want %v, %d, %d", c.v, v, d, code, c.want, c.d, c.code)
		}
	}
	for _, w := range wrongVecs() {
		if v, d, code := impl.PrimitiveVec(w); v != (impl.Vec{}) || d != 0 || code != impl.ErrInvalid {
			t.Errorf("PrimitiveVec(%v) = %v, %d, %d", w, v, d, code)
		}
	}
}

// TestVecIsDivisorTimesPrimitive checks the second half of the guarantee of chapter 1.
func TestVecIsDivisorTimesPrimitive(t *testing.T) {
	for _, v := range edgeVecs() {
		if v == (impl.Vec{}) {
			continue
		}
		p, d, code := impl.PrimitiveVec(v)
		if code != impl.ErrNone || d < 1 {
			t.Fatalf("PrimitiveVec(%v) = %v, %d, %d", v, p, d, code)
		}
		if n, code := impl.DivisorOf(v.X, v.Y); n != d || code != impl.ErrNone {
			t.Errorf("DivisorOf(%d, %d) = %d, %d, want %d", v.X, v.Y, n, code, d)
		}
		if n, code := impl.DivisorOf(p.X, p.Y); n != 1 || code != impl.ErrNone {
			t.Errorf("DivisorOf(%d, %d) = %d, %d, want 1", p.X, p.Y, n, code)
		}
		if u, code := impl.ScaleVec(p, d); u != v || code != impl.ErrNone {
			t.Errorf("ScaleVec(%v, %d) = %v, %d, want %v", p, d, u, code, v)
		}
	}
}

func TestCompareVecs(t *testing.T) {
	ordered := []impl.Vec{
		{X: -1000, Y: -1000}, {X: -1000, Y: 1000}, {X: -1, Y: 9}, {X: 0, Y: -1000}, {X: 0, Y: -1},
		{}, {Y: 1}, {X: 1, Y: -1000}, {X: 1, Y: 2}, {X: 1, Y: 3}, {X: 2, Y: -7}, {X: 10, Y: 0},
		{X: 1000, Y: -1000}, {X: 1000, Y: 1000},
	}
	for i, u := range ordered {
		for j, v := range ordered {
			want := int64(0)
			if i < j {
				want = -1
			} else if i > j {
				want = 1
			}
			if n, code := impl.CompareVecs(u, v); n != want || code != impl.ErrNone {
				t.Errorf("CompareVecs(%v, %v) = %d, %d, want %d", u, v, n, code, want)
			}
		}
	}
	for _, w := range wrongVecs() {
		for _, v := range []impl.Vec{{}, {X: 1000, Y: 1000}, w} {
			if n, code := impl.CompareVecs(w, v); n != 0 || code != impl.ErrInvalid {
				t.Errorf("CompareVecs(%v, %v) = %d, %d", w, v, n, code)
			}
			if n, code := impl.CompareVecs(v, w); n != 0 || code != impl.ErrInvalid {
				t.Errorf("CompareVecs(%v, %v) = %d, %d", v, w, n, code)
			}
		}
	}
}

func TestVecText(t *testing.T) {
	for _, c := range []struct {
		v    impl.Vec
		want string
	}{
		{impl.Vec{}, "0,0"},
		{impl.Vec{X: -12, Y: 3}, "-12,3"},
		{impl.Vec{X: 7, Y: -1}, "7,-1"},
		{impl.Vec{X: 1000, Y: -1000}, "1000,-1000"},
		{impl.Vec{X: -1000, Y: 1000}, "-1000,1000"},
	} {
		if s := impl.VecText(c.v); s != c.want {
			t.Errorf("VecText(%v) = %q, want %q", c.v, s, c.want)
		}
	}
	for _, w := range wrongVecs() {
		if s := impl.VecText(w); s != "" {
			t.Errorf("VecText(%v) = %q", w, s)
		}
	}
}

// TestVecIsFoundFromItsText checks promise 1 for all numbers, in both places.
func TestVecIsFoundFromItsText(t *testing.T) {
	vecs := edgeVecs()
	for n := int64(-1000); n <= 1000; n++ {
		vecs = append(vecs, impl.Vec{X: n, Y: 7}, impl.Vec{X: -7, Y: n}, impl.Vec{X: n, Y: -n})
	}
	for _, v := range vecs {
		if u, ok := impl.ReadVec(impl.VecText(v)); u != v || !ok {
			t.Errorf("ReadVec(%q) = %v, %v, want %v", impl.VecText(v), u, ok, v)
		}
	}
}

func TestReadVecRejects(t *testing.T) {
	texts := []string{
		"", ",", "1", "1,", ",1", "-", "-,1", "1,-", "1,2,3", "1,2,", ",1,2", "1,,2", "1;2", "1 2", "12",
		"01,2", "1,02", "00,0", "0,00", "-01,2", "1,-02", "-0,1", "1,-0", "+1,2", "1,+2", "+0,0",
		"--1,2", "1,--2", "1-,2", "- 1,2",
		" 1,2", "1 ,2", "1, 2", "1,2 ", "\t1,2", "1,2\n", "1,2\r\n", "1,2\x00", " ", ", ",
		"1001,0", "-1001,0", "0,1001", "0,-1001", "10000,0", "1001,1001",
		"9223372036854775807,0", "0,-9223372036854775808", "9223372036854775808,0",
		"4294967297,0", "18446744073709551617,0", "0,36893488147419103233",
		"1.0,2", "1e2,0", "0x1,2", "1_0,2", "a,b", "(1,2)", "1,2x", "{1 2}",
		"\u22121,2", "\uff11,2", "1\uff0c2", "\xff,1", "1,\xff",
	}
	for _, w := range wrongVecs() {
		texts = append(texts, strconv.FormatInt(w.X, 10)+","+strconv.FormatInt(w.Y, 10))
	}
	for _, s := range texts {
		if v, ok := impl.ReadVec(s); v != (impl.Vec{}) || ok {
			t.Errorf("ReadVec(%q) = %v, %v", s, v, ok)
		}
	}
}

// TestReadVecOfAllShortTexts tries every text of up to six of these letters: exactly the texts of
// vectors are read.
func TestReadVecOfAllShortTexts(t *testing.T) {
	numbers := []string{"0"}
	for _, n := range []string{"1", "10", "11", "100", "101", "110", "111", "1000"} {
		numbers = append(numbers, n, "-"+n)
	}
	texts := map[string]bool{}
	for _, x := range numbers {
		for _, y := range numbers {
			texts[x+","+y] = true
		}
	}
	beginnings := []string{""}
	for range 6 {
		var longer []string
		for _, s := range beginnings {
			for _, letter := range []string{"0", "1", "-", "+", ",", " "} {
				longer = append(longer, s+letter)
			}
		}
		for _, s := range longer {
			v, ok := impl.ReadVec(s)
			if ok != texts[s] || ok && impl.VecText(v) != s || !ok && v != (impl.Vec{}) {
				t.Errorf("ReadVec(%q) = %v, %v", s, v, ok)
			}
		}
		beginnings = longer
	}
}
