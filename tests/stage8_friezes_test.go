package tests

import (
	"math"
	"slices"
	"strconv"
	"strings"
	"testing"

	"loop.example/g00943/impl"
)

// The following functions say by the definitions what the program should find. They do not ask it.

// friezeOf has rows of digits, separated by slashes.
func friezeOf(s string) impl.Frieze {
	rows := strings.Split(s, "/")
	f := impl.Frieze{High: int64(len(rows)), Wide: int64(len(rows[0]))}
	for _, digit := range strings.Join(rows, "") {
		f.Cells = append(f.Cells, int64(digit-'0'))
	}
	return f
}

func friezeRows(f impl.Frieze) string {
	var rows []string
	for y := range f.High {
		row := ""
		for x := range f.Wide {
			row += strconv.FormatInt(f.Cells[y*f.Wide+x], 10)
		}
		rows = append(rows, row)
	}
	return strings.Join(rows, "/")
}

func friezeLines(f impl.Frieze) string { return strings.ReplaceAll(friezeRows(f), "/", "\n") + "\n" }

func columnOf(x int64, wide int64) int64 { return (x%wide + wide) % wide }

func colourOf(f impl.Frieze, x int64, y int64) int64 { return f.Cells[y*f.Wide+columnOf(x, f.Wide)] }

// columnAndRow is where a frieze motion takes a column and a row.
func columnAndRow(f impl.Frieze, m impl.FriezeMotion, x int64, y int64) (int64, int64) {
	if m.TurnX {
		x = -x
	}
	if m.TurnY {
		y = f.High - 1 - y
	}
	return m.Shift + x, y
}

func keepsFrieze(f impl.Frieze, m impl.FriezeMotion) bool {
	for y := range f.High {
		for x := range f.Wide {
			if toX, toY := columnAndRow(f, m, x, y); colourOf(f, x, y) != colourOf(f, toX, toY) {
				return false
			}
		}
	}
	return true
}

func periodByTrying(f impl.Frieze) int64 {
	n := int64(1)
	for !keepsFrieze(f, impl.FriezeMotion{Shift: n}) {
		n++
	}
	return n
}

// friezeMotions has all motions with shifts less than a limit, in order.
func friezeMotions(limit int64) []impl.FriezeMotion {
	var list []impl.FriezeMotion
	for _, turns := range [4][2]bool{{false, false}, {false, true}, {true, false}, {true, true}} {
		for shift := range limit {
			list = append(list, impl.FriezeMotion{TurnX: turns[0], TurnY: turns[1], Shift: shift})
		}
	}
	return list
}

func symmetriesByTrying(f impl.Frieze) []impl.FriezeMotion {
	breaks := func(m impl.FriezeMotion) bool { return !keepsFrieze(f, m) }
	return slices.DeleteFunc(friezeMotions(periodByTrying(f)), breaks)
}

// nameBySymmetries goes through all cases of the four facts, also those that do not occur.
func nameBySymmetries(list []impl.FriezeMotion) string {
	has := func(turnX bool, turnY bool, isShift func(int64) bool) bool {
		return slices.ContainsFunc(list, func(m impl.FriezeMotion) bool {
			return m.TurnX == turnX && m.TurnY == turnY && isShift(m.Shift)
		})
	}
	isZero := func(n int64) bool { return n == 0 }
	isOther := func(n int64) bool { return n != 0 }
	isAny := func(int64) bool { return true }
	h, g := has(false, true, isZero), has(false, true, isOther)
	v, r := has(true, false, isAny), has(true, true, isAny)
	names := map[string]bool{
		"p2mm": h && v, "p11m": h && !v, "p2mg": v && r && !h, "p1m1": v && !h && !r, "p2": r && !h && !v, "p11g": g && !h && !v && !r,
	}
	for name, holds := range names {
		if holds {
			return name
		}
	}
	return "p1"
}

// movedBackwards asks for each cell where its colour comes from.
func movedBackwards(f impl.Frieze, m impl.FriezeMotion) impl.Frieze {
	moved := impl.Frieze{High: f.High, Wide: f.Wide}
	for y := range f.High {
		for x := range f.Wide {
			fromX, fromY := x-m.Shift, y
			if m.TurnX {
				fromX = m.Shift - x
			}
			if m.TurnY {
				fromY = f.High - 1 - y
			}
			moved.Cells = append(moved.Cells, colourOf(f, fromX, fromY))
		}
	}
	return moved
}

func friezeNames() []string {
	return []string{"p1", "p11m", "p1m1", "p2", "p11g", "p2mm", "p2mg"}
}

// askedFor has the motions that a name asks for, and whether there are such for a width.
func askedFor(name string, wide int64) ([]impl.FriezeMotion, bool) {
	var list []impl.FriezeMotion
	if name == "p1m1" || name == "p2mg" || name == "p2mm" {
		list = append(list, impl.FriezeMotion{TurnX: true})
	}
	if name == "p11m" || name == "p2mm" {
		list = append(list, impl.FriezeMotion{TurnY: true})
	}
	if name == "p2" {
		list = append(list, impl.FriezeMotion{TurnX: true, TurnY: true})
	}
	if name == "p11g" || name == "p2mg" {
		list = append(list, impl.FriezeMotion{TurnY: true, Shift: wide / 2})
		return list, wide%2 == 0
	}
	return list, true
}

// filledByJoining goes from each cell, in order, to all that products of the motions take it to.
func filledByJoining(f impl.Frieze, motions []impl.FriezeMotion) impl.Frieze {
	filled := impl.Frieze{High: f.High, Wide: f.Wide, Cells: slices.Repeat([]int64{-1}, len(f.Cells))}
	for first, colour := range f.Cells {
		if filled.Cells[first] >= 0 {
			continue
		}
		filled.Cells[first] = colour
		for open := []int64{int64(first)}; len(open) > 0; open = open[1:] {
			for _, m := range motions {
				x, y := columnAndRow(f, m, open[0]%f.Wide, open[0]/f.Wide)
				next := y*f.Wide + columnOf(x, f.Wide)
				if filled.Cells[next] < 0 {
					filled.Cells[next] = colour
					open = append(open, next)
				}
			}
		}
	}
	return filled
}

// readByLines reads a text line by line.
func readByLines(s string) (impl.Frieze, bool) {
	lines := strings.Split(s, "\n")
	rows := lines[:len(lines)-1]
	if lines[len(rows)] != "" || len(rows) < 1 || len(rows) > 6 || len(rows[0]) < 1 || len(rows[0]) > 24 {
		return impl.Frieze{}, false
	}
	for _, row := range rows {
		if len(row) != len(rows[0]) || strings.Trim(row, "0123456789") != "" {
			return impl.Frieze{}, false
		}
	}
	return friezeOf(strings.Join(rows, "/")), true
}

func areFriezesEqual(f impl.Frieze, g impl.Frieze) bool {
	return f.High == g.High && f.Wide == g.Wide && slices.Equal(f.Cells, g.Cells)
}

func friezeMotionsText(list []impl.FriezeMotion) string {
	var texts []string
	for _, m := range list {
		text := ""
		if m.TurnX {
			text += "X"
		}
		if m.TurnY {
			text += "Y"
		}
		texts = append(texts, text+strconv.FormatInt(m.Shift, 10))
	}
	return strings.Join(texts, " ")
}

// allFriezes has all friezes of one size with the colours 0 to k - 1.
func allFriezes(high int64, wide int64, k int64) []impl.Frieze {
	list := []impl.Frieze{{High: high, Wide: wide}}
	for range high * wide {
		var longer []impl.Frieze
		for _, f := range list {
			for colour := range k {
				longer = append(longer, impl.Frieze{High: high, Wide: wide, Cells: append(slices.Clone(f.Cells), colour)})
			}
		}
		list = longer
	}
	return list
}

func smallFriezes() []impl.Frieze {
	var list []impl.Frieze
	for _, c := range [][3]int64{
		{1, 1, 10}, {1, 2, 4}, {1, 3, 4}, {1, 4, 3}, {1, 5, 3}, {1, 6, 2}, {1, 7, 2}, {1, 8, 2},
		{2, 1, 4}, {2, 2, 4}, {2, 3, 3}, {2, 4, 3}, {2, 5, 2}, {3, 1, 4}, {3, 2, 3}, {3, 3, 2},
		{4, 1, 4}, {4, 2, 2}, {5, 1, 3}, {5, 2, 2}, {6, 1, 3},
	} {
		list = append(list, allFriezes(c[0], c[1], c[2])...)
	}
	return list
}

// scatter returns a function that gives numbers in 0..k - 1 in no plain order, the same ones each time.
func scatter(seed uint64) func(k int64) int64 {
	return func(k int64) int64 {
		seed = seed*6364136223846793005 + 1442695040888963407
		return int64(seed>>33) % k
	}
}

func scattered(high int64, wide int64, k int64, next func(int64) int64) impl.Frieze {
	f := impl.Frieze{High: high, Wide: wide}
	for range high * wide {
		f.Cells = append(f.Cells, next(k))
	}
	return f
}

// repeated has a frieze several times side by side.
func repeated(f impl.Frieze, times int64) impl.Frieze {
	long := impl.Frieze{High: f.High, Wide: f.Wide * times}
	for y := range f.High {
		for range times {
			long.Cells = append(long.Cells, f.Cells[y*f.Wide:(y+1)*f.Wide]...)
		}
	}
	return long
}

// greatFriezes has, for each size, scattered colours, repeated ones, and ones filled for each name and
// then moved, so that their mirrors and centres lie anywhere.
func greatFriezes() []impl.Frieze {
	var list []impl.Frieze
	next := scatter(8)
	for high := int64(1); high <= 6; high++ {
		for wide := int64(1); wide <= 24; wide++ {
			list = append(list, scattered(high, wide, 10, next), scattered(high, wide, 2, next))
			for times := int64(2); times <= wide; times++ {
				if wide%times == 0 {
					list = append(list, repeated(scattered(high, wide/times, 3, next), times))
				}
			}
			for _, name := range friezeNames() {
				if motions, ok := askedFor(name, wide); ok {
					f := filledByJoining(scattered(high, wide, 4, next), motions)
					list = append(list, movedBackwards(f, impl.FriezeMotion{Shift: next(wide)}))
				}
			}
		}
	}
	return list
}

// wrongFriezes also has sizes whose product overflows to the number of cells.
func wrongFriezes() []impl.Frieze {
	list := []impl.Frieze{
		{}, {Cells: []int64{}}, {High: math.MaxInt64, Wide: math.MaxInt64, Cells: []int64{1}}, {High: math.MinInt64, Wide: 2},
		{High: 1 << 32, Wide: 1 << 32}, {High: 1 << 62, Wide: 4}, {High: 4, Wide: 1 << 62}, {High: 1<<62 + 1, Wide: 4, Cells: []int64{1, 2, 3, 4}},
		{High: 4, Wide: 1<<62 + 1, Cells: []int64{1, 2, 3, 4}}, {High: 1<<63 - 1, Wide: -1, Cells: []int64{1}}, {High: 2, Wide: math.MinInt64},
	}
	for _, size := range [][2]int64{
		{0, 0}, {0, 1}, {1, 0}, {0, 24}, {6, 0}, {-1, 1}, {1, -1}, {-1, -1}, {-2, -3}, {7, 1}, {1, 25}, {7, 24}, {6, 25}, {7, 25}, {24, 6}, {8, 3}, {1, 48}, {12, 1},
	} {
		list = append(list, impl.Frieze{High: size[0], Wide: size[1], Cells: make([]int64, max(0, size[0]*size[1]))})
		list = append(list, impl.Frieze{High: size[0], Wide: size[1], Cells: []int64{5}})
	}
	for _, size := range [][2]int64{{1, 1}, {1, 2}, {2, 1}, {2, 3}, {1, 24}, {6, 1}, {6, 24}} {
		count := size[0] * size[1]
		for _, cells := range []int64{0, 1, count - 1, count + 1, count + size[0], count + size[1], 2 * count, count / 2} {
			if cells != count {
				list = append(list, impl.Frieze{High: size[0], Wide: size[1], Cells: make([]int64, cells)})
			}
		}
		for _, colour := range []int64{-1, 10, -10, 57, 256, 1 << 32, math.MaxInt64, math.MinInt64} {
			for _, i := range []int64{0, count / 2, count - 1} {
				f := impl.Frieze{High: size[0], Wide: size[1], Cells: make([]int64, count)}
				f.Cells[i] = colour
				list = append(list, f)
			}
		}
	}
	return list
}

func wrongFriezeNames() []string {
	return []string{
		"", " ", "p", "p4", "p3", "p6", "pm", "pg", "cm", "pmm", "pmg", "pgg", "cmm", "p4m", "p1 ", " p1", "p1\n", "p1\x00", "P1", "P2MM", "p2MM",
		"p11", "p111", "p112", "p1g1", "p2gg", "p2gm", "p2mgp1", "p2m", "p2mmm", "p11mg", "p1m", "pm11", "m", "mm", "*22oo", "1", "p11g ", "\xff",
	}
}

func wrongShifts(wide int64) []int64 {
	return []int64{-1, -wide, 1 - wide, wide, wide + 1, 2 * wide, 24, 1000, -1000, math.MaxInt64, math.MinInt64, math.MinInt64 + wide}
}

func TestIsFrieze(t *testing.T) {
	if impl.MaxRows != 6 || impl.MaxPeriod != 24 {
		t.Errorf("MaxRows = %d, MaxPeriod = %d", impl.MaxRows, impl.MaxPeriod)
	}
	for high := int64(1); high <= 6; high++ {
		for wide := int64(1); wide <= 24; wide++ {
			for colour := range int64(10) {
				f := impl.Frieze{High: high, Wide: wide, Cells: slices.Repeat([]int64{colour}, int(high*wide))}
				if !impl.IsFrieze(f) {
					t.Errorf("IsFrieze(%v) = false", f)
				}
			}
		}
	}
	for _, f := range wrongFriezes() {
		if impl.IsFrieze(f) {
			t.Errorf("IsFrieze(%v) = true", f)
		}
	}
	for high := int64(-2); high <= 26; high++ {
		for wide := int64(-2); wide <= 26; wide++ {
			f := impl.Frieze{High: high, Wide: wide, Cells: make([]int64, max(0, high*wide))}
			isOne := 1 <= high && high <= 6 && 1 <= wide && wide <= 24
			if impl.IsFrieze(f) != isOne {
				t.Errorf("IsFrieze with %d rows and %d columns = %v", high, wide, !isOne)
			}
		}
	}
}

// TestWrongFriezes has other arguments that are wrong, too, as ErrInvalid comes first.
func TestWrongFriezes(t *testing.T) {
	for _, f := range wrongFriezes() {
		if n, code := impl.PeriodOf(f); n != 0 || code != impl.ErrInvalid {
			t.Errorf("PeriodOf(%v) = %d, %d", f, n, code)
		}
		if list, code := impl.FriezeSymmetries(f); len(list) != 0 || code != impl.ErrInvalid {
			t.Errorf("FriezeSymmetries(%v) = %v, %d", f, list, code)
		}
		if name, code := impl.FriezeName(f); name != "" || code != impl.ErrInvalid {
			t.Errorf("FriezeName(%v) = %q, %d", f, name, code)
		}
		if s, code := impl.FriezeText(f); s != "" || code != impl.ErrInvalid {
			t.Errorf("FriezeText(%v) = %q, %d", f, s, code)
		}
		g, code := impl.ShortenFrieze(f)
		checkNoFrieze(t, "ShortenFrieze", g, code, impl.ErrInvalid)
		for _, x := range []int64{0, 1, -1000, 1001, math.MinInt64} {
			for _, y := range []int64{0, -1, 1, 6, math.MaxInt64} {
				if n, code := impl.FriezeAt(f, x, y); n != 0 || code != impl.ErrInvalid {
					t.Errorf("FriezeAt(%v, %d, %d) = %d, %d", f, x, y, n, code)
				}
			}
		}
		for _, shift := range []int64{0, 1, -1, 24, math.MinInt64, math.MaxInt64} {
			g, code := impl.MoveFrieze(f, impl.FriezeMotion{TurnX: true, Shift: shift})
			checkNoFrieze(t, "MoveFrieze", g, code, impl.ErrInvalid)
		}
		for _, name := range append(friezeNames(), "", "p4", "pmm") {
			g, code := impl.FillFrieze(f, name)
			checkNoFrieze(t, "FillFrieze", g, code, impl.ErrInvalid)
		}
	}
}

func checkNoFrieze(t *testing.T, name string, f impl.Frieze, code int64, want int64) {
	t.Helper()
	if !areFriezesEqual(f, impl.Frieze{}) || code != want {
		t.Errorf("%s = %v, %d, want no frieze, %d", name, f, code, want)
	}
}

func TestFriezeAt(t *testing.T) {
	f := friezeOf("1234567/7654321/0011223")
	for _, c := range [][3]int64{
		{0, 0, 1}, {6, 0, 7}, {7, 0, 1}, {-1, 0, 7}, {-7, 0, 1}, {-8, 0, 7}, {0, 1, 7}, {-2, 1, 2}, {1000, 0, 7}, {-1000, 0, 2}, {1000, 2, 3}, {-1000, 2, 0}, {999, 1, 2},
	} {
		if n, code := impl.FriezeAt(f, c[0], c[1]); n != c[2] || code != impl.ErrNone {
			t.Errorf("FriezeAt(%d, %d) = %d, %d, want %d", c[0], c[1], n, code, c[2])
		}
	}
	next := scatter(1)
	for high := int64(1); high <= 6; high++ {
		for wide := int64(1); wide <= 24; wide++ {
			f := scattered(high, wide, 10, next)
			for x := int64(-1000); x <= 1000; x++ {
				y := columnOf(x, high)
				if n, code := impl.FriezeAt(f, x, y); n != colourOf(f, x, y) || code != impl.ErrNone {
					t.Errorf("FriezeAt(%v, %d, %d) = %d, %d", f, x, y, n, code)
				}
			}
			checkNoCell(t, f)
		}
	}
}

// checkNoCell has columns and rows that are none, alone and together.
func checkNoCell(t *testing.T, f impl.Frieze) {
	t.Helper()
	wrongColumns := []int64{1001, -1001, 1024, -1024, math.MaxInt64, math.MinInt64}
	wrongRows := []int64{-1, f.High, f.High + 1, 1000, -1000, -f.High, math.MaxInt64, math.MinInt64}
	check := func(x int64, y int64) {
		if n, code := impl.FriezeAt(f, x, y); n != 0 || code != impl.ErrRange {
			t.Errorf("FriezeAt(%v, %d, %d) = %d, %d", f, x, y, n, code)
		}
	}
	for _, x := range wrongColumns {
		check(x, 0)
		check(x, f.High-1)
		for _, y := range wrongRows {
			check(x, y)
		}
	}
	for _, y := range wrongRows {
		for _, x := range []int64{0, f.Wide - 1, 1000, -1000} {
			check(x, y)
		}
	}
}

func TestPeriods(t *testing.T) {
	for _, c := range []struct {
		f    string
		want int64
		s    string
	}{
		{"7", 1, "7"}, {"77", 1, "7"}, {"12", 2, "12"}, {"1212", 2, "12"}, {"121", 3, "121"}, {"1213", 4, "1213"}, {"122122", 3, "122"}, {"112112112", 3, "112"},
		{"1212/0000", 2, "12/00"}, {"1212/0001", 4, "1212/0001"}, {"121212/123123", 6, "121212/123123"}, {"1/2/3", 1, "1/2/3"}, {"11/22/33", 1, "1/2/3"},
		{"1111/1212/1111", 2, "11/12/11"}, {"100000/000100", 6, "100000/000100"}, {"12341234/56785678", 4, "1234/5678"}, {"12341234/56785679", 8, "12341234/56785679"},
		{"000000000000000000000000", 1, "0"}, {"000000000001000000000001", 12, "000000000001"}, {"000000000000000000000001", 24, "000000000000000000000001"},
		{"00000000000000000000000", 1, "0"}, {"00000000000000000000001", 23, "00000000000000000000001"}, {"12121", 5, "12121"}, {"123123123123123123123123/111111111111111111111111", 3, "123/111"},
	} {
		f := friezeOf(c.f)
		if n, code := impl.PeriodOf(f); n != c.want || code != impl.ErrNone {
			t.Errorf("PeriodOf(%q) = %d, %d, want %d", c.f, n, code, c.want)
		}
		if g, code := impl.ShortenFrieze(f); !areFriezesEqual(g, friezeOf(c.s)) || code != impl.ErrNone {
			t.Errorf("ShortenFrieze(%q) = %v, %d, want %q", c.f, g, code, c.s)
		}
	}
}

func TestFriezeSymmetries(t *testing.T) {
	for _, c := range []struct{ f, want string }{
		{"7", "0 Y0 X0 XY0"}, {"777", "0 Y0 X0 XY0"}, {"1/2", "0 X0"}, {"1/1", "0 Y0 X0 XY0"}, {"1/2/1", "0 Y0 X0 XY0"}, {"1/2/3", "0 X0"},
		{"12", "0 Y0 X0 XY0"}, {"123", "0 Y0"}, {"100", "0 Y0 X0 XY0"}, {"010", "0 Y0 X2 XY2"}, {"001", "0 Y0 X1 XY1"}, {"0110", "0 Y0 X3 XY3"}, {"1100", "0 Y0 X1 XY1"},
		{"12/00", "0 X0"}, {"1212/0000", "0 X0"}, {"10/01", "0 Y1 X0 XY1"}, {"1010/0101", "0 Y1 X0 XY1"}, {"01/10", "0 Y1 X0 XY1"}, {"10/10", "0 Y0 X0 XY0"},
		{"100/000", "0 X0"}, {"000/001", "0 X1"}, {"120/120", "0 Y0"}, {"1100/0010", "0"}, {"1200/0021", "0 XY3"}, {"1200/1002", "0 XY0"}, {"1230/3012", "0 Y2"}, {"12301230/30123012", "0 Y2"},
		{"1000/0010", "0 Y2 X0 XY2"}, {"1230/4545/3012", "0 Y2"}, {"120/343/021", "0 XY2"}, {"1000/2020/0010", "0 Y2 X0 XY2"}, {"12/34", "0 X0"}, {"12/21", "0 Y1 X0 XY1"}, {"123/231", "0"},
		{"1200/0120", "0"}, {"1112/2111", "0 XY3"}, {"11112222/22221111", "0 Y4 X3 XY7"},
	} {
		if list, code := impl.FriezeSymmetries(friezeOf(c.f)); friezeMotionsText(list) != c.want || code != impl.ErrNone {
			t.Errorf("FriezeSymmetries(%q) = %v, %d, want %q", c.f, list, code, c.want)
		}
	}
}

func TestFriezeNames(t *testing.T) {
	for _, c := range []struct {
		name string
		list []string
	}{
		{"p1", []string{"1100/0010", "123/231", "1200/0120", "120/000", "123/456", "1230/1230/0000", "123/000/120", "112/200/000/120/000/000"}},
		{"p11m", []string{"123", "1123", "110100", "120/120", "123/000/123", "120/300/300/120", "1230/4500/6700/6700/4500/1230", "123123", "120120/120120"}},
		{"p1m1", []string{"12/00", "100/000", "1/2", "1/2/3", "1/2/2", "1/2/3/4/5/6", "1/2/3/3/2/2", "1212/0000", "0110/0000", "1000/0020", "11/22"}},
		{"p2", []string{"1200/0021", "1200/1002", "120/343/021", "123/000/321", "12001200/00210021", "123/145/154/132"}},
		{"p11g", []string{"1230/3012", "1230/4545/3012", "12301230/30123012", "112000/000112", "1100/2030/3020/0011"}},
		{"p2mg", []string{"10/01", "1000/0010", "12/21", "1010/0101", "1000/2020/0010", "0110/1001", "12/34/43/21", "11112222/22221111"}},
		{"p2mm", []string{"7", "12", "100", "010", "1221", "1/1", "1/2/1", "1/2/3/3/2/1", "10/10", "100/200/100", "777/777", "0110/0110", "1212", "123321/456654/123321"}},
	} {
		for _, s := range c.list {
			f := friezeOf(s)
			if name, code := impl.FriezeName(f); name != c.name || code != impl.ErrNone {
				t.Errorf("FriezeName(%q) = %q, %d, want %q", s, name, code, c.name)
			}
		}
	}
}

// checkPeriods checks period and shortened frieze, which is the same column by column.
func checkPeriods(t *testing.T, f impl.Frieze) impl.Frieze {
	t.Helper()
	want := periodByTrying(f)
	if n, code := impl.PeriodOf(f); n != want || code != impl.ErrNone {
		t.Errorf("PeriodOf(%v) = %d, %d, want %d", f, n, code, want)
	}
	short, code := impl.ShortenFrieze(f)
	if short.High != f.High || short.Wide != want || !impl.IsFrieze(short) || code != impl.ErrNone {
		t.Fatalf("ShortenFrieze(%v) = %v, %d, want the width %d", f, short, code, want)
	}
	for y := range f.High {
		for x := -f.Wide; x < 2*f.Wide; x++ {
			if n, code := impl.FriezeAt(short, x, y); n != colourOf(f, x, y) || code != impl.ErrNone {
				t.Errorf("ShortenFrieze(%v) = %v has %d at %d, %d", f, short, n, x, y)
			}
		}
	}
	if again, code := impl.ShortenFrieze(short); !areFriezesEqual(again, short) || code != impl.ErrNone {
		t.Errorf("ShortenFrieze(%v) = %v, %d", short, again, code)
	}
	if n, code := impl.PeriodOf(short); n != want || code != impl.ErrNone {
		t.Errorf("PeriodOf(%v) = %d, %d", short, n, code)
	}
	return short
}

// checkSymmetries compares symmetries and name of a frieze with the definitions, and those of the
// shortened one with them.
func checkSymmetries(t *testing.T, f impl.Frieze, short impl.Frieze) ([]impl.FriezeMotion, string) {
	t.Helper()
	want := symmetriesByTrying(f)
	wantName := nameBySymmetries(want)
	for _, g := range []impl.Frieze{f, short} {
		if list, code := impl.FriezeSymmetries(g); !slices.Equal(list, want) || code != impl.ErrNone {
			t.Errorf("FriezeSymmetries(%v) = %v, %d, want %v", g, list, code, want)
		}
		if name, code := impl.FriezeName(g); name != wantName || code != impl.ErrNone {
			t.Errorf("FriezeName(%v) = %q, %d, want %q", g, name, code, wantName)
		}
	}
	return want, wantName
}

// checkMotions does all motions: just the symmetries, also those followed by a period, change nothing, and
// what has been moved has the same kind of symmetries.
func checkMotions(t *testing.T, f impl.Frieze, symmetries []impl.FriezeMotion, name string) {
	t.Helper()
	period := periodByTrying(f)
	for i, m := range friezeMotions(f.Wide) {
		g, code := impl.MoveFrieze(f, m)
		if !areFriezesEqual(g, movedBackwards(f, m)) || code != impl.ErrNone {
			t.Errorf("MoveFrieze(%v, %v) = %v, %d", f, m, g, code)
		}
		within := m
		within.Shift %= period
		if slices.Contains(symmetries, within) != areFriezesEqual(f, g) {
			t.Errorf("MoveFrieze(%v, %v) = %v, but the symmetries are %v", f, m, g, symmetries)
		}
		if i%5 > 0 && f.Wide > 4 {
			continue
		}
		if s, code := impl.FriezeName(g); s != name || code != impl.ErrNone {
			t.Errorf("FriezeName(%v) = %q, %d, but that of %v is %q", g, s, code, f, name)
		}
		if list, code := impl.FriezeSymmetries(g); len(list) != len(symmetries) || code != impl.ErrNone {
			t.Errorf("FriezeSymmetries(%v) = %v, %d, but those of %v are %v", g, list, code, f, symmetries)
		}
	}
}

// checkSymmetriesKeep checks with the program's own results that the frieze to which a symmetry takes a
// frieze has the same symmetries.
func checkSymmetriesKeep(t *testing.T, f impl.Frieze) {
	t.Helper()
	list, _ := impl.FriezeSymmetries(f)
	if len(list) == 0 || list[0] != (impl.FriezeMotion{}) {
		t.Errorf("FriezeSymmetries(%v) = %v", f, list)
	}
	for _, m := range list {
		g, code := impl.MoveFrieze(f, m)
		if !areFriezesEqual(g, f) || code != impl.ErrNone {
			t.Errorf("MoveFrieze(%v, %v) = %v, %d", f, m, g, code)
		}
		if same, code := impl.FriezeSymmetries(g); !slices.Equal(same, list) || code != impl.ErrNone {
			t.Errorf("FriezeSymmetries(%v) = %v, %d, want %v", g, same, code, list)
		}
	}
}

func checkFriezeText(t *testing.T, f impl.Frieze) {
	t.Helper()
	s, code := impl.FriezeText(f)
	if s != friezeLines(f) || code != impl.ErrNone {
		t.Errorf("FriezeText(%v) = %q, %d", f, s, code)
	}
	if g, code := impl.ReadFrieze(s); !areFriezesEqual(g, f) || code != impl.ErrNone {
		t.Errorf("ReadFrieze(%q) = %v, %d, want %v", s, g, code, f)
	}
}

// checkFriezes checks each frieze, and that there are some of all kinds.
func checkFriezes(t *testing.T, list []impl.Frieze, least int) {
	t.Helper()
	names := map[string]int{}
	shorter := 0
	for _, f := range list {
		short := checkPeriods(t, f)
		symmetries, name := checkSymmetries(t, f, short)
		checkMotions(t, f, symmetries, name)
		checkSymmetriesKeep(t, f)
		checkFriezeText(t, f)
		names[name]++
		if short.Wide < f.Wide {
			shorter++
		}
	}
	for _, name := range friezeNames() {
		if names[name] < least {
			t.Errorf("only %d friezes with the name %q", names[name], name)
		}
	}
	if shorter < least || len(list)-shorter < least {
		t.Errorf("%d of %d friezes can be shortened", shorter, len(list))
	}
}

func TestSmallFriezes(t *testing.T) { checkFriezes(t, smallFriezes(), 20) }

func TestGreatFriezes(t *testing.T) { checkFriezes(t, greatFriezes(), 40) }

// TestFriezesOfOneRow: TurnY changes nothing in them, so that each symmetry comes with and without it.
func TestFriezesOfOneRow(t *testing.T) {
	for _, f := range slices.Concat(allFriezes(1, 4, 3), allFriezes(1, 7, 2), allFriezes(1, 10, 2)) {
		list, code := impl.FriezeSymmetries(f)
		if code != impl.ErrNone {
			t.Fatalf("FriezeSymmetries(%v) = %v, %d", f, list, code)
		}
		for _, m := range list {
			if m.TurnY = !m.TurnY; !slices.Contains(list, m) {
				t.Errorf("FriezeSymmetries(%v) = %v without %v", f, list, m)
			}
		}
		if name, _ := impl.FriezeName(f); name != "p11m" && name != "p2mm" {
			t.Errorf("FriezeName(%v) = %q", f, name)
		}
		for _, m := range friezeMotions(f.Wide) {
			g, _ := impl.MoveFrieze(f, m)
			m.TurnY = !m.TurnY
			if h, code := impl.MoveFrieze(f, m); !areFriezesEqual(g, h) || code != impl.ErrNone {
				t.Errorf("MoveFrieze(%v, %v) = %v, %d, want %v", f, m, h, code, g)
			}
		}
	}
}

func TestMoveFrieze(t *testing.T) {
	for _, c := range []struct {
		f    string
		m    impl.FriezeMotion
		want string
	}{
		{"1234/5678", impl.FriezeMotion{}, "1234/5678"},
		{"1234/5678", impl.FriezeMotion{Shift: 1}, "4123/8567"},
		{"1234/5678", impl.FriezeMotion{Shift: 3}, "2341/6785"},
		{"1234/5678", impl.FriezeMotion{TurnX: true}, "1432/5876"},
		{"1234/5678", impl.FriezeMotion{TurnX: true, Shift: 1}, "2143/6587"},
		{"1234/5678", impl.FriezeMotion{TurnX: true, Shift: 3}, "4321/8765"},
		{"1234/5678", impl.FriezeMotion{TurnY: true}, "5678/1234"},
		{"1234/5678", impl.FriezeMotion{TurnY: true, Shift: 1}, "8567/4123"},
		{"1234/5678", impl.FriezeMotion{TurnX: true, TurnY: true}, "5876/1432"},
		{"1234/5678", impl.FriezeMotion{TurnX: true, TurnY: true, Shift: 3}, "8765/4321"},
		{"12/34/56", impl.FriezeMotion{TurnY: true, Shift: 1}, "65/43/21"},
		{"1/2/3", impl.FriezeMotion{TurnX: true}, "1/2/3"},
		{"1/2/3", impl.FriezeMotion{TurnY: true}, "3/2/1"},
		{"7", impl.FriezeMotion{TurnX: true, TurnY: true}, "7"},
		{"1212/0000", impl.FriezeMotion{Shift: 2}, "1212/0000"},
		{"1212/0000", impl.FriezeMotion{Shift: 3}, "2121/0000"},
		{"111111111111111111111112", impl.FriezeMotion{Shift: 23}, "111111111111111111111121"},
		{"111111111111111111111112", impl.FriezeMotion{TurnX: true, Shift: 23}, "211111111111111111111111"},
	} {
		if g, code := impl.MoveFrieze(friezeOf(c.f), c.m); !areFriezesEqual(g, friezeOf(c.want)) || code != impl.ErrNone {
			t.Errorf("MoveFrieze(%q, %v) = %v, %d, want %q", c.f, c.m, g, code, c.want)
		}
	}
}

func TestMoveFriezeByWrongShifts(t *testing.T) {
	for _, f := range slices.Concat(greatFriezes(), smallFriezes()[:100]) {
		for _, m := range friezeMotions(1) {
			for _, m.Shift = range wrongShifts(f.Wide) {
				if m.Shift >= 0 && m.Shift < f.Wide || m.Shift == 0 {
					continue
				}
				g, code := impl.MoveFrieze(f, m)
				checkNoFrieze(t, "MoveFrieze", g, code, impl.ErrRange)
			}
		}
	}
}

func TestFillFrieze(t *testing.T) {
	for _, c := range []struct{ f, name, want string }{
		{"1234", "p1", "1234"}, {"1234", "p11m", "1234"}, {"1234", "p1m1", "1232"}, {"1234", "p2", "1232"}, {"1234", "p11g", "1212"}, {"1234", "p2mm", "1232"}, {"1234", "p2mg", "1212"},
		{"7", "p1", "7"}, {"7", "p11m", "7"}, {"7", "p1m1", "7"}, {"7", "p2", "7"}, {"7", "p2mm", "7"},
		{"1/2/3", "p1", "1/2/3"}, {"1/2/3", "p11m", "1/2/1"}, {"1/2/3", "p1m1", "1/2/3"}, {"1/2/3", "p2", "1/2/1"}, {"1/2/3", "p2mm", "1/2/1"},
		{"12/34", "p1", "12/34"}, {"12/34", "p11m", "12/12"}, {"12/34", "p1m1", "12/34"}, {"12/34", "p2", "12/12"}, {"12/34", "p11g", "12/21"}, {"12/34", "p2mm", "12/12"}, {"12/34", "p2mg", "12/21"},
		{"123/456", "p1m1", "122/455"}, {"123/456", "p2", "123/132"}, {"123/456", "p11m", "123/123"}, {"123/456", "p2mm", "122/122"},
		{"12/34/56", "p11g", "12/33/21"}, {"12/34/56", "p2", "12/34/12"}, {"12/34/56", "p2mg", "12/33/21"}, {"12/34/56", "p2mm", "12/34/12"},
		{"123456", "p11g", "123123"}, {"123456", "p2mg", "122122"}, {"123456/000000", "p2mg", "123432/432123"}, {"123456/000000", "p11g", "123456/456123"},
		{"0123/4567/8901/2345", "p2", "0123/4567/4765/0321"}, {"0123/4567/8901/2345", "p2mg", "0121/4565/6545/2101"},
		{"9876543210", "p1m1", "9876545678"}, {"9111/1111", "p11g", "9111/1191"}, {"1119/1111", "p1m1", "1111/1111"},
	} {
		if g, code := impl.FillFrieze(friezeOf(c.f), c.name); !areFriezesEqual(g, friezeOf(c.want)) || code != impl.ErrNone {
			t.Errorf("FillFrieze(%q, %q) = %v, %d, want %q", c.f, c.name, g, code, c.want)
		}
	}
}

// checkFilled checks promise 8: what was asked for keeps the filled frieze, and is listed for it.
func checkFilled(t *testing.T, f impl.Frieze, name string, motions []impl.FriezeMotion) {
	t.Helper()
	filled, code := impl.FillFrieze(f, name)
	if want := filledByJoining(f, motions); !areFriezesEqual(filled, want) || code != impl.ErrNone {
		t.Fatalf("FillFrieze(%v, %q) = %v, %d, want %v", f, name, filled, code, want)
	}
	period, _ := impl.PeriodOf(filled)
	symmetries, _ := impl.FriezeSymmetries(filled)
	for _, m := range motions {
		if g, code := impl.MoveFrieze(filled, m); !areFriezesEqual(g, filled) || code != impl.ErrNone {
			t.Errorf("FillFrieze(%v, %q) = %v, which %v takes to %v, %d", f, name, filled, m, g, code)
		}
		if m.Shift %= period; !slices.Contains(symmetries, m) {
			t.Errorf("FillFrieze(%v, %q) = %v, whose symmetries are %v", f, name, filled, symmetries)
		}
	}
	if again, code := impl.FillFrieze(filled, name); !areFriezesEqual(again, filled) || code != impl.ErrNone {
		t.Errorf("FillFrieze(%v, %q) = %v, %d", filled, name, again, code)
	}
}

func TestFilledFriezes(t *testing.T) {
	for _, f := range slices.Concat(smallFriezes(), greatFriezes()) {
		for _, name := range friezeNames() {
			if motions, ok := askedFor(name, f.Wide); ok {
				checkFilled(t, f, name, motions)
				continue
			}
			g, code := impl.FillFrieze(f, name)
			checkNoFrieze(t, "FillFrieze", g, code, impl.ErrState)
		}
	}
}

// TestFilledFriezesHaveTheirNames has colours that are different enough for no other symmetries.
func TestFilledFriezesHaveTheirNames(t *testing.T) {
	for _, s := range []string{"12345678/90123456", "123456/789012", "11200000/00000000/22020000/00000000", "9012345678901234/1111111111111111/2222222222222225/0000000000000000"} {
		for _, name := range friezeNames() {
			g, _ := impl.FillFrieze(friezeOf(s), name)
			if found, code := impl.FriezeName(g); found != name || code != impl.ErrNone {
				t.Errorf("FillFrieze(%q, %q) = %v, whose name is %q, %d", s, name, g, found, code)
			}
		}
	}
}

// TestFillFriezeOfOddWidths has a name that is none, too: ErrRange comes first.
func TestFillFriezeOfOddWidths(t *testing.T) {
	next := scatter(3)
	for high := int64(1); high <= 6; high++ {
		for wide := int64(1); wide <= 24; wide++ {
			f := scattered(high, wide, 10, next)
			for _, name := range friezeNames() {
				want := int64(impl.ErrNone)
				if wide%2 == 1 && (name == "p11g" || name == "p2mg") {
					want = impl.ErrState
				}
				g, code := impl.FillFrieze(f, name)
				if code != want {
					t.Errorf("FillFrieze(%v, %q) = %v, %d, want %d", f, name, g, code, want)
				}
				if want != impl.ErrNone {
					checkNoFrieze(t, "FillFrieze", g, code, want)
				}
			}
			for _, name := range wrongFriezeNames() {
				g, code := impl.FillFrieze(f, name)
				checkNoFrieze(t, "FillFrieze", g, code, impl.ErrRange)
			}
		}
	}
}

func TestFriezeTexts(t *testing.T) {
	for _, s := range []string{"7\n", "0123456789\n", "12\n00\n", "1\n2\n3\n4\n5\n6\n", "012345678901234567890123\n", strings.Repeat("987654321098765432109876\n", 6)} {
		f, code := impl.ReadFrieze(s)
		if !areFriezesEqual(f, friezeOf(strings.ReplaceAll(strings.TrimSuffix(s, "\n"), "\n", "/"))) || code != impl.ErrNone {
			t.Errorf("ReadFrieze(%q) = %v, %d", s, f, code)
		}
		if again, code := impl.FriezeText(f); again != s || code != impl.ErrNone {
			t.Errorf("FriezeText(%v) = %q, %d, want %q", f, again, code, s)
		}
	}
	for _, s := range []string{
		"", "\n", "\n\n", "\n\n\n\n\n\n", "12", "1", "12\n1\n", "1\n12\n", "12\n12", "12\n1\n123\n", "1\n123\n12\n", "12\n\n12\n", "\n12\n", "12\n\n", "1\n\n23\n", "123\n1\n",
		"1a\n", "a\n", "-1\n", "+1\n", "1 2\n", " 12\n", "12 \n", "12\r\n", "12\r\n00\r\n", "1/\n", "1:\n", "12/00/", "12/00", "1,2\n", "1\x00\n", "\x00\n", "\xb2\xb3\n", "\u0663\n", "\u00bd\n", "\uff11\n",
		strings.Repeat("1\n", 7), strings.Repeat("1", 25) + "\n", strings.Repeat(strings.Repeat("1", 24)+"\n", 7), strings.Repeat(strings.Repeat("1", 25)+"\n", 6), strings.Repeat("12\n", 1000), strings.Repeat("1", 100000) + "\n",
		strings.Repeat("\n", 100), strings.Repeat("1", 24), strings.Repeat("12\n", 5) + "12", strings.Repeat("12\n", 6) + "1", strings.Repeat("12\n", 6) + "\n",
	} {
		f, code := impl.ReadFrieze(s)
		checkNoFrieze(t, "ReadFrieze", f, code, impl.ErrSyntax)
	}
}

// checkRead compares with readByLines and tells whether s is the text of a frieze.
func checkRead(t *testing.T, s string) bool {
	t.Helper()
	want, isText := readByLines(s)
	wantCode := int64(impl.ErrNone)
	if !isText {
		wantCode = impl.ErrSyntax
	}
	f, code := impl.ReadFrieze(s)
	if !areFriezesEqual(f, want) || code != wantCode {
		t.Errorf("ReadFrieze(%q) = %v, %d, want %v, %d", s, f, code, want, wantCode)
	}
	if again, _ := impl.FriezeText(f); isText && again != s {
		t.Errorf("FriezeText(%v) = %q, want %q", f, again, s)
	}
	return isText
}

// TestReadFriezeOfShortTexts has all texts of a few signs: digits, the signs beside them, and newlines.
func TestReadFriezeOfShortTexts(t *testing.T) {
	accepted := 0
	texts := []string{""}
	for range 7 {
		var longer []string
		for _, s := range texts {
			for _, sign := range "09/:\n" {
				longer = append(longer, s+string(sign))
			}
		}
		for _, s := range longer {
			if checkRead(t, s) {
				accepted++
			}
		}
		texts = longer
	}
	if accepted < 100 {
		t.Errorf("only %d texts of friezes", accepted)
	}
}

func TestReadFriezeOfChangedTexts(t *testing.T) {
	accepted := 0
	for _, text := range []string{"12\n34\n", "1\n2\n3\n4\n5\n6\n", "123456789012345678901234\n", "123\n000\n987\n"} {
		for _, once := range changesOf(text, "09\n/: \r") {
			for _, twice := range changesOf(once, "5\na") {
				if checkRead(t, twice) {
					accepted++
				}
			}
		}
	}
	if accepted < 500 {
		t.Errorf("only %d texts of friezes", accepted)
	}
}

// checkFriezeIsNew overwrites one frieze that a call returned, and checks those of two other calls.
func checkFriezeIsNew(t *testing.T, name string, call func() (impl.Frieze, int64)) {
	t.Helper()
	checkIsNew(t, name, func() []int64 { g, _ := call(); return g.Cells }, -7)
}

// checkNumbersAreKept calls with numbers that have spare capacity, and checks them and what is behind them.
func checkNumbersAreKept(t *testing.T, name string, numbers []int64, call func([]int64)) {
	t.Helper()
	whole := append(slices.Clone(numbers), slices.Repeat([]int64{-7}, 200)...)
	want := slices.Clone(whole)
	if call(whole[:len(numbers)]); !slices.Equal(whole, want) {
		t.Errorf("%s changes its argument %v", name, want[:len(numbers)])
	}
}

func checkCellsAreKept(t *testing.T, name string, f impl.Frieze, call func(impl.Frieze)) {
	t.Helper()
	checkNumbersAreKept(t, name, f.Cells, func(cells []int64) { f.Cells = cells; call(f) })
}

func TestFriezesShareNoMemory(t *testing.T) {
	for _, f := range slices.Concat(greatFriezes(), allFriezes(2, 2, 3)) {
		before, s := slices.Clone(f.Cells), friezeLines(f)
		wrong := impl.FriezeMotion{Shift: -7}
		checkIsNew(t, "FriezeSymmetries", func() []impl.FriezeMotion { list, _ := impl.FriezeSymmetries(f); return list }, wrong)
		checkFriezeIsNew(t, "ShortenFrieze", func() (impl.Frieze, int64) { return impl.ShortenFrieze(f) })
		checkFriezeIsNew(t, "ReadFrieze", func() (impl.Frieze, int64) { return impl.ReadFrieze(s) })
		for _, m := range friezeMotions(min(f.Wide, 2)) {
			checkFriezeIsNew(t, "MoveFrieze", func() (impl.Frieze, int64) { return impl.MoveFrieze(f, m) })
		}
		for _, name := range friezeNames() {
			checkFriezeIsNew(t, "FillFrieze", func() (impl.Frieze, int64) { return impl.FillFrieze(f, name) })
			checkCellsAreKept(t, "FillFrieze", f, func(g impl.Frieze) { impl.FillFrieze(g, name) })
		}
		if !slices.Equal(f.Cells, before) {
			t.Fatalf("a result shares memory with an argument: %v, %v", f, before)
		}
		checkCellsAreKept(t, "IsFrieze", f, func(g impl.Frieze) { impl.IsFrieze(g) })
		checkCellsAreKept(t, "FriezeAt", f, func(g impl.Frieze) { impl.FriezeAt(g, -1, 0) })
		checkCellsAreKept(t, "PeriodOf", f, func(g impl.Frieze) { impl.PeriodOf(g) })
		checkCellsAreKept(t, "ShortenFrieze", f, func(g impl.Frieze) { impl.ShortenFrieze(g) })
		checkCellsAreKept(t, "FriezeSymmetries", f, func(g impl.Frieze) { impl.FriezeSymmetries(g) })
		checkCellsAreKept(t, "FriezeName", f, func(g impl.Frieze) { impl.FriezeName(g) })
		checkCellsAreKept(t, "MoveFrieze", f, func(g impl.Frieze) { impl.MoveFrieze(g, impl.FriezeMotion{TurnX: true, TurnY: true}) })
		checkCellsAreKept(t, "FriezeText", f, func(g impl.Frieze) { impl.FriezeText(g) })
	}
}
