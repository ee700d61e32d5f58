package line

import (
	"math"
	"slices"
	"strings"
	"testing"

	"scrollback/api"
)

var (
	red   = api.Pen{Fore: api.Color{Kind: api.ColorIndex, Index: 1}}
	noPen = api.Pen{Back: api.Color{G: 3}}
)

// Cells that there are: empty is the empty cell, void a blank one with a pen; half is the spacer of wide, plainHalf that of plainWide.
var (
	a         = api.Cell{Rune: 'a', Width: 1}
	marked    = api.Cell{Rune: 'b', Width: 1, Marks: [3]rune{0x301}, Pen: red}
	empty     = api.Cell{Width: 1}
	void      = api.Cell{Width: 1, Pen: red}
	wide      = api.Cell{Rune: 0x4e00, Width: 2, Marks: [3]rune{0x302}, Pen: red}
	half      = api.Cell{Pen: red}
	plainWide = api.Cell{Rune: 0x1100, Width: 2}
	plainHalf = api.Cell{}
)

// goodCells are cells that there are, badCells such that there are not, some of which have no pen, no such width, or marks where none may be.
var (
	goodCells = []api.Cell{a, marked, empty, void, wide, half, plainWide, plainHalf}
	badCells  = []api.Cell{
		{Rune: 'a', Width: 1, Pen: noPen}, {Width: 1, Pen: noPen}, {Pen: noPen}, {Width: 3}, {Width: 2}, {Rune: 'a', Width: 2},
		{Width: 1, Marks: [3]rune{0x301}}, {Rune: 'a', Width: 1, Marks: [3]rune{0, 0x301}}, {Rune: 7, Width: 1}, {Rune: -1, Width: math.MinInt},
	}
	someCells = append(slices.Clone(goodCells), badCells[:6]...)
)

// badColumns are numbers of columns that no line has.
var badColumns = []int{-1, 1001, -2, -1000, 1002, 1024, 1 << 16, 1 << 32, 1<<32 + 1, math.MaxInt, math.MinInt, math.MinInt + 1}

// of returns a line that is not soft, soft one that is.
func of(l ...api.Cell) api.Line   { return api.Line{Cells: l} }
func soft(l ...api.Cell) api.Line { return api.Line{Cells: l, Soft: true} }

// same reports whether two lines are the same, without asking the program.
func same(x, y api.Line) bool { return x.Soft == y.Soft && slices.Equal(x.Cells, y.Cells) }

// clone returns a copy of a line, without asking the program.
func clone(l api.Line) api.Line {
	return api.Line{Cells: append([]api.Cell(nil), l.Cells...), Soft: l.Soft}
}

// zero reports whether a line is the zero value.
func zero(l api.Line) bool { return len(l.Cells) == 0 && !l.Soft }

// eachList calls a function with all lists of at most so many of the cells; the list is made anew each time.
func eachList(from []api.Cell, most int, f func(l []api.Cell)) {
	var grow func(l []api.Cell)
	grow = func(l []api.Cell) {
		f(slices.Clone(l))
		if len(l) < most {
			for _, c := range from {
				grow(append(slices.Clone(l), c))
			}
		}
	}
	grow(nil)
}

// eachLine calls a function with the lines of these lists, soft and not.
func eachLine(from []api.Cell, most int, f func(l api.Line)) {
	eachList(from, most, func(l []api.Cell) {
		f(of(l...))
		f(soft(slices.Clone(l)...))
	})
}

// rowByDefinition tells it for lists of the cells above.
func rowByDefinition(l []api.Cell) bool {
	for i := 0; i < len(l); i++ {
		switch l[i] {
		case a, marked, empty, void:
		case wide, plainWide:
			i++
			if i == len(l) || l[i] != (api.Cell{Pen: l[i-1].Pen}) {
				return false
			}
		default:
			return false
		}
	}
	return true
}

// rows returns the lists of at most so many of the cells above that are rows.
func rows(most int) [][]api.Cell {
	var all [][]api.Cell
	eachList(goodCells, most, func(l []api.Cell) {
		if rowByDefinition(l) {
			all = append(all, l)
		}
	})
	return all
}

// fixedByDefinition returns a part of a row whose halves without the other half, at either end, are blank.
func fixedByDefinition(l []api.Cell) []api.Cell {
	l = slices.Clone(l)
	if n := len(l); n > 0 {
		if l[0].Width == 0 {
			l[0] = api.Cell{Width: 1, Pen: l[0].Pen}
		}
		if l[n-1].Width == 2 {
			l[n-1] = api.Cell{Width: 1, Pen: l[n-1].Pen}
		}
	}
	return l
}

// usedByDefinition counts from the front on.
func usedByDefinition(l []api.Cell) int {
	used := 0
	for i, c := range l {
		if c != (api.Cell{Width: 1}) {
			used = i + 1
		}
	}
	return used
}

// P6.1 and P6.5: all numbers of columns.
func TestNew(t *testing.T) {
	for n := range 1001 {
		l, e := New(n)
		if len(l.Cells) != n || l.Soft || e != api.OK || !Valid(l) {
			t.Fatalf("%d: %v, %d", n, l, e)
		}
		for i, c := range l.Cells {
			if c != empty {
				t.Fatalf("%d: %v at %d", n, c, i)
			}
		}
	}
	for _, n := range badColumns {
		if l, e := New(n); !zero(l) || e != api.ErrArg {
			t.Errorf("%d: %v, %d", n, l, e)
		}
	}
}

// P6.1 and P6.5: all lists of at most four of some cells, some of which there are not.
func TestOfValid(t *testing.T) {
	valid := 0
	eachList(someCells, 4, func(l []api.Cell) {
		before := slices.Clone(l)
		want := rowByDefinition(l)
		if want {
			valid++
		}
		for _, isSoft := range []bool{false, true} {
			if Valid(api.Line{Cells: l, Soft: isSoft}) != want {
				t.Fatalf("%v: not %v", l, want)
			}
			made, e := Of(l, isSoft)
			if want && (!slices.Equal(made.Cells, l) || made.Soft != isSoft || e != api.OK || !Valid(made)) {
				t.Fatalf("%v: %v, %d", l, made, e)
			}
			if !want && (!zero(made) || e != api.ErrArg) {
				t.Fatalf("%v: %v, %d", l, made, e)
			}
		}
		if !slices.Equal(l, before) {
			t.Fatalf("%v became %v", before, l)
		}
	})
	// Four cells of one column and two pairs: 1 + 4 + 18 + 80 + 356 of them.
	if valid != 459 {
		t.Errorf("%d are valid", valid)
	}
}

// longRows are rows of just as many cells as a line may have.
func longRows() [][]api.Cell {
	return [][]api.Cell{
		slices.Repeat([]api.Cell{a}, 1000),
		slices.Repeat([]api.Cell{empty}, 1000),
		slices.Repeat([]api.Cell{wide, half}, 500),
		slices.Concat([]api.Cell{a}, slices.Repeat([]api.Cell{wide, half}, 499), []api.Cell{empty}),
		slices.Repeat([]api.Cell{a, void, empty, plainWide, plainHalf}, 200),
	}
}

// checkNoLine checks that cells, which are unchanged, are no line for any function.
func checkNoLine(t *testing.T, cells []api.Cell) {
	t.Helper()
	before := slices.Clone(cells)
	for _, isSoft := range []bool{false, true} {
		l := api.Line{Cells: cells, Soft: isSoft}
		if Valid(l) {
			t.Errorf("%d cells are valid", len(cells))
		}
		check := func(name string, got api.Line, e api.Errno) {
			t.Helper()
			if !zero(got) || e != api.ErrArg {
				t.Errorf("%s of %d cells: %v, %d", name, len(cells), got, e)
			}
		}
		made, e := Of(cells, isSoft)
		check("Of", made, e)
		made, e = Trim(l)
		check("Trim", made, e)
		for _, n := range append([]int{0, 1, len(cells) - 1, len(cells), len(cells) + 1, 1000}, badColumns...) {
			made, e = Fit(l, n)
			check("Fit", made, e)
		}
		// What is no line comes before a column that is out of range.
		for _, at := range []int{0, 1, -1, len(cells) - 1, len(cells), len(cells) + 1, math.MaxInt, math.MinInt} {
			for _, put := range [][]api.Cell{nil, {a}, {wide, half}, {half}, {badCells[0]}, cells} {
				made, e = Put(l, at, put)
				check("Put", made, e)
			}
		}
	}
	if !slices.Equal(cells, before) {
		t.Errorf("%v became %v", before, cells)
	}
}

// P6.1 to P6.3: what is no cell at every place of a row, and halves of wide cells.
func TestNoLine(t *testing.T) {
	row := []api.Cell{a, wide, half, empty}
	for _, bad := range badCells {
		for i := range len(row) + 1 {
			checkNoLine(t, slices.Insert(slices.Clone(row), i, bad))
		}
		for i := range row {
			checkNoLine(t, slices.Concat(row[:i], []api.Cell{bad}, row[i+1:]))
		}
	}
	for _, l := range [][]api.Cell{{half}, {wide}, {plainHalf}, {plainWide}, {wide, plainHalf}, {plainWide, half}, {wide, a}, {wide, wide, half}, {wide, half, half}, {a, half}, {half, a}, {a, wide}, {wide, empty}, {half, wide}} {
		checkNoLine(t, l)
	}
}

// P6.1 to P6.5: just as many cells as a line may have.
func TestAsManyAsMayBe(t *testing.T) {
	for i, cells := range longRows() {
		l, e := Of(cells, true)
		if !same(l, soft(cells...)) || e != api.OK || !Valid(l) {
			t.Errorf("%d: Of: %d cells, %d", i, len(l.Cells), e)
		}
		used := usedByDefinition(cells)
		if n := Used(l); n != used {
			t.Errorf("%d: %d are used, want %d", i, n, used)
		}
		if x, e := Trim(l); !same(x, soft(cells[:used]...)) || e != api.OK {
			t.Errorf("%d: Trim: %d cells, %d", i, len(x.Cells), e)
		}
		for n := range 1001 {
			if x, e := Fit(l, n); !same(x, soft(fixedByDefinition(cells[:n])...)) || e != api.OK || !Valid(x) {
				t.Fatalf("%d: Fit to %d: %d cells, %d", i, n, len(x.Cells), e)
			}
		}
		for j, put := range longRows() {
			if x, e := Put(l, 0, put); !same(x, soft(put...)) || e != api.OK {
				t.Errorf("%d, %d: Put: %d cells, %d", i, j, len(x.Cells), e)
			}
			for _, at := range []int{-1, 1, 1000, 1001} {
				if x, e := Put(l, at, put); !zero(x) || e != api.ErrRange {
					t.Errorf("%d, %d: Put at %d: %d cells, %d", i, j, at, len(x.Cells), e)
				}
			}
		}
		if x, e := Put(l, 1000, nil); !same(x, l) || e != api.OK {
			t.Errorf("%d: Put none: %d cells, %d", i, len(x.Cells), e)
		}
	}
}

// P6.1 to P6.3: one cell more than a line may have, which is no line; to put so many is no wrong argument, but there is no room.
func TestOneMoreThanMayBe(t *testing.T) {
	for i, cells := range longRows() {
		for _, more := range [][]api.Cell{{a}, {empty}, {wide, half}, cells} {
			long := slices.Concat(cells, more)
			checkNoLine(t, long)
			checkNoLine(t, slices.Concat(more, cells))
			for _, l := range []api.Line{of(), soft(a), of(cells...)} {
				if x, e := Put(l, 0, long); !zero(x) || e != api.ErrRange {
					t.Errorf("%d: %d cells, %d", i, len(x.Cells), e)
				}
			}
		}
	}
}

// P6.2 and P6.4: all lists of at most four of some cells, whether they are lines or not; the text is that of known cells.
func TestUsedText(t *testing.T) {
	known := map[api.Cell]string{a: "a", marked: "b\u0301", empty: " ", void: " ", wide: "\u4e00\u0302", half: "", plainWide: "\u1100", plainHalf: ""}
	for i, s := range []string{"a", " ", "", " ", " ", "a", " ", "a\u0301", "\a", "\ufffd"} {
		known[badCells[i]] = s
	}
	eachLine(someCells, 4, func(l api.Line) {
		before := clone(l)
		used := usedByDefinition(l.Cells)
		want := ""
		for _, c := range l.Cells[:used] {
			want += known[c]
		}
		if n := Used(l); n != used {
			t.Fatalf("%v: %d are used, want %d", l, n, used)
		}
		if s := Text(l); s != want {
			t.Fatalf("%v: %q, want %q", l, s, want)
		}
		if !same(l, before) {
			t.Fatalf("%v became %v", before, l)
		}
	})
	for i, c := range badCells {
		for _, l := range []api.Line{of(c), soft(c, empty), of(empty, c, empty, empty)} {
			want := strings.Repeat(" ", slices.Index(l.Cells, c)) + known[c]
			if n, s := Used(l), Text(l); n != slices.Index(l.Cells, c)+1 || s != want {
				t.Errorf("%d: %d, %q, want %q", i, n, s, want)
			}
		}
	}
}

// P6.2 and P6.4: more cells than a line may have.
func TestUsedTextOfLong(t *testing.T) {
	long := slices.Repeat([]api.Cell{a, half, empty}, 5000)
	if n, s := Used(of(long...)), Text(of(long...)); n != 14999 || s != strings.Repeat("a ", 4999)+"a" {
		t.Errorf("%d, %d bytes", n, len(s))
	}
	none := slices.Repeat([]api.Cell{empty}, 15000)
	if n, s := Used(soft(none...)), Text(soft(none...)); n != 0 || s != "" {
		t.Errorf("%d, %q", n, s)
	}
	none[0] = void
	if n, s := Used(soft(none...)), Text(soft(none...)); n != 1 || s != " " {
		t.Errorf("%d, %q", n, s)
	}
}

// P6.2 and P6.5: all lines of at most five cells, trimmed, and once more, which changes nothing; the text stays the same.
func TestTrim(t *testing.T) {
	for _, row := range rows(5) {
		for _, l := range []api.Line{of(row...), soft(row...)} {
			before := clone(l)
			want := api.Line{Cells: row[:usedByDefinition(row)], Soft: l.Soft}
			x, e := Trim(l)
			if !same(x, want) || e != api.OK || !Valid(x) {
				t.Fatalf("%v: %v, %d", l, x, e)
			}
			if again, e := Trim(x); !same(again, x) || e != api.OK {
				t.Fatalf("%v: %v, and then %v, %d", l, x, again, e)
			}
			if Text(x) != Text(l) || Used(x) != Used(l) {
				t.Fatalf("%v: %q, %q", l, Text(l), Text(x))
			}
			if !same(l, before) {
				t.Fatalf("%v became %v", before, l)
			}
		}
	}
}

// P6.2 and P6.5: all lines of at most five cells, fitted to fewer, as many and more; the text of a wider one stays the same.
func TestFit(t *testing.T) {
	for _, row := range rows(5) {
		for _, l := range []api.Line{of(row...), soft(row...)} {
			before := clone(l)
			for _, n := range []int{0, 1, 2, 3, 4, 5, 6, 7, 1000} {
				want := fixedByDefinition(row[:min(n, len(row))])
				for len(want) < n {
					want = append(want, empty)
				}
				x, e := Fit(l, n)
				if !same(x, api.Line{Cells: want, Soft: l.Soft}) || e != api.OK || !Valid(x) {
					t.Fatalf("%v to %d: %v, %d", l, n, x, e)
				}
				if n == len(row) && !same(x, l) {
					t.Fatalf("%v became %v", l, x)
				}
				if n >= len(row) && (Text(x) != Text(l) || Used(x) != Used(l)) {
					t.Fatalf("%v to %d: %q, %q", l, n, Text(l), Text(x))
				}
			}
			if !same(l, before) {
				t.Fatalf("%v became %v", before, l)
			}
		}
	}
}

// P6.2: numbers of columns that no line has.
func TestFitErrors(t *testing.T) {
	for _, l := range []api.Line{of(), soft(), soft(a), of(wide, half), of(longRows()[0]...)} {
		for _, n := range badColumns {
			if x, e := Fit(l, n); !zero(x) || e != api.ErrArg {
				t.Errorf("%d: %v, %d", n, x, e)
			}
		}
	}
}

// P6.3 and P6.5: all rows of at most three cells put into all lines of at most four, at all columns that there are, and next to these.
func TestPut(t *testing.T) {
	puts := rows(3)
	for _, row := range rows(4) {
		l := of(row...)
		for _, put := range puts {
			for at := -1; at <= len(row)+1; at++ {
				l.Soft = !l.Soft
				before, putBefore := clone(l), slices.Clone(put)
				x, e := Put(l, at, put)
				checkPut(t, l, at, put, x, e)
				if !same(l, before) || !slices.Equal(put, putBefore) {
					t.Fatalf("%v, %v became %v, %v", before, putBefore, l, put)
				}
			}
		}
	}
}

// checkPut checks what Put returned, cell by cell.
func checkPut(t *testing.T, l api.Line, at int, put []api.Cell, x api.Line, e api.Errno) {
	t.Helper()
	if at < 0 || at+len(put) > len(l.Cells) {
		if !zero(x) || e != api.ErrRange {
			t.Fatalf("%v, %d, %v: %v, %d", l, at, put, x, e)
		}
		return
	}
	want := fixedByDefinition(l.Cells[:at])
	want = append(want, put...)
	want = append(want, fixedByDefinition(l.Cells[at+len(put):])...)
	if !same(x, api.Line{Cells: want, Soft: l.Soft}) || e != api.OK {
		t.Fatalf("%v, %d, %v: %v, %d, want %v", l, at, put, x, e, want)
	}
	if !Valid(x) || len(x.Cells) != len(l.Cells) || !slices.Equal(x.Cells[at:at+len(put)], put) {
		t.Fatalf("%v, %d, %v: %v", l, at, put, x)
	}
}

// P6.3: what is no row comes before a column that is out of range, and before cells that have no room.
func TestPutErrors(t *testing.T) {
	noRows := [][]api.Cell{{half}, {wide}, {plainHalf}, {wide, plainHalf}, {wide, a}, {a, half}, {a, a, a, wide}, slices.Concat(longRows()[0], []api.Cell{half})}
	for _, c := range badCells {
		noRows = append(noRows, []api.Cell{c}, []api.Cell{a, c}, []api.Cell{c, wide, half})
	}
	columns := []int{0, 1, 2, 3, -1, 4, 5, 1000, 1001, math.MaxInt, math.MaxInt - 1, math.MinInt, math.MinInt + 1}
	for _, l := range []api.Line{of(), soft(a, wide, half), of(a, empty, void)} {
		for _, at := range columns {
			for _, put := range noRows {
				if x, e := Put(l, at, put); !zero(x) || e != api.ErrArg {
					t.Errorf("%v, %d, %v: %v, %d", l, at, put, x, e)
				}
			}
		}
		// A column plus a number of cells may leave the range of int.
		for _, at := range columns[4:] {
			for _, put := range [][]api.Cell{nil, {a}, {wide, half}, {a, a, a}, {a, a, a, a}, longRows()[0]} {
				if x, e := Put(l, at, put); !zero(x) || e != api.ErrRange {
					t.Errorf("%v, %d, %d cells: %v, %d", l, at, len(put), x, e)
				}
			}
		}
	}
}

// P6.4: all pairs of lines of at most two cells, some of which there are not, soft and not.
func TestEqual(t *testing.T) {
	var all []api.Line
	eachLine(someCells, 2, func(l api.Line) { all = append(all, l) })
	equal := 0
	for i, x := range all {
		for j, y := range all {
			if Equal(x, y) != (i == j) {
				t.Fatalf("%v, %v: %v", x, y, i != j)
			}
			if Equal(x, clone(y)) {
				equal++
			}
		}
	}
	if equal != len(all) || len(all) != 2*(1+14+14*14) {
		t.Errorf("%d of %d", equal, len(all))
	}
}

// P6.4: lines that differ in one part of one cell, in their length, or in being soft alone.
func TestEqualDiffers(t *testing.T) {
	l := of(longRows()[4]...)
	if !Equal(l, clone(l)) {
		t.Error("not equal")
	}
	for _, i := range []int{0, 1, 2, 500, 998, 999} {
		for _, change := range []func(c *api.Cell){
			func(c *api.Cell) { c.Rune++ },
			func(c *api.Cell) { c.Marks[0]++ },
			func(c *api.Cell) { c.Marks[2]-- },
			func(c *api.Cell) { c.Width++ },
			func(c *api.Cell) { c.Pen.Fore.Kind++ },
			func(c *api.Cell) { c.Pen.Back.B++ },
			func(c *api.Cell) { c.Pen.Flags++ },
		} {
			m := clone(l)
			change(&m.Cells[i])
			if Equal(l, m) || Equal(m, l) || !Equal(m, clone(m)) {
				t.Errorf("%v at %d", m.Cells[i], i)
			}
		}
	}
	other := clone(l)
	other.Soft = true
	for i, m := range []api.Line{other, {Cells: l.Cells[:999]}, {Cells: l.Cells[1:]}, of(append(slices.Clone(l.Cells), empty)...), {}} {
		if Equal(l, m) || Equal(m, l) {
			t.Errorf("%d: equal", i)
		}
	}
}

// P6.4: all lines of at most three cells, some of which there are not, and long ones; what is done with a copy does not change the line, and the other way round.
func TestCopy(t *testing.T) {
	check := func(l api.Line) {
		t.Helper()
		before := clone(l)
		c := Copy(l)
		if !same(c, before) || !Equal(c, l) || !same(l, before) {
			t.Fatalf("%v: %v", l, c)
		}
		clear(c.Cells)
		_ = append(c.Cells, wide)
		if !same(l, before) {
			t.Fatalf("%v became %v", before, l)
		}
		c = Copy(l)
		clear(l.Cells)
		if !same(c, before) {
			t.Fatalf("%v became %v", before, c)
		}
	}
	eachLine(someCells, 3, check)
	for _, row := range longRows() {
		check(of(row...))
		check(soft(slices.Concat(row, row, badCells)...))
	}
}

// P6.1 to P6.4: no cells, nil or empty.
func TestNone(t *testing.T) {
	for _, cells := range [][]api.Cell{nil, {}} {
		for _, isSoft := range []bool{false, true} {
			l := api.Line{Cells: cells, Soft: isSoft}
			check := func(x api.Line, e api.Errno) {
				t.Helper()
				if len(x.Cells) != 0 || x.Soft != isSoft || e != api.OK {
					t.Errorf("%v: %v, %d", l, x, e)
				}
			}
			check(Of(cells, isSoft))
			check(Trim(l))
			check(Fit(l, 0))
			check(Put(l, 0, nil))
			check(Put(l, 0, []api.Cell{}))
			check(Copy(l), api.OK)
			if !Valid(l) || Used(l) != 0 || Text(l) != "" {
				t.Errorf("%v: %v, %d, %q", l, Valid(l), Used(l), Text(l))
			}
			for _, none := range [][]api.Cell{nil, {}} {
				if !Equal(l, api.Line{Cells: none, Soft: isSoft}) || Equal(l, api.Line{Cells: none, Soft: !isSoft}) {
					t.Errorf("%v and %v", l, none)
				}
			}
		}
	}
}

// P6.1 to P6.3: what is done with results changes neither arguments nor other results, and the other way round.
func TestResultsAreNew(t *testing.T) {
	row, put := []api.Cell{a, wide, half, empty}, []api.Cell{marked}
	calls := []struct {
		want []api.Cell
		call func() (api.Line, api.Errno)
	}{
		{[]api.Cell{empty, empty}, func() (api.Line, api.Errno) { return New(2) }},
		{[]api.Cell{a, wide, half, empty}, func() (api.Line, api.Errno) { return Of(row, false) }},
		{[]api.Cell{a, wide, half}, func() (api.Line, api.Errno) { return Trim(of(row...)) }},
		{[]api.Cell{a, wide, half}, func() (api.Line, api.Errno) { return Trim(of(row[:3]...)) }},
		{[]api.Cell{a, void}, func() (api.Line, api.Errno) { return Fit(of(row...), 2) }},
		{[]api.Cell{a, wide, half, empty}, func() (api.Line, api.Errno) { return Fit(of(row...), 4) }},
		{[]api.Cell{a, wide, half, empty, empty}, func() (api.Line, api.Errno) { return Fit(of(row...), 5) }},
		{[]api.Cell{marked, wide, half, empty}, func() (api.Line, api.Errno) { return Put(of(row...), 0, put) }},
		{[]api.Cell{a, wide, half, empty}, func() (api.Line, api.Errno) { return Put(of(row...), 4, nil) }},
		{[]api.Cell{marked}, func() (api.Line, api.Errno) { return Put(of(empty), 0, put) }},
	}
	for i, c := range calls {
		first, _ := c.call()
		second, e := c.call()
		clear(first.Cells)
		_ = append(first.Cells, wide)
		if !same(second, of(c.want...)) || e != api.OK {
			t.Errorf("%d: %v, %d", i, second, e)
		}
		if !slices.Equal(row, []api.Cell{a, wide, half, empty}) || put[0] != marked {
			t.Fatalf("%d: %v, %v", i, row, put)
		}
		third, _ := c.call()
		clear(row)
		clear(put)
		if !same(third, of(c.want...)) {
			t.Errorf("%d: %v", i, third)
		}
		row, put = []api.Cell{a, wide, half, empty}, []api.Cell{marked}
	}
}

// P6.1 to P6.3: what is behind an argument, in the same memory, is neither read nor changed.
func TestBehindArguments(t *testing.T) {
	room, putRoom := []api.Cell{a, wide, half, empty, marked, void}, slices.Repeat([]api.Cell{marked}, 20)
	before, putBefore := slices.Clone(room), slices.Clone(putRoom)
	for n := range room {
		l := of(room[:n]...)
		if n == 2 {
			checkNoLine(t, l.Cells)
			continue
		}
		put := putRoom[:min(n, 1)]
		for i, c := range []struct {
			want []api.Cell
			call func() (api.Line, api.Errno)
		}{
			{before[:n], func() (api.Line, api.Errno) { return Of(l.Cells, false) }},
			{before[:usedByDefinition(before[:n])], func() (api.Line, api.Errno) { return Trim(l) }},
			{append(slices.Clone(before[:n]), slices.Repeat([]api.Cell{empty}, 6-n)...), func() (api.Line, api.Errno) { return Fit(l, 6) }},
			{append(slices.Clone(put), before[len(put):n]...), func() (api.Line, api.Errno) { return Put(l, 0, put) }},
			{append(slices.Clone(before[:n-len(put)]), put...), func() (api.Line, api.Errno) { return Put(l, n-len(put), put) }},
			{before[:n], func() (api.Line, api.Errno) { return Copy(l), api.OK }},
		} {
			if n == 3 && i == 4 {
				// The wide cell loses its second half.
				c.want = []api.Cell{a, void, marked}
			}
			x, e := c.call()
			if !same(x, of(c.want...)) || e != api.OK {
				t.Errorf("%d, %d: %v, %d, want %v", n, i, x, e, c.want)
			}
			_ = append(x.Cells, wide, wide, wide)
			if !slices.Equal(room, before) || !slices.Equal(putRoom, putBefore) {
				t.Fatalf("%d, %d: %v, %v", n, i, room, putRoom)
			}
		}
	}
}

// P6.1: the examples of the chapter.
func TestOfExamples(t *testing.T) {
	if l, e := New(2); !same(l, of(empty, empty)) || e != api.OK {
		t.Errorf("%v, %d", l, e)
	}
	if l, e := New(1001); !zero(l) || e != api.ErrArg {
		t.Errorf("%v, %d", l, e)
	}
	if l, e := Of([]api.Cell{a, plainWide, plainHalf}, true); !same(l, soft(a, plainWide, plainHalf)) || e != api.OK {
		t.Errorf("%v, %d", l, e)
	}
	if l, e := Of([]api.Cell{a, plainWide}, false); !zero(l) || e != api.ErrArg {
		t.Errorf("%v, %d", l, e)
	}
	if !Valid(of(plainWide, plainHalf, empty)) {
		t.Error("not valid")
	}
}

// P6.2 and P6.4: with the example 5 of the document, the examples of the chapter.
func TestFitExamples(t *testing.T) {
	w, s, r := plainWide, plainHalf, api.Cell{Width: 1, Pen: api.Pen{Flags: api.FlagInverse}}
	if n := Used(of(a, empty, r, empty)); n != 3 {
		t.Errorf("%d", n)
	}
	if l, e := Trim(of(a, empty, empty)); !same(l, of(a)) || e != api.OK {
		t.Errorf("%v, %d", l, e)
	}
	if l, e := Trim(of(empty, empty)); !same(l, of()) || e != api.OK {
		t.Errorf("%v, %d", l, e)
	}
	if l, e := Fit(of(a, w, s), 2); !same(l, of(a, empty)) || e != api.OK {
		t.Errorf("%v, %d", l, e)
	}
	if l, e := Fit(of(a, w, s), 5); !same(l, of(a, w, s, empty, empty)) || e != api.OK {
		t.Errorf("%v, %d", l, e)
	}
	if l, e := Fit(of(a, w, s), -1); !zero(l) || e != api.ErrArg {
		t.Errorf("%v, %d", l, e)
	}
	if s := Text(of(empty, a, empty, empty)); s != " a" {
		t.Errorf("%q", s)
	}
	if Equal(of(a), soft(a)) || Equal(of(a), of(a, empty)) || !same(Copy(of(a, w, s)), of(a, w, s)) {
		t.Error("equal")
	}
}

// P6.3: the examples of the chapter.
func TestPutExamples(t *testing.T) {
	w, s := plainWide, plainHalf
	for i, c := range []struct {
		l    api.Line
		at   int
		put  []api.Cell
		want []api.Cell
		e    api.Errno
	}{
		{of(a, w, s, empty), 2, []api.Cell{a}, []api.Cell{a, empty, a, empty}, api.OK},
		{of(w, s, w, s), 1, []api.Cell{a, a}, []api.Cell{empty, a, a, empty}, api.OK},
		{of(a, empty), 1, []api.Cell{w, s}, nil, api.ErrRange},
		{of(a, empty), 2, nil, []api.Cell{a, empty}, api.OK},
		{of(a, empty), 0, []api.Cell{s}, nil, api.ErrArg},
	} {
		if x, e := Put(c.l, c.at, c.put); !same(x, of(c.want...)) || e != c.e {
			t.Errorf("%d: %v, %d", i, x, e)
		}
	}
}
