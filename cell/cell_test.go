package cell

import (
	"math"
	"slices"
	"strings"
	"testing"

	"scrollback/api"
)

var (
	red   = api.Pen{Fore: api.Color{Kind: api.ColorIndex, Index: 1}}
	bold  = api.Pen{Flags: api.FlagBold}
	noPen = api.Pen{Back: api.Color{Kind: api.ColorDefault, G: 3}, Flags: api.FlagBold}
	other = api.Pen{Fore: api.Color{Kind: 9}}
)

// goodPens are pens, badPens are none.
var (
	goodPens = []api.Pen{{}, red, bold, {Fore: api.Color{Kind: api.ColorTrue, R: 1, B: 255}, Back: red.Fore, Flags: 255}}
	badPens  = []api.Pen{noPen, other, {Fore: api.Color{B: 1}}, {Back: api.Color{Kind: api.ColorIndex, R: 1}}, {Fore: red.Fore, Back: api.Color{Kind: math.MinInt}}}
)

// Runes of no column, of one and of two, and numbers that are not printed, of which the last ones are no runes.
var (
	noColumn   = []rune{0x300, 0x301, 0x36f, 0x483, 0xe31, 0x200b, 0x200d, 0x302a, 0x3099, 0xfe0f, 0xe0100, 0xe01ef}
	oneColumn  = []rune{' ', '!', 'a', '~', 0xa0, 0xe9, 0x2ff, 0x370, 0x10ff, 0x1160, 0x303f, 0xd7ff, 0xe000, 0xfffd, 0xfffe, 0x1f650, 0x2fffe, 0x10ffff}
	twoColumns = []rune{0x1100, 0x2329, 0x3000, 0x3029, 0x3030, 0x4e00, 0x4e16, 0xac00, 0xff01, 0x1f600, 0x20000, 0x3fffd}
	notPrinted = []rune{0, 1, 7, '\n', 0x1b, 0x1f, 0x7f, 0x80, 0x9f, 0xd800, 0xdfff, 0x110000, 0x110041, math.MaxInt32, -1, -97, math.MinInt32}
)

func written(r rune, columns int, p api.Pen, marks ...rune) api.Cell {
	c := api.Cell{Rune: r, Width: columns, Pen: p}
	copy(c.Marks[:], marks)
	return c
}

// P4.1: whatever the pen is.
func TestBlankSpacer(t *testing.T) {
	for _, p := range slices.Concat(goodPens, badPens) {
		if c := Blank(p); c != (api.Cell{Rune: 0, Width: 1, Pen: p}) {
			t.Errorf("%v: %v", p, c)
		}
		if c := Spacer(p); c != (api.Cell{Rune: 0, Width: 0, Pen: p}) {
			t.Errorf("%v: %v", p, c)
		}
	}
}

// P4.1 and P4.6: one cell, or a wide one and a spacer with the same pen, and always a row.
func TestOf(t *testing.T) {
	check := func(r rune, p api.Pen, want []api.Cell) {
		t.Helper()
		l, e := Of(r, p)
		if !slices.Equal(l, want) || e != api.OK || !Row(l) {
			t.Errorf("%x, %v: %v, %d", r, p, l, e)
		}
	}
	for _, p := range goodPens {
		for _, r := range oneColumn {
			check(r, p, []api.Cell{{Rune: r, Width: 1, Pen: p}})
		}
		for _, r := range twoColumns {
			check(r, p, []api.Cell{{Rune: r, Width: 2, Pen: p}, {Pen: p}})
		}
	}
}

// P4.1: runes of no column, numbers that are not printed, and what is no pen.
func TestOfErrors(t *testing.T) {
	bad := func(r rune, p api.Pen) {
		t.Helper()
		if l, e := Of(r, p); len(l) != 0 || e != api.ErrArg {
			t.Errorf("%x, %v: %v, %d", r, p, l, e)
		}
	}
	for _, r := range slices.Concat(noColumn, notPrinted) {
		for _, p := range slices.Concat(goodPens, badPens) {
			bad(r, p)
		}
	}
	for _, r := range slices.Concat(oneColumn, twoColumns) {
		for _, p := range badPens {
			bad(r, p)
		}
	}
}

// P4.1: what is done with the cells of one call does not change those of another.
func TestOfIsNew(t *testing.T) {
	l, _ := Of(0x4e00, red)
	m, _ := Of(0x4e00, red)
	clear(l)
	if want := []api.Cell{{Rune: 0x4e00, Width: 2, Pen: red}, {Pen: red}}; !slices.Equal(m, want) {
		t.Errorf("%v", m)
	}
}

// P4.2 and P4.6: up to three marks, one behind the other; the cell is the same otherwise, and stays valid; no fourth one.
func TestMark(t *testing.T) {
	for _, p := range goodPens {
		for i, r := range slices.Concat(oneColumn, twoColumns) {
			l, _ := Of(r, p)
			c := l[0]
			var marks []rune
			for n := range 3 {
				m := noColumn[(i+5*n)%len(noColumn)]
				marks = append(marks, m)
				before := c
				d, e := Mark(c, m)
				if d != written(r, l[0].Width, p, marks...) || e != api.OK || !Valid(d) || c != before {
					t.Fatalf("%v, %x: %v, %d", c, m, d, e)
				}
				c = d
			}
			for _, m := range noColumn {
				if d, e := Mark(c, m); d != (api.Cell{}) || e != api.ErrFull {
					t.Errorf("%v, %x: %v, %d", c, m, d, e)
				}
			}
		}
	}
}

// P4.2: every mark, and the same one three times.
func TestMarkEach(t *testing.T) {
	for _, m := range noColumn {
		c := written('a', 1, red)
		for n := range 3 {
			d, e := Mark(c, m)
			c.Marks[n] = m
			if d != c || e != api.OK {
				t.Errorf("%x: %v, %d", m, d, e)
			}
		}
	}
}

// noCells are cells that there are not, with a valid pen: with a width that is not that of their rune, with marks where none may be, behind a gap or that are none.
var noCells = []api.Cell{
	{Rune: 'a'}, {Rune: 'a', Width: 2}, {Rune: 'a', Width: 3}, {Rune: 'a', Width: -1}, {Rune: 'a', Width: math.MinInt}, {Rune: 'a', Width: math.MaxInt}, {Rune: 'a', Width: 1<<32 + 1},
	{Rune: 0x4e00}, {Rune: 0x4e00, Width: 1}, {Rune: 0x4e00, Width: 3}, {Rune: 0x4e00, Width: -2}, {Rune: 0x4e00, Width: 1<<32 + 2},
	{Rune: 0x301}, {Rune: 0x301, Width: 1}, {Rune: 0x301, Width: 2}, {Rune: 0x301, Width: -1},
	{Rune: 7}, {Rune: 7, Width: 1}, {Rune: 7, Width: 2}, {Rune: 7, Width: -1}, {Rune: -1, Width: -1}, {Rune: -1, Width: 1}, {Rune: 0xd800, Width: 1}, {Rune: 0xd800, Width: -1}, {Rune: 0x110000, Width: 1},
	{Width: 2}, {Width: 3}, {Width: -1}, {Width: 1 << 32}, {Width: math.MinInt}, {Width: math.MaxInt},
	{Marks: [3]rune{0x301}}, {Width: 1, Marks: [3]rune{0x301}}, {Width: 1, Marks: [3]rune{0, 0x301}}, {Width: 1, Marks: [3]rune{0, 0, 0x301}}, {Marks: [3]rune{0, 0, 0x301}}, {Width: 1, Marks: [3]rune{'b'}}, {Width: 1, Marks: [3]rune{0x301, 0x302, 0x303}},
	written('a', 1, red, 0, 0x301), written('a', 1, red, 0, 0, 0x301), written('a', 1, red, 0x301, 0, 0x302), written('a', 1, red, 0, 0x301, 0x302),
	written(0x4e00, 2, red, 0, 0x301), written(0x4e00, 2, red, 0, 0, 0x301), written(0x4e00, 2, red, 0x301, 0, 0x302),
	written('a', 1, red, 'b'), written('a', 1, red, 0x301, 'b'), written('a', 1, red, 0x301, 0x302, 'b'), written('a', 1, red, 'b', 0x301), written('a', 1, red, 0, 'b'), written('a', 1, red, 0, 0, 'b'), written('a', 1, red, 0x301, 0, 'b'),
	written('a', 1, red, 0x4e00), written('a', 1, red, 7), written('a', 1, red, -1), written('a', 1, red, 0x301, -1), written('a', 1, red, 0x301, 0x302, 0x110000), written(0x4e00, 2, red, 0xd800),
}

// P4.2: what is no cell and what is no mark comes first, then what is not written, and then a cell that is full.
func TestMarkErrors(t *testing.T) {
	check := func(c api.Cell, m rune, want api.Errno) {
		t.Helper()
		if d, e := Mark(c, m); d != (api.Cell{}) || e != want {
			t.Errorf("%v, %x: %v, %d, want %d", c, m, d, e, want)
		}
	}
	noMarks := slices.Concat(oneColumn, twoColumns, notPrinted)
	for _, c := range noCells {
		check(c, 0x301, api.ErrArg)
		check(c, 'b', api.ErrArg)
	}
	for _, p := range badPens {
		for _, c := range []api.Cell{Blank(p), Spacer(p), written('a', 1, p), written(0x4e00, 2, p), written('a', 1, p, 0x301, 0x302, 0x303)} {
			check(c, 0x301, api.ErrArg)
		}
	}
	for _, p := range goodPens {
		for _, c := range []api.Cell{Blank(p), Spacer(p)} {
			check(c, 0x301, api.ErrState)
			for _, m := range noMarks {
				check(c, m, api.ErrArg)
			}
		}
		for _, c := range []api.Cell{written('a', 1, p), written(0x4e00, 2, p, 0x301), written('a', 1, p, 0x301, 0x302, 0x303)} {
			for _, m := range noMarks {
				check(c, m, api.ErrArg)
			}
		}
		check(written('a', 1, p, 0x301, 0x302, 0x303), 0x304, api.ErrFull)
		check(written(0x4e00, 2, p, 0x301, 0x301, 0x301), 0x301, api.ErrFull)
	}
}

// validByDefinition tells it for a cell whose rune and marks are of the lists above.
func validByDefinition(c api.Cell) bool {
	if !slices.Contains(goodPens, c.Pen) {
		return false
	}
	if c.Rune == 0 {
		return c.Marks == [3]rune{0, 0, 0} && (c.Width == 0 || c.Width == 1)
	}
	if !(slices.Contains(oneColumn, c.Rune) && c.Width == 1) && !(slices.Contains(twoColumns, c.Rune) && c.Width == 2) {
		return false
	}
	behind := false
	for _, m := range c.Marks {
		if m != 0 && (behind || !slices.Contains(noColumn, m)) {
			return false
		}
		behind = behind || m == 0
	}
	return true
}

// P4.3: all runes of the lists with many widths, marks and pens.
func TestValid(t *testing.T) {
	some := []rune{0, 0x301, 0xe01ef, 'b', 0x4e00, 7, -1}
	valid := 0
	for _, r := range slices.Concat(noColumn, oneColumn, twoColumns, notPrinted) {
		for _, columns := range []int{math.MinInt, -1, 0, 1, 2, 3, 256, 1 << 32, 1<<32 + 1, math.MaxInt} {
			for i := range len(some) * len(some) * len(some) {
				c := written(r, columns, red, some[i%7], some[i/7%7], some[i/49])
				if want := validByDefinition(c); Valid(c) != want {
					t.Fatalf("%v: not %v", c, want)
				} else if want {
					valid++
				}
			}
		}
	}
	// A blank cell, a spacer, and each rune with columns with none, one, two or three of the two marks.
	if want := 2 + (len(oneColumn)+len(twoColumns))*(1+2+4+8); valid != want {
		t.Errorf("%d cells are valid, want %d", valid, want)
	}
	for _, c := range noCells {
		if Valid(c) {
			t.Errorf("there is no %v", c)
		}
	}
}

// P4.3: the pen of every kind of cell must be one.
func TestValidPens(t *testing.T) {
	for _, p := range slices.Concat(goodPens, badPens) {
		for _, c := range []api.Cell{{Pen: p}, {Width: 1, Pen: p}, written('a', 1, p), written('a', 1, p, 0x301), written(0x4e00, 2, p, 0x301, 0x301, 0x301)} {
			if want := slices.Contains(goodPens, p); Valid(c) != want {
				t.Errorf("%v: not %v", c, want)
			}
		}
	}
}

// P4.3: whatever else is in the cell.
func TestWritten(t *testing.T) {
	for _, r := range slices.Concat(noColumn, oneColumn, twoColumns, notPrinted) {
		for _, columns := range []int{-1, 0, 1, 2, 3} {
			for _, p := range []api.Pen{{}, red, noPen} {
				for _, m := range []rune{0, 0x301, 'b'} {
					if c := written(r, columns, p, m); Written(c) != (r != 0) {
						t.Errorf("%v: %v", c, Written(c))
					}
				}
			}
		}
	}
}

// P4.3: just the blank cell with the zero pen.
func TestEmpty(t *testing.T) {
	if !Empty(api.Cell{Width: 1}) || !Empty(Blank(api.Pen{})) {
		t.Error("the empty cell")
	}
	for _, c := range append([]api.Cell{
		{}, {Width: 1, Pen: red}, {Width: 1, Pen: bold}, {Width: 1, Pen: noPen}, {Width: 1, Pen: api.Pen{Back: red.Fore}},
		written(' ', 1, api.Pen{}), written('a', 1, api.Pen{}), written('a', 1, api.Pen{}, 0x301),
	}, noCells...) {
		if Empty(c) {
			t.Errorf("%v is empty", c)
		}
	}
}

// someCells are cells of all kinds, also such as there are not, and others that differ in their pens alone.
var someCells = []api.Cell{
	written('a', 1, red), written('a', 1, api.Pen{}, 0x301),
	{Width: 1}, {Width: 1, Pen: red},
	{}, {Pen: red}, {Rune: 'b', Pen: red, Marks: [3]rune{0, 0x301}}, {Pen: noPen},
	written(0x4e00, 2, api.Pen{}), written(0x4e00, 2, red, 0x301, 0x302), written('a', 2, noPen), {Width: 2, Pen: red, Marks: [3]rune{'x'}},
	{Width: 3, Pen: red}, {Rune: 0x4e00, Width: -1}, written('a', 1, noPen), {Rune: 0x110000, Width: math.MinInt},
}

// eachList calls a function with all lists of at most so many of the cells; the list is made anew each time.
func eachList(from []api.Cell, most int, f func(l []api.Cell)) {
	var grow func(l []api.Cell)
	grow = func(l []api.Cell) {
		f(slices.Clone(l))
		if len(l) < most {
			for _, c := range from {
				grow(append(slices.Clone(l), c))
			}
		}
	}
	grow(nil)
}

// rowByDefinition tells it place by place: where a spacer is, and where a wide cell was.
func rowByDefinition(l []api.Cell) bool {
	for i, c := range l {
		if !Valid(c) {
			return false
		}
		if c.Width == 2 && (i == len(l)-1 || l[i+1].Width != 0 || l[i+1].Pen != c.Pen) {
			return false
		}
		if c.Width == 0 && (i == 0 || l[i-1].Width != 2) {
			return false
		}
	}
	return true
}

// P4.3: all lists of at most four of some cells.
func TestRow(t *testing.T) {
	rows := 0
	eachList(someCells, 4, func(l []api.Cell) {
		want := rowByDefinition(l)
		before := slices.Clone(l)
		if Row(l) != want {
			t.Fatalf("%v: not %v", l, want)
		}
		if !slices.Equal(l, before) {
			t.Fatalf("%v became %v", before, l)
		}
		if want {
			rows++
		}
	})
	// Four cells of one column and two pairs: 1 + 4 + 18 + 80 + 356 of them.
	if rows != 459 {
		t.Errorf("%d rows", rows)
	}
}

// textByDefinition puts the text together from bytes that are known.
func textByDefinition(c api.Cell) string {
	known := map[rune]string{'a': "a", 'b': "b", 0x4e00: "\xe4\xb8\x80", 0x301: "\xcc\x81", 0x302: "\xcc\x82", 'x': "x", 0xe01ef: "\xf3\xa0\x87\xaf", 0x10ffff: "\xf4\x8f\xbf\xbf", 7: "\a", 0x7f: "\x7f", 0xfffd: "\xef\xbf\xbd"}
	if c.Width == 0 {
		return ""
	}
	if c.Rune == 0 {
		return " "
	}
	s := ""
	for _, r := range []rune{c.Rune, c.Marks[0], c.Marks[1], c.Marks[2]} {
		if b, ok := known[r]; ok {
			s += b
		} else if r != 0 {
			s += "\xef\xbf\xbd"
		}
	}
	return s
}

// P4.4: cells of all kinds, also with numbers that are no runes, and with marks that are none or behind a gap.
func TestText(t *testing.T) {
	some := []rune{0, 0x301, 0xe01ef, 'b', 0x4e00, 7, -1, 0x110000, 0xdc00, math.MinInt32}
	n := len(some)
	for _, r := range append([]rune{'a', 0x7f, 0x10ffff, 0xfffd, 0xd800, 0xdfff, math.MaxInt32}, some...) {
		for _, columns := range []int{math.MinInt, -1, 0, 1, 2, 3, 1 << 32} {
			for i := range n * n * n {
				c := written(r, columns, noPen, some[i%n], some[i/n%n], some[i/n/n])
				if s, want := Text(c), textByDefinition(c); s != want {
					t.Fatalf("%v: %q, want %q", c, s, want)
				}
			}
		}
	}
}

// P4.4: the texts of cells, one behind the other, whether they are a row or not.
func TestTexts(t *testing.T) {
	eachList(someCells, 3, func(l []api.Cell) {
		want := ""
		for _, c := range l {
			want += textByDefinition(c)
		}
		before := slices.Clone(l)
		if s := Texts(l); s != want {
			t.Fatalf("%v: %q, want %q", l, s, want)
		}
		if !slices.Equal(l, before) {
			t.Fatalf("%v became %v", before, l)
		}
	})
	long := slices.Repeat([]api.Cell{written(0x4e00, 2, red, 0x301), Spacer(red), Blank(red)}, 10000)
	if s := Texts(long); s != strings.Repeat("\u4e00\u0301 ", 10000) {
		t.Errorf("%d bytes", len(s))
	}
}

// fixedByDefinition changes one cell after the other, from the front on, as the document says.
func fixedByDefinition(l []api.Cell) []api.Cell {
	l = slices.Clone(l)
	for i := range l {
		if l[i].Width == 0 {
			if i > 0 && l[i-1].Width == 2 {
				l[i] = api.Cell{Pen: l[i-1].Pen}
			} else {
				l[i] = api.Cell{Width: 1, Pen: l[i].Pen}
			}
		} else if l[i].Width == 2 {
			if i == len(l)-1 || l[i+1].Width != 0 {
				l[i] = api.Cell{Width: 1, Pen: l[i].Pen}
			}
		}
	}
	return l
}

// P4.5 and P4.6: all lists of at most four of some cells: what is fixed, and a row if all were valid, and as it is then; the argument is as it was.
func TestFix(t *testing.T) {
	eachList(someCells, 4, func(l []api.Cell) {
		before := slices.Clone(l)
		fixed, want := Fix(l), fixedByDefinition(l)
		if !slices.Equal(fixed, want) {
			t.Fatalf("%v: %v, want %v", l, fixed, want)
		}
		if !slices.Equal(l, before) {
			t.Fatalf("%v became %v", before, l)
		}
		if again := Fix(fixed); !slices.Equal(again, fixed) {
			t.Fatalf("%v: %v, and then %v", l, fixed, again)
		}
		if !slices.ContainsFunc(l, func(c api.Cell) bool { return !Valid(c) }) && !Row(fixed) {
			t.Fatalf("%v: %v is no row", l, fixed)
		}
		if Row(l) && !slices.Equal(fixed, l) {
			t.Fatalf("the row %v became %v", l, fixed)
		}
	})
}

// P4.5: what is done with the result does not change the argument, and the other way round.
func TestFixIsNew(t *testing.T) {
	for _, l := range [][]api.Cell{{written('a', 1, red), written(0x4e00, 2, red), Spacer(red)}, {written(0x4e00, 2, red), Spacer(bold), Spacer(red)}} {
		before, want := slices.Clone(l), fixedByDefinition(l)
		fixed := Fix(l)
		clear(l)
		if !slices.Equal(fixed, want) {
			t.Errorf("%v became %v", want, fixed)
		}
		copy(l, before)
		clear(fixed)
		_ = append(fixed, Blank(noPen))
		if !slices.Equal(l, before) {
			t.Errorf("%v became %v", before, l)
		}
	}
	room := []api.Cell{written(0x4e00, 2, red), Spacer(red), written('b', 1, red)}
	fixed := Fix(room[:1])
	_ = append(fixed, Blank(noPen), Blank(noPen))
	if room[0] != written(0x4e00, 2, red) || room[1] != Spacer(red) || room[2] != written('b', 1, red) || fixed[0] != Blank(red) {
		t.Errorf("%v, %v", room, fixed)
	}
	if l := Fix(nil); len(l) != 0 {
		t.Errorf("%v", l)
	}
	if l := Fix([]api.Cell{}); len(l) != 0 {
		t.Errorf("%v", l)
	}
}

// P4.6: rows behind one another are a row.
func TestRowsBehindOneAnother(t *testing.T) {
	var rows [][]api.Cell
	eachList(someCells, 3, func(l []api.Cell) {
		if Row(l) {
			rows = append(rows, l)
		}
	})
	for _, l := range rows {
		for _, m := range rows {
			if both := slices.Concat(l, m); !Row(both) || Texts(both) != Texts(l)+Texts(m) {
				t.Fatalf("%v and %v", l, m)
			}
		}
	}
}

// P4.1 and P4.2: the examples of the chapter.
func TestOfExamples(t *testing.T) {
	var p api.Pen
	for i, c := range []struct {
		r    rune
		p    api.Pen
		want []api.Cell
		e    api.Errno
	}{
		{'a', p, []api.Cell{{Rune: 'a', Width: 1}}, api.OK},
		{0x4e00, bold, []api.Cell{{Rune: 0x4e00, Width: 2, Pen: bold}, {Pen: bold}}, api.OK},
		{0x301, p, nil, api.ErrArg},
		{7, p, nil, api.ErrArg},
	} {
		if l, e := Of(c.r, c.p); !slices.Equal(l, c.want) || e != c.e {
			t.Errorf("%d: %v, %d", i, l, e)
		}
	}
	a := written('a', 1, p)
	one, e := Mark(a, 0x301)
	if one != written('a', 1, p, 0x301) || e != api.OK {
		t.Errorf("%v, %d", one, e)
	}
	two, e := Mark(one, 0x302)
	if two != written('a', 1, p, 0x301, 0x302) || e != api.OK {
		t.Errorf("%v, %d", two, e)
	}
	three, e := Mark(two, 0x303)
	if three != written('a', 1, p, 0x301, 0x302, 0x303) || e != api.OK {
		t.Errorf("%v, %d", three, e)
	}
	for i, c := range []struct {
		c    api.Cell
		m    rune
		want api.Errno
	}{{three, 0x304, api.ErrFull}, {Blank(p), 0x301, api.ErrState}, {a, 'b', api.ErrArg}} {
		if d, e := Mark(c.c, c.m); d != (api.Cell{}) || e != c.want {
			t.Errorf("%d: %v, %d", i, d, e)
		}
	}
}

// P4.3: the examples of the chapter.
func TestValidExamples(t *testing.T) {
	for i, c := range []struct {
		c    api.Cell
		want bool
	}{{api.Cell{Rune: 'a', Width: 2}, false}, {api.Cell{Width: 2}, false}, {written('a', 1, api.Pen{}, 0, 0x301), false}, {api.Cell{}, true}} {
		if Valid(c.c) != c.want {
			t.Errorf("%d: not %v", i, c.want)
		}
	}
	wide := written(0x4e00, 2, bold)
	for i, c := range []struct {
		l    []api.Cell
		want bool
	}{{[]api.Cell{Spacer(bold)}, false}, {[]api.Cell{wide, Spacer(red)}, false}, {[]api.Cell{wide}, false}, {nil, true}, {[]api.Cell{}, true}} {
		if Row(c.l) != c.want {
			t.Errorf("%d: not %v", i, c.want)
		}
	}
}

// P4.4: the examples of the chapter.
func TestTextExamples(t *testing.T) {
	for i, c := range []struct {
		c    api.Cell
		want string
	}{{written('a', 1, red, 0x301), "a\u0301"}, {Blank(red), " "}, {Spacer(red), ""}} {
		if s := Text(c.c); s != c.want {
			t.Errorf("%d: %q", i, s)
		}
	}
	if s := Texts([]api.Cell{written(0x4e00, 2, red), Spacer(red), Blank(red), written('x', 1, red)}); s != "\u4e00 x" {
		t.Errorf("%q", s)
	}
}

// P4.5: with the example 4 of the document, the examples of the chapter.
func TestFixExamples(t *testing.T) {
	var p api.Pen
	wide, a := written(0x4e00, 2, bold), written('a', 1, p)
	for i, c := range []struct{ l, want []api.Cell }{
		{[]api.Cell{wide, Spacer(p)}, []api.Cell{wide, Spacer(bold)}},
		{[]api.Cell{Spacer(bold), a}, []api.Cell{Blank(bold), a}},
		{[]api.Cell{a, wide}, []api.Cell{a, Blank(bold)}},
		{[]api.Cell{written(0x4e00, 2, p), wide, Spacer(p)}, []api.Cell{Blank(p), wide, Spacer(bold)}},
		{[]api.Cell{wide, a}, []api.Cell{Blank(bold), a}},
		{[]api.Cell{wide, Spacer(bold), Spacer(red)}, []api.Cell{wide, Spacer(bold), Blank(red)}},
	} {
		if l := Fix(c.l); !slices.Equal(l, c.want) {
			t.Errorf("%d: %v, want %v", i, l, c.want)
		}
	}
}
