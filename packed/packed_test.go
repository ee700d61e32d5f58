package packed

import (
	"math"
	"slices"
	"testing"

	"scrollback/api"
)

// Numbers of the document, and not of the program: 2^21, and 2^42.
const (
	second = 2097152
	third  = 4398046511104
)

// penWords are pens with their words.
var penWords = []struct {
	p api.Pen
	w uint64
}{
	{api.Pen{}, 0},
	{api.Pen{Fore: api.Color{Kind: api.ColorIndex, Index: 1}}, 16777217},
	{api.Pen{Back: api.Color{Kind: api.ColorIndex}}, 67108864 * 16777216},
	{api.Pen{Flags: api.FlagBold}, 4503599627370496},
	{api.Pen{Fore: api.Color{Kind: api.ColorTrue, R: 255, G: 255, B: 255}, Back: api.Color{Kind: api.ColorTrue, R: 1, G: 2, B: 3}, Flags: 255}, 50331647 + 67108864*33620483 + 255*4503599627370496},
}

// badPens are no pens, badPenWords the words of none: without a kind, with an index that is too great, of a kind that there is not, with a bit beyond the flags.
var (
	badPens     = []api.Pen{{Fore: api.Color{Kind: 3}}, {Back: api.Color{B: 1}}, {Fore: api.Color{Kind: api.ColorIndex, Index: 1, R: 1}, Flags: 1}, {Back: api.Color{Kind: math.MinInt}}}
	badPenWords = []uint64{1, 1 << 23, 1<<24 + 256, 3 << 24, 3<<24 + 1, 1 << 26, 3 << 50, 1 << 60, 1<<60 + 1<<24, 1 << 63, math.MaxUint64}
)

// runeWords are runes and widths of cells with their words, the first two of which are those of a spacer and a blank cell.
var runeWords = []struct {
	r     rune
	width int
	w     uint64
}{
	{0, 0, 0}, {0, 1, second},
	{' ', 1, 32 + second}, {'a', 1, 97 + second}, {0xfffd, 1, 65533 + second}, {0x10ffff, 1, 1114111 + second},
	{0x1100, 2, 4352 + 2*second}, {0x4e00, 2, 19968 + 2*second}, {0x3fffd, 2, 262141 + 2*second},
}

// badRuneWords are words of no rune and width: a rune with the width of another one, a width that there is not, a mark, a control, a half of a pair, a number above the greatest rune, and further bits.
var badRuneWords = []uint64{
	97, 97 + 2*second, 97 + 3*second, 97 + 5*second, 19968, 19968 + second, 19968 + 3*second, 19968 + 4*second,
	2 * second, 3 * second, 4 * second, 8 * second, 1 << 32, 1<<53 + second, 1 << 63, 1<<63 + second, 1<<63 + 97 + second, 1<<53 + 97 + second, 1<<62 + 19968 + 2*second,
	769, 769 + second, 769 + 2*second, 7, 7 + second, 0x7f + second, 0x9f + second, 0xd800 + second, 0xdfff + second, 0x110000 + second, 0x1fffff + second, 0x1fffff, math.MaxUint64, math.MaxUint64 - second + 1,
}

// markWords are the marks of written cells with their words, the first of which are none.
var markWords = []struct {
	m [3]rune
	w uint64
}{
	{[3]rune{}, 0},
	{[3]rune{0x300}, 768}, {[3]rune{0xe01ef}, 917999},
	{[3]rune{0x301, 0x302}, 769 + second*770}, {[3]rune{0x301, 0x301}, 769 + second*769}, {[3]rune{0x200d, 0xfe0f}, 8205 + second*65039},
	{[3]rune{0x300, 0xe0100, 0x301}, 768 + second*917760 + third*769}, {[3]rune{0xe01ef, 0xe01ef, 0xe01ef}, 917999 + second*917999 + third*917999},
}

// badMarkWords are words of no marks: with a gap, with what is no mark, and with further bits.
var badMarkWords = []uint64{
	second * 768, third * 768, second*768 + third*769, 769 + third*769,
	98, 769 + second*98, 769 + second*770 + third*98, 98 + second*769, 19968, 7, 0xd800, 0x110000, 1, 2097151, 769 + second, 769 + third,
	1 << 63, 1<<63 + 769, 1<<63 + 769 + second*770, 1<<63 + 768 + second*917760 + third*769, math.MaxUint64,
}

// eachCell calls a function with cells of all kinds and their words.
func eachCell(f func(c api.Cell, w [3]uint64)) {
	for _, p := range penWords {
		for _, r := range runeWords {
			for _, m := range markWords {
				if r.r != 0 || m.w == 0 {
					f(api.Cell{Rune: r.r, Marks: m.m, Width: r.width, Pen: p.p}, [3]uint64{p.w, r.w, m.w})
				}
			}
		}
	}
}

// P5.1: the words of cells of all kinds, and the cells with these words.
func TestWordsCell(t *testing.T) {
	n := 0
	eachCell(func(c api.Cell, want [3]uint64) {
		n++
		if w, e := Words(c); w != want || e != api.OK {
			t.Errorf("%v: %x, %d, want %x", c, w, e, want)
		}
		if d, e := Cell(want); d != c || e != api.OK {
			t.Errorf("%x: %v, %d, want %v", want, d, e, c)
		}
	})
	// A spacer, a blank cell, and seven runes with eight lists of marks.
	if want := len(penWords) * (2 + 7*8); n != want {
		t.Errorf("%d cells, want %d", n, want)
	}
}

// noCells are cells that there are not.
var noCells = []api.Cell{
	{Rune: 'a'}, {Rune: 'a', Width: 2}, {Rune: 'a', Width: 3}, {Rune: 'a', Width: -1}, {Rune: 'a', Width: 1<<43 + 1}, {Rune: 'a', Width: math.MinInt + 1},
	{Rune: 0x4e00}, {Rune: 0x4e00, Width: 1}, {Rune: 0x4e00, Width: 3}, {Width: 2}, {Width: -1}, {Width: math.MinInt}, {Width: math.MaxInt}, {Width: 1 << 43},
	{Rune: 0x301}, {Rune: 0x301, Width: 1}, {Rune: 7, Width: 1}, {Rune: -1, Width: -1}, {Rune: 0xd800, Width: 1}, {Rune: 0x110000, Width: 1}, {Rune: math.MaxInt32, Width: 1}, {Rune: math.MinInt32, Width: 1},
	{Marks: [3]rune{0x301}}, {Width: 1, Marks: [3]rune{0x301}}, {Width: 1, Marks: [3]rune{0, 0, 0x301}},
	{Rune: 'a', Width: 1, Marks: [3]rune{0, 0x301}}, {Rune: 'a', Width: 1, Marks: [3]rune{0x301, 0, 0x302}}, {Rune: 'a', Width: 1, Marks: [3]rune{'b'}}, {Rune: 'a', Width: 1, Marks: [3]rune{0x301, 0x302, 'b'}}, {Rune: 'a', Width: 1, Marks: [3]rune{-1}}, {Rune: 0x4e00, Width: 2, Marks: [3]rune{0x301, math.MinInt32}},
	{Pen: badPens[0]}, {Width: 1, Pen: badPens[1]}, {Rune: 'a', Width: 1, Pen: badPens[2]}, {Rune: 0x4e00, Width: 2, Pen: badPens[3], Marks: [3]rune{0x301}},
}

// P5.1: what is no cell has no words.
func TestWordsErrors(t *testing.T) {
	check := func(c api.Cell) {
		t.Helper()
		if w, e := Words(c); w != [3]uint64{} || e != api.ErrArg {
			t.Errorf("%v: %x, %d", c, w, e)
		}
	}
	for _, c := range noCells {
		check(c)
	}
	eachCell(func(c api.Cell, _ [3]uint64) {
		for _, p := range badPens {
			bad := c
			bad.Pen = p
			check(bad)
		}
		for _, width := range []int{-2, -1, 3, 4, 256, 1<<32 + c.Width, 1<<43 + c.Width} {
			bad := c
			bad.Width = width
			check(bad)
		}
	})
}

func checkNoCell(t *testing.T, w [3]uint64) {
	t.Helper()
	if c, e := Cell(w); c != (api.Cell{}) || e != api.ErrMalformed {
		t.Errorf("%x: %v, %d", w, c, e)
	}
}

// P5.1: each of the three words may be wrong alone, or together with others; a spacer and a blank cell have no marks.
func TestCellErrors(t *testing.T) {
	eachCell(func(_ api.Cell, w [3]uint64) {
		for _, bad := range badPenWords {
			checkNoCell(t, [3]uint64{bad, w[1], w[2]})
		}
		for _, bad := range badRuneWords {
			checkNoCell(t, [3]uint64{w[0], bad, w[2]})
		}
		for _, bad := range badMarkWords {
			checkNoCell(t, [3]uint64{w[0], w[1], bad})
		}
	})
	for _, m := range markWords[1:] {
		checkNoCell(t, [3]uint64{0, 0, m.w})
		checkNoCell(t, [3]uint64{0, second, m.w})
		checkNoCell(t, [3]uint64{penWords[1].w, second, m.w})
	}
	for i, bad := range badPenWords {
		checkNoCell(t, [3]uint64{bad, badRuneWords[i], badMarkWords[i]})
	}
}

// P5.1 and P5.4: with another bit the words are those of another cell or of none, and of all cells that there are Cell gives back the words.
func TestCellBits(t *testing.T) {
	cells, none := 0, 0
	eachCell(func(c api.Cell, w [3]uint64) {
		for bit := range 192 {
			x := w
			x[bit/64] ^= 1 << (bit % 64)
			d, e := Cell(x)
			if e != api.OK {
				none++
				checkNoCell(t, x)
				continue
			}
			cells++
			if again, e := Words(d); d == c || again != x || e != api.OK {
				t.Errorf("%x: %v, and then %x, %d", x, d, again, e)
			}
		}
	})
	if cells == 0 || none == 0 {
		t.Errorf("%d cells, %d none", cells, none)
	}
}

// P5.1: a bit that belongs to no part of a cell.
func TestCellFurtherBits(t *testing.T) {
	eachCell(func(_ api.Cell, w [3]uint64) {
		for bit := 60; bit < 64; bit++ {
			checkNoCell(t, [3]uint64{w[0] | 1<<bit, w[1], w[2]})
		}
		for bit := 23; bit < 64; bit++ {
			checkNoCell(t, [3]uint64{w[0], w[1] | 1<<bit, w[2]})
		}
		checkNoCell(t, [3]uint64{w[0], w[1], w[2] | 1<<63})
	})
}

// P5.4: two cells have the same words just if they are equal.
func TestWordsDiffer(t *testing.T) {
	seen := map[[3]uint64]api.Cell{}
	eachCell(func(c api.Cell, _ [3]uint64) {
		w, _ := Words(c)
		if d, ok := seen[w]; ok {
			t.Errorf("%v and %v: %x", c, d, w)
		}
		seen[w] = c
		if again, _ := Words(c); again != w {
			t.Errorf("%v: %x, and then %x", c, w, again)
		}
	})
}

// The cells of lists, and their words: a, a marked one, a blank cell with and without a pen, a wide cell and its spacer.
var (
	fewCells = []api.Cell{
		{Rune: 'a', Width: 1}, {Rune: 'a', Width: 1, Marks: [3]rune{0x301}}, {Width: 1}, {Width: 1, Pen: penWords[1].p},
		{Rune: 0x4e00, Width: 2, Pen: penWords[1].p}, {Pen: penWords[1].p},
	}
	fewWords = [][3]uint64{
		{0, 97 + second}, {0, 97 + second, 769}, {0, second}, {16777217, second},
		{16777217, 19968 + 2*second}, {16777217},
	}
)

// eachList calls a function with all lists of at most so many of some items; the list is made anew each time.
func eachList[T any](from []T, most int, f func(l []T)) {
	var grow func(l []T)
	grow = func(l []T) {
		f(slices.Clone(l))
		if len(l) < most {
			for _, x := range from {
				grow(append(slices.Clone(l), x))
			}
		}
	}
	grow(nil)
}

// runsByDefinition counts, from each cell on that is unlike the one before it, the equal ones.
func runsByDefinition(l []api.Cell) []api.Run {
	var runs []api.Run
	for i := 0; i < len(l); {
		n := 1
		for i+n < len(l) && l[i+n] == l[i] {
			n++
		}
		runs = append(runs, api.Run{Count: n, Words: fewWords[slices.Index(fewCells, l[i])]})
		i += n
	}
	return runs
}

// P5.2 and P5.4: all lists of at most six cells; back again they are the same; they are right, and no more than the cells; arguments are unchanged.
func TestPackUnpack(t *testing.T) {
	lists := 0
	eachList(fewCells, 6, func(l []api.Cell) {
		lists++
		before, want := slices.Clone(l), runsByDefinition(l)
		runs, e := Pack(l)
		if !slices.Equal(runs, want) || e != api.OK {
			t.Fatalf("%v: %v, %d, want %v", l, runs, e, want)
		}
		if !slices.Equal(l, before) {
			t.Fatalf("%v became %v", before, l)
		}
		if !Valid(runs) || Count(runs) != len(l) || len(runs) > len(l) {
			t.Fatalf("%v: %v", l, runs)
		}
		cells, e := Unpack(want)
		if !slices.Equal(cells, l) || e != api.OK {
			t.Fatalf("%v: %v, %d, want %v", want, cells, e, l)
		}
		if !slices.Equal(want, runs) {
			t.Fatalf("%v became %v", runs, want)
		}
	})
	// The powers of six, from the one of 0 on up to that of 6.
	if lists != 1+6+36+216+1296+7776+46656 {
		t.Errorf("%d lists", lists)
	}
}

// P5.2: cells of all kinds, one by one and several times.
func TestPackEachCell(t *testing.T) {
	eachCell(func(c api.Cell, w [3]uint64) {
		for n := 1; n < 4; n++ {
			l, want := slices.Repeat([]api.Cell{c}, n), []api.Run{{Count: n, Words: w}}
			runs, e := Pack(l)
			cells, f := Unpack(want)
			if !slices.Equal(runs, want) || e != api.OK || !slices.Equal(cells, l) || f != api.OK {
				t.Errorf("%d times %v: %v, %d; %v, %d", n, c, runs, e, cells, f)
			}
		}
	})
}

// P5.2: cells next to each other that differ in a single part are two runs, also where a part of the words is the same.
func TestPackNeighbours(t *testing.T) {
	var cells []api.Cell
	var words [][3]uint64
	eachCell(func(c api.Cell, w [3]uint64) {
		cells, words = append(cells, c), append(words, w)
	})
	for i, c := range cells {
		for j, d := range cells {
			want := []api.Run{{Count: 1, Words: words[i]}, {Count: 2, Words: words[j]}}
			if i == j {
				want = []api.Run{{Count: 3, Words: words[i]}}
			}
			if runs, e := Pack([]api.Cell{c, d, d}); !slices.Equal(runs, want) || e != api.OK {
				t.Fatalf("%v, %v: %v, %d", c, d, runs, e)
			}
			if !Valid(want) || Count(want) != 3 {
				t.Fatalf("%v is not right", want)
			}
		}
	}
}

// P5.2: what is no cell, at every place among others; too many come first.
func TestPackErrors(t *testing.T) {
	check := func(l []api.Cell, want api.Errno) {
		t.Helper()
		if runs, e := Pack(l); len(runs) != 0 || e != want {
			t.Errorf("%d cells: %d runs, %d, want %d", len(l), len(runs), e, want)
		}
	}
	for _, bad := range noCells {
		for n := range 4 {
			for i := range n + 1 {
				check(slices.Insert(slices.Clone(fewCells[:n]), i, bad), api.ErrArg)
				check(slices.Insert(slices.Repeat(fewCells[:1], n), i, bad), api.ErrArg)
			}
		}
		check([]api.Cell{bad, bad}, api.ErrArg)
	}
	long := slices.Repeat(fewCells[:1], 100001)
	check(long, api.ErrLong)
	check(slices.Repeat(fewCells[:2], 50001), api.ErrLong)
	long[0] = noCells[0]
	check(long, api.ErrLong)
	check(long[:100000], api.ErrArg)
	long[0], long[100000] = fewCells[0], noCells[0]
	check(long, api.ErrLong)
	check(long[1:], api.ErrArg)
	check(slices.Repeat(noCells[:1], 100001), api.ErrLong)
	check(slices.Repeat(noCells[:1], 100000), api.ErrArg)
}

// P5.2 and P5.3: just as many cells as there may be, as one run, as two and as so many.
func TestAsManyAsMayBe(t *testing.T) {
	if MaxCells != 100000 {
		t.Errorf("at most %d", MaxCells)
	}
	same := slices.Repeat(fewCells[:1], 100000)
	two := slices.Clone(same)
	two[99999] = fewCells[1]
	var single []api.Run
	for i := range 100000 {
		single = append(single, api.Run{Count: 1, Words: fewWords[i%2]})
	}
	for i, c := range []struct {
		l    []api.Cell
		runs []api.Run
	}{
		{same, []api.Run{{Count: 100000, Words: fewWords[0]}}},
		{two, []api.Run{{Count: 99999, Words: fewWords[0]}, {Count: 1, Words: fewWords[1]}}},
		{slices.Repeat(fewCells[:2], 50000), single},
	} {
		runs, e := Pack(c.l)
		if !slices.Equal(runs, c.runs) || e != api.OK {
			t.Errorf("%d: %d runs, %d", i, len(runs), e)
		}
		l, e := Unpack(c.runs)
		if !slices.Equal(l, c.l) || e != api.OK {
			t.Errorf("%d: %d cells, %d", i, len(l), e)
		}
		if !Valid(c.runs) || Count(c.runs) != 100000 {
			t.Errorf("%d: %v, %d", i, Valid(c.runs), Count(c.runs))
		}
		for j, both := range [][2][]api.Run{{c.runs, nil}, {nil, c.runs}} {
			if runs, e := Join(both[0], both[1]); !slices.Equal(runs, c.runs) || e != api.OK {
				t.Errorf("%d, %d: %d runs, %d", i, j, len(runs), e)
			}
		}
	}
}

// P5.2 and P5.3: one cell more than there may be: by one run, by the last of many, and by one run more.
func TestOneMoreThanMayBe(t *testing.T) {
	var single []api.Run
	for i := range 100001 {
		single = append(single, api.Run{Count: 1, Words: fewWords[i%2]})
	}
	checkNotRight(t, single)
	single = single[:100000]
	single[99999].Count = 2
	checkNotRight(t, single)
	single[99999].Count = 1
	single[0].Count = 2
	checkNotRight(t, single)
	checkNotRight(t, []api.Run{{Count: 100001, Words: fewWords[0]}})
	checkNotRight(t, []api.Run{{Count: 100000, Words: fewWords[0]}, {Count: 1, Words: fewWords[1]}})
	checkNotRight(t, []api.Run{{Count: 1, Words: fewWords[0]}, {Count: 100000, Words: fewWords[1]}})
	checkNotRight(t, []api.Run{{Count: 50000, Words: fewWords[0]}, {Count: 1, Words: fewWords[1]}, {Count: 50000, Words: fewWords[0]}})
}

// checkNotRight checks that runs, which are unchanged, are not right for any function, and that Join finds it in both of its arguments before it counts.
func checkNotRight(t *testing.T, l []api.Run) {
	t.Helper()
	before := slices.Clone(l)
	if cells, e := Unpack(l); len(cells) != 0 || e != api.ErrMalformed {
		t.Errorf("%d runs: %d cells, %d", len(l), len(cells), e)
	}
	if Valid(l) || Count(l) != 0 {
		t.Errorf("%d runs: %v, %d", len(l), Valid(l), Count(l))
	}
	one, full := []api.Run{{Count: 1, Words: fewWords[5]}}, []api.Run{{Count: 100000, Words: fewWords[5]}}
	for i, both := range [][2][]api.Run{{l, nil}, {nil, l}, {l, one}, {one, l}, {l, full}, {full, l}, {l, l}} {
		if runs, e := Join(both[0], both[1]); len(runs) != 0 || e != api.ErrMalformed {
			t.Errorf("%d runs, %d: %d runs, %d", len(l), i, len(runs), e)
		}
	}
	if !slices.Equal(l, before) {
		t.Errorf("%v became %v", before, l)
	}
}

// rightByDefinition tells it for runs whose words are those of fewWords or of no cell.
func rightByDefinition(l []api.Run) bool {
	room := 100000
	for i, r := range l {
		if !slices.Contains(fewWords, r.Words) || i > 0 && l[i-1].Words == r.Words {
			return false
		}
		if r.Count <= 0 || r.Count > room {
			return false
		}
		room -= r.Count
	}
	return true
}

// P5.2 and P5.3: all lists of at most three runs with many counts, some of which are too great together, and words, some of which are those of no cell.
func TestRight(t *testing.T) {
	var some []api.Run
	for _, w := range [][3]uint64{fewWords[0], fewWords[4], {0, 97}, {1, 97 + second}, {0, 97 + second, 98}} {
		for _, n := range []int{1, 0, -1, 2, 49999, 50000, 100000, 100001, math.MaxInt, math.MinInt} {
			some = append(some, api.Run{Count: n, Words: w})
		}
	}
	right := 0
	eachList(some, 3, func(l []api.Run) {
		if !rightByDefinition(l) {
			if Valid(l) || Count(l) != 0 {
				t.Fatalf("%v: %v, %d", l, Valid(l), Count(l))
			}
			if cells, e := Unpack(l); len(cells) != 0 || e != api.ErrMalformed {
				t.Fatalf("%v: %d cells, %d", l, len(cells), e)
			}
			return
		}
		right++
		want := 0
		for _, r := range l {
			want += r.Count
		}
		if !Valid(l) || Count(l) != want {
			t.Fatalf("%v: %v, %d, want %d", l, Valid(l), Count(l), want)
		}
		cells, e := Unpack(l)
		if len(cells) != want || e != api.OK {
			t.Fatalf("%v: %d cells, %d", l, len(cells), e)
		}
		if runs, e := Pack(cells); !slices.Equal(runs, l) || e != api.OK {
			t.Fatalf("%v: %v, %d", l, runs, e)
		}
	})
	// None, and, beginning with each of two words, 5 lists of one count, 16 of two and 44 of three that are together not too great.
	if want := 1 + 2*(5+16+44); right != want {
		t.Errorf("%d lists are right, want %d", right, want)
	}
}

// P5.2 and P5.3: runs that are not right in one place only, at the front, in the middle or at the end of others.
func TestNotRight(t *testing.T) {
	good := []api.Run{{Count: 2, Words: fewWords[0]}, {Count: 1, Words: fewWords[1]}, {Count: 3, Words: fewWords[2]}}
	for i := range good {
		for _, n := range []int{0, -1, -2, math.MinInt, math.MaxInt, 100001, 1 << 32, 1<<32 + 1, 1 << 62} {
			l := slices.Clone(good)
			l[i].Count = n
			checkNotRight(t, l)
		}
		for _, w := range [][3]uint64{{1, second}, {1 << 60, second}, {0, 97}, {0, 3 * second}, {0, 1<<63 + second}, {0, second, 769}, {0, 97 + second, 769 * second}, {0, 97 + second, 1 << 63}} {
			l := slices.Clone(good)
			l[i].Words = w
			checkNotRight(t, l)
		}
		l := slices.Insert(slices.Clone(good), i, good[i])
		checkNotRight(t, l)
		l[i].Count = 7
		checkNotRight(t, l)
	}
}

// P5.3: counts whose sum leaves the range of int, and comes back to where it would be right.
func TestSumsThatWrap(t *testing.T) {
	for _, counts := range [][]int{
		{math.MaxInt, 1}, {1, math.MaxInt}, {math.MaxInt, math.MaxInt, 3}, {3, math.MaxInt, math.MaxInt}, {1 << 62, 1 << 62}, {1 << 62, 1 << 62, 1 << 62, 1 << 62}, {1 << 62, 1 << 62, 1 << 62, 1 << 62, 1},
		{math.MinInt, math.MinInt}, {math.MinInt, math.MinInt, 1}, {-1, 2}, {2, -1}, {100001, -1}, {math.MaxInt, math.MinInt}, {math.MaxInt, math.MinInt, 2}, {100000, math.MaxInt}, {100000, math.MaxInt, math.MaxInt, 2},
	} {
		var l []api.Run
		for i, n := range counts {
			l = append(l, api.Run{Count: n, Words: fewWords[i]})
		}
		checkNotRight(t, l)
	}
}

// smallRuns returns all runs of at most four of three cells.
func smallRuns() [][]api.Run {
	var all [][]api.Run
	eachList(fewCells[3:], 4, func(l []api.Cell) {
		all = append(all, runsByDefinition(l))
	})
	return all
}

// P5.3 and P5.4: Join of all pairs is Pack of the cells of both, one behind the other; arguments are unchanged, also behind their ends.
func TestJoin(t *testing.T) {
	all := smallRuns()
	for _, first := range all {
		for _, second := range all {
			a, b := append(slices.Clone(first), api.Run{Count: -7}), append(slices.Clone(second), api.Run{Count: -8})
			cells, _ := Unpack(first)
			more, _ := Unpack(second)
			want := runsByDefinition(slices.Concat(cells, more))
			runs, e := Join(a[:len(first)], b[:len(second)])
			if !slices.Equal(runs, want) || e != api.OK {
				t.Fatalf("%v, %v: %v, %d, want %v", first, second, runs, e, want)
			}
			packed, e := Pack(slices.Concat(cells, more))
			if !slices.Equal(runs, packed) || e != api.OK || !Valid(runs) || Count(runs) != Count(first)+Count(second) {
				t.Fatalf("%v, %v: %v, %v", first, second, runs, packed)
			}
			if !slices.Equal(a, append(slices.Clone(first), api.Run{Count: -7})) || !slices.Equal(b, append(slices.Clone(second), api.Run{Count: -8})) {
				t.Fatalf("%v, %v became %v, %v", first, second, a, b)
			}
		}
	}
}

// P5.3: just as many cells of both as there may be, and one more, whether the runs where they meet become one or not.
func TestJoinLimit(t *testing.T) {
	run := func(n, i int) api.Run { return api.Run{Count: n, Words: fewWords[i]} }
	for i, c := range []struct{ a, b, want []api.Run }{
		{[]api.Run{run(99999, 0)}, []api.Run{run(1, 0)}, []api.Run{run(100000, 0)}},
		{[]api.Run{run(1, 0)}, []api.Run{run(99999, 1)}, []api.Run{run(1, 0), run(99999, 1)}},
		{[]api.Run{run(50000, 0)}, []api.Run{run(50000, 0)}, []api.Run{run(100000, 0)}},
		{[]api.Run{run(1, 0), run(49999, 1)}, []api.Run{run(49999, 1), run(1, 0)}, []api.Run{run(1, 0), run(99998, 1), run(1, 0)}},
		{[]api.Run{run(100000, 0)}, nil, []api.Run{run(100000, 0)}},
		{nil, []api.Run{run(100000, 0)}, []api.Run{run(100000, 0)}},
		{[]api.Run{run(100000, 0)}, []api.Run{run(1, 0)}, nil},
		{[]api.Run{run(100000, 0)}, []api.Run{run(1, 1)}, nil},
		{[]api.Run{run(1, 0)}, []api.Run{run(100000, 0)}, nil},
		{[]api.Run{run(1, 0)}, []api.Run{run(100000, 1)}, nil},
		{[]api.Run{run(50000, 0)}, []api.Run{run(50001, 0)}, nil},
		{[]api.Run{run(1, 0), run(49999, 1)}, []api.Run{run(49999, 1), run(2, 0)}, nil},
		{[]api.Run{run(100000, 0)}, []api.Run{run(100000, 0)}, nil},
		{[]api.Run{run(100000, 0)}, []api.Run{run(100000, 1)}, nil},
	} {
		want := api.OK
		if c.want == nil {
			want = api.ErrLong
		}
		a, b := slices.Clone(c.a), slices.Clone(c.b)
		if runs, e := Join(c.a, c.b); !slices.Equal(runs, c.want) || e != want {
			t.Errorf("%d: %v, %d", i, runs, e)
		}
		if !slices.Equal(c.a, a) || !slices.Equal(c.b, b) {
			t.Errorf("%d: %v, %v became %v, %v", i, a, b, c.a, c.b)
		}
	}
}

// P5.2 and P5.3: no cells and no runs, nil or empty.
func TestNone(t *testing.T) {
	if runs, e := Pack(nil); len(runs) != 0 || e != api.OK {
		t.Errorf("%v, %d", runs, e)
	}
	if runs, e := Pack([]api.Cell{}); len(runs) != 0 || e != api.OK {
		t.Errorf("%v, %d", runs, e)
	}
	for _, l := range [][]api.Run{nil, {}} {
		if cells, e := Unpack(l); len(cells) != 0 || e != api.OK {
			t.Errorf("%v, %d", cells, e)
		}
		if !Valid(l) || Count(l) != 0 {
			t.Errorf("%v, %d", Valid(l), Count(l))
		}
		for _, m := range [][]api.Run{nil, {}} {
			if runs, e := Join(l, m); len(runs) != 0 || e != api.OK {
				t.Errorf("%v, %d", runs, e)
			}
		}
	}
}

// P5.2 and P5.3: what is done with results changes neither arguments nor other results, and the other way round.
func TestResultsAreNew(t *testing.T) {
	l := []api.Cell{fewCells[0], fewCells[0], fewCells[1]}
	a, b := runsByDefinition(l), runsByDefinition(l[2:])
	joined := []api.Run{{Count: 2, Words: fewWords[0]}, {Count: 2, Words: fewWords[1]}}
	check := func() {
		t.Helper()
		runs, _ := Pack(l)
		cells, _ := Unpack(a)
		both, _ := Join(a, b)
		first, _ := Join(a, nil)
		last, _ := Join(nil, a)
		if !slices.Equal(runs, a) || !slices.Equal(cells, l) || !slices.Equal(both, joined) || !slices.Equal(first, a) || !slices.Equal(last, a) {
			t.Errorf("%v, %v, %v, %v, %v", runs, cells, both, first, last)
		}
		clear(runs)
		clear(cells)
		clear(both)
		clear(first)
		clear(last)
	}
	check()
	check()
	cells, _ := Unpack(a)
	first, _ := Join(a, nil)
	last, _ := Join(nil, a)
	both, _ := Join(a, b)
	clear(a)
	clear(b)
	if want := runsByDefinition(l); !slices.Equal(cells, l) || !slices.Equal(first, want) || !slices.Equal(last, want) || !slices.Equal(both, joined) {
		t.Errorf("%v, %v, %v, %v", cells, first, last, both)
	}
}

// P5.1: the examples of the chapter.
func TestWordsExamples(t *testing.T) {
	a, marked := api.Cell{Rune: 'a', Width: 1}, api.Cell{Rune: 'a', Width: 1, Marks: [3]rune{0x301}}
	for i, c := range []struct {
		c    api.Cell
		want [3]uint64
		e    api.Errno
	}{
		{a, [3]uint64{0, 97 + 1<<21, 0}, api.OK},
		{api.Cell{Width: 1}, [3]uint64{0, 1 << 21, 0}, api.OK},
		{api.Cell{Rune: 0x4e00, Width: 2}, [3]uint64{0, 19968 + 1<<22, 0}, api.OK},
		{api.Cell{}, [3]uint64{0, 0, 0}, api.OK},
		{marked, [3]uint64{0, 97 + 1<<21, 769}, api.OK},
		{api.Cell{Rune: 'a', Width: 2}, [3]uint64{}, api.ErrArg},
	} {
		if w, e := Words(c.c); w != c.want || e != c.e {
			t.Errorf("%d: %v, %d", i, w, e)
		}
	}
	if c, e := Cell([3]uint64{0, 97 + 1<<21, 0}); c != a || e != api.OK {
		t.Errorf("%v, %d", c, e)
	}
	for _, w := range [][3]uint64{{0, 97, 0}, {1, 1 << 21, 0}, {0, 1 << 23, 0}, {0, 1 << 21, 769}} {
		checkNoCell(t, w)
	}
}

// P5.2 and P5.3: the examples of the chapter.
func TestRunsExamples(t *testing.T) {
	a, e, w, s := api.Cell{Rune: 'a', Width: 1}, api.Cell{Width: 1}, api.Cell{Rune: 0x4e00, Width: 2}, api.Cell{}
	counts := func(l []api.Run, _ api.Errno) []int {
		var n []int
		for _, r := range l {
			n = append(n, r.Count)
		}
		return n
	}
	if n := counts(Pack([]api.Cell{a, a, e, w, s})); !slices.Equal(n, []int{2, 1, 1, 1}) {
		t.Errorf("%v", n)
	}
	aae, _ := Pack([]api.Cell{a, a, e})
	if Count(aae) != 3 {
		t.Errorf("%d", Count(aae))
	}
	x, y := [3]uint64{0, 97 + 1<<21}, [3]uint64{0, 1 << 21}
	if l, f := Unpack([]api.Run{{Count: 2, Words: x}, {Count: 1, Words: y}}); !slices.Equal(l, []api.Cell{a, a, e}) || f != api.OK {
		t.Errorf("%v, %d", l, f)
	}
	checkNotRight(t, []api.Run{{Count: 1, Words: x}, {Count: 1, Words: x}})
	checkNotRight(t, []api.Run{{Count: 0, Words: x}})
	ae, _ := Pack([]api.Cell{a, e})
	eea, _ := Pack([]api.Cell{e, e, a})
	if n := counts(Join(ae, eea)); !slices.Equal(n, []int{1, 3, 1}) {
		t.Errorf("%v", n)
	}
	if Valid([]api.Run{{Count: 100001, Words: x}}) {
		t.Error("100001 cells")
	}
	if l, f := Join([]api.Run{{Count: 100000, Words: x}}, []api.Run{{Count: 1, Words: y}}); len(l) != 0 || f != api.ErrLong {
		t.Errorf("%v, %d", l, f)
	}
}
