package width

import (
	"math"
	"slices"
	"strconv"
	"strings"
	"testing"

	"scrollback/api"
)

// The ranges as the document has them, and not as the program does.
const (
	notPrinted  = "0-1F, 7F-9F, D800-DFFF"
	markRanges  = "300-36F, 483-489, 591-5BD, 610-61A, 64B-65F, 6D6-6DC, E31, E34-E3A, E47-E4E, 1AB0-1AFF, 1DC0-1DFF, 200B-200F, 20D0-20FF, 302A-302F, 3099-309A, FE00-FE0F, FE20-FE2F, E0100-E01EF"
	wideRanges  = "1100-115F, 2329-232A, 2E80-3029, 3030-303E, 3041-3098, 309B-33FF, 3400-4DBF, 4E00-A4CF, A960-A97F, AC00-D7A3, F900-FAFF, FE30-FE6F, FF00-FF60, FFE0-FFE6, 1F300-1F64F, 1F680-1F6FF, 1F900-1F9FF, 20000-2FFFD, 30000-3FFFD"
	beyondRunes = 0x100
)

// ranges returns the ranges that a text says.
func ranges(t *testing.T, s string) [][2]rune {
	t.Helper()
	var l [][2]rune
	for _, part := range strings.Split(s, ", ") {
		first, last, several := strings.Cut(part, "-")
		if !several {
			last = first
		}
		l = append(l, [2]rune{number(t, first), number(t, last)})
	}
	return l
}

func number(t *testing.T, s string) rune {
	t.Helper()
	n, err := strconv.ParseInt(s, 16, 32)
	if err != nil {
		t.Fatal(err)
	}
	return rune(n)
}

// widths returns the columns of every number from -beyondRunes to the last rune and beyondRunes more, each found without searching.
func widths(t *testing.T) map[rune]int {
	t.Helper()
	l := map[rune]int{}
	for r := rune(-beyondRunes); r <= 0x10ffff+beyondRunes; r++ {
		l[r] = 1
		if r < 0 || 0x10ffff < r {
			l[r] = -1
		}
	}
	for s, n := range map[string]int{notPrinted: -1, markRanges: 0, wideRanges: 2} {
		for _, b := range ranges(t, s) {
			for r := b[0]; r <= b[1]; r++ {
				l[r] = n
			}
		}
	}
	return l
}

// someRunes are of all kinds: of one column, of none, of two, not printed, and no runes.
var someRunes = []rune{'a', 0xa0, 0x301, 0xe0100, 0x4e00, 0x1f600, 7, 0x9f, 0xd800, 0x110000, -1}

// someLists returns all lists of at most four of someRunes.
func someLists() [][]rune {
	l := [][]rune{nil}
	from := 0
	for range 4 {
		to := len(l)
		for _, head := range l[from:to] {
			for _, r := range someRunes {
				l = append(l, append(slices.Clone(head), r))
			}
		}
		from = to
	}
	return l
}

// someColumns are numbers of columns, also those that no list has.
var someColumns = []int{math.MinInt, math.MinInt + 1, -2, -1, 0, 1, 2, 3, 4, 5, 6, 7, 8, 9, math.MaxInt - 1, math.MaxInt}

// together is the definition of the columns of some runes.
func together(l []rune) int {
	n := 0
	for _, r := range l {
		if w := Of(r); w > 0 {
			n += w
		}
	}
	return n
}

// P2.1: every rune, and numbers that are none.
func TestOfEverywhere(t *testing.T) {
	for r, want := range widths(t) {
		if n := Of(r); n != want {
			t.Fatalf("%x: %d, want %d", r, n, want)
		}
	}
	for _, r := range []rune{math.MinInt32, math.MinInt32 + 0x301, math.MaxInt32, 0x200041, 0x200301, 0x204e00, -0x301, -0x4e00} {
		if n := Of(r); n != -1 {
			t.Errorf("%x: %d", r, n)
		}
	}
}

// P2.1: both ends of every range, and what is beside them.
func TestOfEnds(t *testing.T) {
	for s, want := range map[string]int{notPrinted: -1, markRanges: 0, wideRanges: 2} {
		for _, b := range ranges(t, s) {
			if first, last := Of(b[0]), Of(b[1]); first != want || last != want {
				t.Errorf("%x: %d and %d, want %d", b, first, last, want)
			}
		}
	}
	for r, want := range map[rune]int{
		-1: -1, 0x20: 1, 0x7e: 1, 0xa0: 1, 0xd7ff: 1, 0xe000: 1, api.MaxRune: 1, api.MaxRune + 1: -1,
		0x2ff: 1, 0x370: 1, 0xe30: 1, 0xe32: 1, 0xe33: 1, 0xe3b: 1, 0xe00ff: 1, 0xe01f0: 1,
		0x10ff: 1, 0x1160: 1, 0x2e7f: 1, 0x303f: 1, 0x3040: 1, 0x4dc0: 1, 0x4dff: 1, 0x1f2ff: 1, 0x1f650: 1, 0x2fffe: 1, 0x2ffff: 1, 0x3fffe: 1,
	} {
		if n := Of(r); n != want {
			t.Errorf("%x: %d, want %d", r, n, want)
		}
	}
}

// P2.1: marks between wide runes.
func TestOfMarksAmongWide(t *testing.T) {
	for r := rune(0x302a); r <= 0x302f; r++ {
		if Of(r) != 0 {
			t.Errorf("%x: %d", r, Of(r))
		}
	}
	for r, want := range map[rune]int{0x3029: 2, 0x3030: 2, 0x3098: 2, 0x3099: 0, 0x309a: 0, 0x309b: 2, 0xfe2f: 0, 0xfe30: 2} {
		if n := Of(r); n != want {
			t.Errorf("%x: %d, want %d", r, n, want)
		}
	}
}

// P2.1: the examples of the chapter.
func TestOfExamples(t *testing.T) {
	for _, c := range []struct {
		r    rune
		want int
	}{
		{0x41, 1}, {0x1f, -1}, {0x7f, -1}, {0x9f, -1}, {0xa0, 1}, {0x301, 0}, {0x4e00, 2}, {0x1f600, 2}, {0xfffd, 1}, {0xd800, -1},
		{0x302a, 0}, {0x3029, 2}, {0x3030, 2}, {0x303f, 1}, {0x200b, 0}, {0x2fffe, 1}, {0x10ffff, 1}, {-1, -1},
	} {
		if n := Of(c.r); n != c.want {
			t.Errorf("%x: %d, want %d", c.r, n, c.want)
		}
	}
}

// P2.2: all ranges, in the order of the tables.
func TestTables(t *testing.T) {
	if l := Marks(); !slices.Equal(l, ranges(t, markRanges)) {
		t.Errorf("marks: %x", l)
	}
	if l := Wide(); !slices.Equal(l, ranges(t, wideRanges)) {
		t.Errorf("wide runes: %x", l)
	}
}

// P2.2: what is returned is a copy, and of its own each time.
func TestTablesAreCopies(t *testing.T) {
	for _, f := range []func() [][2]rune{Marks, Wide} {
		want := slices.Clone(f())
		l, m := f(), f()
		clear(l)
		_ = append(l[:1], [2]rune{1, 2})
		if !slices.Equal(m, want) || !slices.Equal(f(), want) {
			t.Errorf("changed: %x, %x", m, f())
		}
	}
	if Of(0x300) != 0 || Of(0xe01ef) != 0 || Of(0x1100) != 2 || Of(0x3fffd) != 2 || Of('a') != 1 {
		t.Error("Of has changed")
	}
}

// P2.3: the examples of the chapter, and others.
func TestTextFitsExamples(t *testing.T) {
	for i, c := range []struct {
		l                []rune
		columns, n, fits int
	}{
		{[]rune{0x61, 0x301, 0x4e00, 7}, 9, 3, 4},
		{[]rune{0x61, 0x301, 0x4e00, 0x62}, 2, 4, 2},
		{[]rune{0x61, 0x301, 0x4e00, 0x62}, 3, 4, 3},
		{[]rune{0x4e00}, 1, 2, 0},
		{[]rune{0x301}, 0, 0, 1},
		{nil, -1, 0, 0},
		{[]rune{}, 0, 0, 0},
		{nil, 5, 0, 0},
		// What has no column fits behind a full row, but not into fewer columns than none.
		{[]rune{'a', 0x301, 7, 'b'}, 1, 2, 3},
		{[]rune{0x301, 7}, 0, 0, 2},
		{[]rune{0x301, 7}, -1, 0, 0},
		{[]rune{0x4e00, 'a'}, math.MinInt, 3, 0},
		// Nothing that stands behind what does not fit is counted.
		{[]rune{'a', 0x4e00, 'b'}, 2, 4, 1},
		{[]rune{0xd800, 'a', 0x110000, -1, 'b'}, 1, 2, 4},
	} {
		if n, k := Text(c.l), Fits(c.l, c.columns); n != c.n || k != c.fits {
			t.Errorf("%d: %d and %d, want %d and %d", i, n, k, c.n, c.fits)
		}
	}
}

// P2.3: Text is what the runes have together, and Fits the most of them; neither changes them.
func TestTextFitsEverywhere(t *testing.T) {
	for _, l := range someLists() {
		was := slices.Clone(l)
		if n := Text(l); n != together(l) {
			t.Fatalf("%x: %d, want %d", l, n, together(l))
		}
		for _, columns := range someColumns {
			want := 0
			for k := range len(l) + 1 {
				if together(l[:k]) <= columns {
					want = k
				}
			}
			if k := Fits(l, columns); k != want {
				t.Fatalf("%x, %d: %d, want %d", l, columns, k, want)
			}
		}
		if !slices.Equal(l, was) {
			t.Fatalf("%x became %x", was, l)
		}
	}
}

// P2.3: long lists.
func TestTextFitsLong(t *testing.T) {
	l := slices.Repeat([]rune{0x4e00, 0x301, 'a', 7}, 100000)
	if n := Text(l); n != 300000 {
		t.Error(n)
	}
	for columns, want := range map[int]int{0: 0, 2: 2, 299999: 399998, 300000: 400000, math.MaxInt: 400000} {
		if k := Fits(l, columns); k != want {
			t.Errorf("%d: %d, want %d", columns, k, want)
		}
	}
}

// P2.4: both tables are in increasing order, and no rune is in two ranges.
func TestTablesInOrder(t *testing.T) {
	for _, l := range [][][2]rune{Marks(), Wide()} {
		behind := rune(0)
		for _, b := range l {
			if b[0] < behind || b[1] < b[0] {
				t.Errorf("%x is not in order", b)
			}
			behind = b[1] + 1
		}
	}
	for _, m := range Marks() {
		for _, w := range Wide() {
			if m[0] <= w[1] && w[0] <= m[1] {
				t.Errorf("%x and %x have runes in common", m, w)
			}
		}
	}
}

// P2.4: the columns of two lists, one behind the other.
func TestTextOfBoth(t *testing.T) {
	for _, l := range someLists() {
		for i := range len(l) + 1 {
			if Text(l[:i])+Text(l[i:]) != Text(l) {
				t.Fatalf("%x: %d and %d, together %d", l, Text(l[:i]), Text(l[i:]), Text(l))
			}
		}
	}
}

// P2.4: what Fits counts has at most so many columns, one rune more has more, and a greater number does not count less.
func TestFitsBounds(t *testing.T) {
	for _, l := range someLists() {
		before := 0
		for _, columns := range someColumns {
			k := Fits(l, columns)
			if k < before || k > len(l) {
				t.Fatalf("%x, %d: %d behind %d", l, columns, k, before)
			}
			// Nothing has no columns, and not fewer.
			if Text(l[:k]) > max(columns, 0) {
				t.Fatalf("%x, %d: %d have %d", l, columns, k, Text(l[:k]))
			}
			if k < len(l) && Text(l[:k+1]) <= columns {
				t.Fatalf("%x, %d: %d have %d", l, columns, k+1, Text(l[:k+1]))
			}
			before = k
		}
	}
}
