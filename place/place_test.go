package place

import (
	"fmt"
	"math"
	"math/big"
	"strings"
	"testing"

	"scrollback/api"
)

var (
	// ends are numbers next to the bounds of lines, of columns and of int.
	ends = []int{
		math.MinInt, math.MinInt + 1, -1 << 40, -1 << 32, -1000, -2, -1, 0, 1, 2, 998, 999, 1000, 1001, 1 << 32, 1<<32 + 1,
		1<<40 - 1, 1 << 40, 1<<40 + 1, 1<<40 + 2, math.MaxInt - 1, math.MaxInt,
	}
	// badColumns are numbers of columns that no line has.
	badColumns = []int{0, -1, -2, 1001, 1002, -1000, 1 << 16, 1 << 32, 1<<32 + 1, math.MaxInt, math.MinInt, math.MinInt + 1}
	// badPlaces are places that are not valid.
	badPlaces = []api.Place{
		at(-1, 0), at(0, -1), at(-1, -1), at(1<<40+1, 0), at(0, 1001), at(1<<40+1, 1001), at(1<<40, 1001), at(-1, 1000),
		at(math.MinInt, 0), at(math.MaxInt, 0), at(0, math.MinInt), at(0, math.MaxInt), at(math.MaxInt, math.MaxInt), at(math.MinInt, math.MinInt),
	}
)

// at returns a place.
func at(line, column int) api.Place { return api.Place{Line: line, Column: column} }

// places returns the places of all pairs of numbers.
func places(numbers []int) []api.Place {
	var l []api.Place
	for _, line := range numbers {
		for _, column := range numbers {
			l = append(l, at(line, column))
		}
	}
	return l
}

// before is the chapter's definition.
func before(a, b api.Place) bool {
	return a.Line < b.Line || a.Line == b.Line && a.Column < b.Column
}

// cells returns the cells of the lines from one on, up to another one, in their order.
func cells(from, to, columns int) []api.Place {
	var l []api.Place
	for line := from; line < to; line++ {
		for column := range columns {
			l = append(l, at(line, column))
		}
	}
	return l
}

// count returns how many cells are before a place, as a number without bounds.
func count(p api.Place, columns int) *big.Int {
	n := new(big.Int).Mul(big.NewInt(int64(p.Line)), big.NewInt(int64(columns)))
	return n.Add(n, big.NewInt(int64(p.Column)))
}

// stepped returns where a step leads, by numbers without bounds.
func stepped(p api.Place, n, columns int) (api.Place, api.Errno) {
	sum := count(p, columns)
	sum.Add(sum, big.NewInt(int64(n)))
	line, column := new(big.Int).DivMod(sum, big.NewInt(int64(columns)), new(big.Int))
	if line.Sign() < 0 || line.Cmp(big.NewInt(1<<40)) > 0 {
		return api.Place{}, api.ErrRange
	}
	return at(int(line.Int64()), int(column.Int64())), api.OK
}

// P9.1: the bounds of the chapter.
func TestBounds(t *testing.T) {
	if MaxLine != 1<<40 || MaxColumn != 1000 {
		t.Error(MaxLine, MaxColumn)
	}
}

// P9.1: Valid asks for both bounds of both numbers.
func TestValid(t *testing.T) {
	for _, p := range places(ends) {
		want := 0 <= p.Line && p.Line <= 1<<40 && 0 <= p.Column && p.Column <= 1000
		if is := Valid(p); is != want {
			t.Error(p, is)
		}
	}
	for _, p := range []api.Place{at(0, 0), at(0, 1000), at(1<<40, 0), at(1<<40, 1000), at(7, 3)} {
		if !Valid(p) {
			t.Error(p)
		}
	}
	for _, p := range badPlaces {
		if Valid(p) {
			t.Error(p)
		}
	}
}

// P9.1: Compare and Order of all pairs of places, also of those that are not valid.
func TestCompare(t *testing.T) {
	l := places(ends)
	for _, a := range l {
		for _, b := range l {
			want, first, second := 0, a, b
			if before(a, b) {
				want = -1
			} else if before(b, a) {
				want, first, second = 1, b, a
			}
			if n := Compare(a, b); n != want {
				t.Fatal(a, b, n)
			}
			if x, y := Order(a, b); x != first || y != second {
				t.Fatal(a, b, x, y)
			}
		}
	}
}

// P9.1: Within holds from the first place on, and no longer at the second one, whatever order these have.
func TestWithin(t *testing.T) {
	l := places([]int{math.MinInt, -1, 0, 1, 1000, 1 << 40, math.MaxInt})
	for _, p := range l {
		for _, from := range l {
			for _, to := range l {
				if is := Within(p, from, to); is != (!before(p, from) && before(p, to)) {
					t.Fatal(p, from, to, is)
				}
			}
		}
	}
}

// P9.2: Clamp of all places around a few lines of a few columns.
func TestClampSmall(t *testing.T) {
	for first := range 4 {
		for next := first + 1; next < 7; next++ {
			for columns := 1; columns < 4; columns++ {
				l := cells(first, next, columns)
				for line := -2; line < 9; line++ {
					for column := -2; column < 6; column++ {
						want := l[0]
						for _, p := range l {
							behind := line >= next || line == p.Line && column >= p.Column
							if behind || line == p.Line && p.Column == 0 {
								want = p
							}
						}
						if p, e := Clamp(at(line, column), first, next, columns); p != want || e != api.OK {
							t.Fatal(line, column, first, next, columns, p, e)
						}
					}
				}
			}
		}
	}
}

// P9.2: Clamp of places with any numbers, to lines and columns at the ends of what is allowed.
func TestClampEnds(t *testing.T) {
	for _, p := range places(ends) {
		for _, lines := range [][2]int{{0, 1}, {0, 2}, {1, 2}, {998, 1001}, {0, 1 << 40}, {0, 1<<40 + 1}, {1 << 40, 1<<40 + 1}, {1<<40 - 1, 1 << 40}, {1<<40 - 1, 1<<40 + 1}} {
			for _, columns := range []int{1, 2, 999, 1000} {
				first, next := lines[0], lines[1]
				want := p
				switch {
				case p.Line < first:
					want = at(first, 0)
				case p.Line >= next:
					want = at(next-1, columns-1)
				case p.Column < 0:
					want.Column = 0
				case p.Column >= columns:
					want.Column = columns - 1
				}
				if got, e := Clamp(p, first, next, columns); got != want || e != api.OK {
					t.Fatal(p, first, next, columns, got, e)
				}
			}
		}
	}
}

// P9.2: what Clamp refuses, with any place.
func TestClampErrors(t *testing.T) {
	for _, p := range append(places([]int{math.MinInt, -1, 0, 1 << 40, math.MaxInt}), at(3, 3), at(3, 1001)) {
		refused := func(first, next, columns int) {
			if got, e := Clamp(p, first, next, columns); got != at(0, 0) || e != api.ErrArg {
				t.Error(p, first, next, columns, got, e)
			}
		}
		for _, lines := range [][2]int{
			{-1, 1}, {-1, 0}, {-1, -1}, {-2, -1}, {math.MinInt, 5}, {math.MinInt, math.MaxInt}, {math.MinInt, math.MinInt + 1},
			{0, 0}, {5, 5}, {5, 4}, {5, 0}, {5, -1}, {0, -1}, {0, math.MinInt}, {math.MaxInt, math.MinInt}, {1, math.MinInt}, {1 << 40, 1 << 40}, {1<<40 + 1, 1<<40 + 1},
			{0, 1<<40 + 2}, {1 << 40, 1<<40 + 2}, {1<<40 + 1, 1<<40 + 2}, {0, math.MaxInt}, {math.MaxInt - 1, math.MaxInt}, {math.MaxInt, math.MaxInt},
		} {
			for _, columns := range []int{1, 10, 1000, 0, -1, 1001} {
				refused(lines[0], lines[1], columns)
			}
		}
		for _, columns := range badColumns {
			refused(0, 1, columns)
			refused(2, 9, columns)
			refused(0, 1<<40+1, columns)
		}
	}
}

// P9.3: Step and Distance among all cells of the first lines and of the last ones, against lists of these.
func TestStepSmall(t *testing.T) {
	const last = 1 << 40
	for columns := 1; columns <= 5; columns++ {
		for _, lines := range [][2]int{{0, 5}, {last - 4, last + 1}} {
			l := cells(lines[0], lines[1], columns)
			for i, p := range l {
				for k, want := range l {
					if got, e := Step(p, k-i, columns); got != want || e != api.OK {
						t.Fatal(p, k-i, columns, got, e)
					}
					if n, e := Distance(p, want, columns); n != k-i || e != api.OK {
						t.Fatal(p, want, columns, n, e)
					}
				}
				n := -i - 1
				if lines[0] > 0 {
					n = len(l) - i
				}
				if got, e := Step(p, n, columns); got != at(0, 0) || e != api.ErrRange {
					t.Fatal(p, n, columns, got, e)
				}
			}
		}
	}
}

// P9.3: steps of numbers of cells at the ends of int, and next to those that lead to the first cell and to the last one.
func TestStepEnds(t *testing.T) {
	for _, columns := range []int{1, 2, 7, 999, 1000} {
		for _, line := range []int{0, 1, 2, 1000, 1 << 32, 1<<40 - 1, 1 << 40} {
			for _, column := range []int{0, 1, columns / 2, columns - 2, columns - 1} {
				p := at(line, column)
				if column < 0 || column >= columns {
					continue
				}
				back, on := -(line*columns + column), ((1<<40)+1)*columns-1-(line*columns+column)
				steps := append([]int{back - 2, back - 1, back, back + 1, on - 1, on, on + 1, on + 2, columns, -columns, columns - column, -column - 1}, ends...)
				for _, n := range steps {
					want, we := stepped(p, n, columns)
					got, e := Step(p, n, columns)
					if got != want || e != we {
						t.Fatal(p, n, columns, got, e)
					}
					if e != api.OK {
						continue
					}
					if d, e := Distance(p, got, columns); d != n || e != api.OK {
						t.Fatal(p, got, columns, d, e)
					}
				}
			}
		}
		first, last := at(0, 0), at(1<<40, columns-1)
		most := ((1<<40)+1)*columns - 1
		if n, e := Distance(first, last, columns); n != most || e != api.OK {
			t.Error(columns, n, e)
		}
		if n, e := Distance(last, first, columns); n != -most || e != api.OK {
			t.Error(columns, n, e)
		}
		if p, e := Step(first, most, columns); p != last || e != api.OK {
			t.Error(columns, p, e)
		}
		if p, e := Step(last, -most, columns); p != first || e != api.OK {
			t.Error(columns, p, e)
		}
	}
}

// P9.3: what Step and Distance refuse; an argument that is not allowed comes before a place that there is not.
func TestStepErrors(t *testing.T) {
	refused := func(p api.Place, columns int) {
		for _, n := range []int{0, 1, -1, 1 << 60, -1 << 60, math.MaxInt, math.MinInt} {
			if got, e := Step(p, n, columns); got != at(0, 0) || e != api.ErrArg {
				t.Error(p, n, columns, got, e)
			}
		}
		for _, q := range []api.Place{at(0, 0), p, at(-1, 0)} {
			if n, e := Distance(p, q, columns); n != 0 || e != api.ErrArg {
				t.Error(p, q, columns, n, e)
			}
			if n, e := Distance(q, p, columns); n != 0 || e != api.ErrArg {
				t.Error(q, p, columns, n, e)
			}
		}
	}
	for _, columns := range badColumns {
		for _, p := range []api.Place{at(0, 0), at(5, 3), at(1<<40, 999), at(1<<40, 1000), at(-1, 0), at(0, -1)} {
			refused(p, columns)
		}
	}
	for _, columns := range []int{1, 2, 10, 999, 1000} {
		for _, p := range append([]api.Place{at(0, columns), at(7, columns), at(1<<40, columns), at(0, columns+1), at(0, 1000)}, badPlaces...) {
			refused(p, columns)
		}
	}
}

// P9.4: the texts of places, and the places with these texts.
func TestText(t *testing.T) {
	for _, line := range []int{0, 1, 9, 10, 12, 99, 100, 1000, 1001, 12345, 1 << 32, 1<<40 - 1, 1 << 40} {
		for column := range 1001 {
			p, want := at(line, column), fmt.Sprintf("%d:%d", line, column)
			if s, e := Text(p); s != want || e != api.OK {
				t.Fatal(p, s, e)
			}
			if got, e := Parse(want); got != p || e != api.OK {
				t.Fatal(want, got, e)
			}
		}
	}
	for _, p := range append(places(ends), badPlaces...) {
		if Valid(p) {
			continue
		}
		if s, e := Text(p); s != "" || e != api.ErrArg {
			t.Error(p, s, e)
		}
		if got, e := Parse(fmt.Sprintf("%d:%d", p.Line, p.Column)); got != at(0, 0) || e != api.ErrFormat {
			t.Error(p, got, e)
		}
	}
}

// P9.4: Parse of all short strings of what stands in texts of numbers.
func TestParseSmall(t *testing.T) {
	texts := map[string]api.Place{}
	for line := range 1000 {
		for column := range 1000 {
			texts[fmt.Sprintf("%d:%d", line, column)] = at(line, column)
		}
	}
	good := 0
	var all func(s string)
	all = func(s string) {
		want, is := texts[s]
		we := api.OK
		if !is {
			we = api.ErrFormat
		} else {
			good++
		}
		if p, e := Parse(s); p != want || e != we {
			t.Fatalf("%q %v %v", s, p, e)
		}
		if len(s) < 5 {
			for _, c := range "019:+-_ x." {
				all(s + string(c))
			}
		}
	}
	all("")
	// Numbers of one digit are 3, of two 6, and of three 18.
	if good != 3*3+2*3*6+(2*3*18+6*6) {
		t.Error(good)
	}
}

// P9.4: what Parse refuses.
func TestParseErrors(t *testing.T) {
	for _, s := range []string{
		"", ":", "::", "7", "7:", ":3", "7:3:", ":7:3", "7::3", "7:3:1", "7;3", "7.3", "7,3", "7 3", "73", "0", "0:", ":0",
		"+7:3", "7:+3", "-7:3", "7:-3", "-0:3", "7:-0", "+0:0", "--7:3", "0:+0", "-1:0", "0:-1",
		" 7:3", "7 :3", "7: 3", "7:3 ", "7:3\n", "\t7:3", "7:3\r", "7:3\x00", "\x007:3", "7\x00:3", " ", "\n", "7:3\u00a0",
		"07:3", "7:03", "00:0", "0:00", "007:3", "7:0003", "01:01", "0" + strings.Repeat("0", 50) + ":0", "0:" + strings.Repeat("0", 50),
		"\u0667:\u0663", "\uff17:\uff13", "7\uff1a3", "\u00b2:3", "7:\u00b3", "7:\u0663", "0x7:3", "7:0x3", "0b1:1", "0o7:3", "1e3:0", "1_0:3", "7:1_0", "a:3", "7:a", "seven:3", "\xff:3", "7:\xff",
		"1099511627777:0", "1099511627776:1001", "0:1001", "0:1002", "7:9999", "9999999999999:0", "2199023255552:3",
		"9223372036854775807:0", "9223372036854775808:0", "18446744073709551616:0", "18446744073709551617:3", "7:18446744073709551617", "7:4294967296", "7:4294967297", "340282366920938463463374607431768211456:0",
		"1" + strings.Repeat("0", 100) + ":0", "0:1" + strings.Repeat("0", 100), strings.Repeat("9", 1<<20) + ":0", "7:" + strings.Repeat("9", 1<<20), strings.Repeat("0", 1<<20) + "7:3", "7:" + strings.Repeat("0", 1<<20) + "3", strings.Repeat(":", 1<<20), strings.Repeat("1", 1<<20),
	} {
		if p, e := Parse(s); p != at(0, 0) || e != api.ErrFormat {
			t.Errorf("%.50q %v %v", s, p, e)
		}
	}
}

// P9.5: Compare is an order: of a place to itself, of two both ways, and of three one behind the other.
func TestOrderLaws(t *testing.T) {
	l := places([]int{math.MinInt, -1, 0, 1, 1000, 1 << 40, math.MaxInt})
	for _, a := range l {
		if n := Compare(a, a); n != 0 {
			t.Fatal(a, n)
		}
		for _, b := range l {
			if n := Compare(a, b); n != -Compare(b, a) || n == 0 && a != b {
				t.Fatal(a, b, n)
			}
			for _, c := range l {
				if Compare(a, b) <= 0 && Compare(b, c) <= 0 && Compare(a, c) > 0 {
					t.Fatal(a, b, c)
				}
			}
		}
	}
}

// P9.5: the Distance leads from one place to the other, and two steps lead as far as one of both numbers.
func TestStepLaws(t *testing.T) {
	const last = 1 << 40
	for _, columns := range []int{1, 2, 3, 80, 1000} {
		var l []api.Place
		for _, line := range []int{0, 1, 2, 1 << 20, last - 1, last} {
			for _, column := range []int{0, 1, columns / 2, columns - 1} {
				if column < columns {
					l = append(l, at(line, column))
				}
			}
		}
		for _, a := range l {
			for _, b := range l {
				n, e := Distance(a, b, columns)
				if p, f := Step(a, n, columns); p != b || e != api.OK || f != api.OK {
					t.Fatal(a, b, columns, n, p, e, f)
				}
				if n < 0 != before(b, a) || n > 0 != before(a, b) {
					t.Fatal(a, b, columns, n)
				}
				for _, m := range []int{0, 1, -1, columns, -columns, 12345, -12345, last, -last} {
					onward, e := Step(b, m, columns)
					at, f := Step(a, n+m, columns)
					if at != onward || e != f {
						t.Fatal(a, b, m, columns, onward, at)
					}
				}
			}
		}
	}
}

// P9.5: Clamp leaves cells as they are, gives cells, and keeps the order.
func TestClampLaws(t *testing.T) {
	const first, next, columns = 2, 5, 3
	l := places([]int{math.MinInt, -1, 0, 1, 2, 3, 4, 5, 6, 1001, 1 << 40, math.MaxInt})
	for _, a := range l {
		x, e := Clamp(a, first, next, columns)
		is := a.Line >= first && a.Line < next && a.Column >= 0 && a.Column < columns
		if e != api.OK || is != (x == a) || !Within(x, at(first, 0), at(next, 0)) || x.Column < 0 || x.Column >= columns {
			t.Fatal(a, x, e)
		}
		if again, e := Clamp(x, first, next, columns); again != x || e != api.OK {
			t.Fatal(a, x, again, e)
		}
		for _, b := range l {
			if y, _ := Clamp(b, first, next, columns); Compare(a, b) <= 0 && Compare(x, y) > 0 {
				t.Fatal(a, b, x, y)
			}
		}
	}
}

// P9.5: Parse inverts Text, and different places have different texts.
func TestTextLaws(t *testing.T) {
	seen := map[string]api.Place{}
	for line := 1; line <= 1<<40; line = line*3 + 1 {
		for column := range 1001 {
			p := at(line, column)
			s, e := Text(p)
			if got, f := Parse(s); got != p || e != api.OK || f != api.OK {
				t.Fatal(p, s, e, got, f)
			}
			if q, is := seen[s]; is {
				t.Fatal(p, q, s)
			}
			seen[s] = p
		}
	}
}

// P9.1 to P9.4: the examples of the chapter.
func TestExamples(t *testing.T) {
	if a, b, c := Compare(at(2, 5), at(2, 6)), Compare(at(3, 0), at(2, 9)), Compare(at(2, 5), at(2, 5)); a != -1 || b != 1 || c != 0 {
		t.Error(a, b, c)
	}
	if a, b := Order(at(3, 0), at(2, 9)); a != at(2, 9) || b != at(3, 0) {
		t.Error(a, b)
	}
	if !Within(at(2, 5), at(2, 5), at(2, 6)) || Within(at(2, 6), at(2, 5), at(2, 6)) {
		t.Error("Within")
	}
	type result struct {
		p api.Place
		e api.Errno
	}
	of := func(p api.Place, e api.Errno) result { return result{p, e} }
	for i, c := range []struct{ got, want result }{
		{of(Clamp(at(1, 7), 2, 5, 4)), of(at(2, 0), api.OK)},
		{of(Clamp(at(3, 7), 2, 5, 4)), of(at(3, 3), api.OK)},
		{of(Clamp(at(5, 0), 2, 5, 4)), of(at(4, 3), api.OK)},
		{of(Clamp(at(3, -1), 2, 5, 4)), of(at(3, 0), api.OK)},
		{of(Clamp(at(0, 0), 2, 2, 4)), of(at(0, 0), api.ErrArg)},
		{of(Clamp(at(0, 0), 0, 1, 0)), of(at(0, 0), api.ErrArg)},
		{of(Step(at(2, 3), 1, 4)), of(at(3, 0), api.OK)},
		{of(Step(at(2, 3), -12, 4)), of(at(0, 0), api.ErrRange)},
		{of(Step(at(2, 3), 9, 4)), of(at(5, 0), api.OK)},
		{of(Step(at(0, 0), -1, 4)), of(at(0, 0), api.ErrRange)},
		{of(Step(at(2, 4), 0, 4)), of(at(0, 0), api.ErrArg)},
		{of(Step(at(1<<40, 3), 1, 4)), of(at(0, 0), api.ErrRange)},
		{of(Parse("7:3")), of(at(7, 3), api.OK)},
		{of(Parse("07:3")), of(at(0, 0), api.ErrFormat)},
		{of(Parse("7")), of(at(0, 0), api.ErrFormat)},
		{of(Parse("7:1001")), of(at(0, 0), api.ErrFormat)},
	} {
		if c.got != c.want {
			t.Error(i, c.got)
		}
	}
	if n, e := Distance(at(2, 3), at(3, 0), 4); n != 1 || e != api.OK {
		t.Error(n, e)
	}
	if n, e := Distance(at(3, 0), at(2, 3), 4); n != -1 || e != api.OK {
		t.Error(n, e)
	}
	if s, e := Text(at(12, 0)); s != "12:0" || e != api.OK {
		t.Error(s, e)
	}
	if s, e := Text(at(-1, 0)); s != "" || e != api.ErrArg {
		t.Error(s, e)
	}
}
