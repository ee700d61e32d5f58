package ring

import (
	"fmt"
	"math"
	"slices"
	"testing"

	"scrollback/api"
	"scrollback/sheet"
)

var red = api.Pen{Fore: api.Color{Kind: api.ColorIndex, Index: 1}}

// Cells that there are; half is the spacer of wide.
var (
	a     = api.Cell{Rune: 'a', Width: 1}
	b     = api.Cell{Rune: 'b', Width: 1, Marks: [3]rune{0x301}, Pen: red}
	empty = api.Cell{Width: 1}
	wide  = api.Cell{Rune: 0x4e00, Width: 2, Pen: red}
	half  = api.Cell{Pen: red}
)

// goodLines are lines, each of which is different; badLines are none.
var (
	goodLines = []api.Line{
		of(a), of(b, a), soft(a), of(), soft(), of(wide, half), of(empty, empty), soft(wide, half, b), of(a, empty),
		soft(slices.Repeat([]api.Cell{a}, 1000)...), of(slices.Repeat([]api.Cell{wide, half}, 500)...),
	}
	badLines = []api.Line{
		of(wide), of(half), soft(a, wide), of(wide, a), of(api.Cell{Width: 2}), of(api.Cell{Rune: 'a', Width: 3}), soft(api.Cell{Rune: 7, Width: 1}),
		of(api.Cell{Width: 1, Pen: api.Pen{Back: api.Color{G: 3}}}), of(slices.Repeat([]api.Cell{a}, 1001)...), soft(slices.Repeat([]api.Cell{empty}, 1001)...),
	}
)

// badLimits are such that no ring has, badPages numbers of places that no page has, badNumbers numbers that no line has.
var (
	badLimits  = []int{-1, -2, 1<<20 + 1, 1<<20 + 2, 1 << 21, -1 << 20, 1 << 32, 1<<32 + 1, -1 << 32, math.MaxInt, math.MinInt, math.MinInt + 1}
	badPages   = []int{0, -1, -2, 1025, 1026, 2048, -1024, 1 << 16, 1 << 32, 1<<32 + 1, math.MaxInt, math.MinInt, math.MinInt + 1}
	badNumbers = []int{-1, -2, -1024, 1 << 31, 1 << 32, -1 << 32, 1<<32 + 1, math.MaxInt, math.MaxInt - 1, math.MinInt, math.MinInt + 1}
)

// of returns a line that is not soft, soft one that is.
func of(l ...api.Cell) api.Line   { return api.Line{Cells: l} }
func soft(l ...api.Cell) api.Line { return api.Line{Cells: l, Soft: true} }

// numbered returns a line that is different for each number.
func numbered(n int) api.Line {
	var l api.Line
	for _, r := range fmt.Sprint(n) {
		l.Cells = append(l.Cells, api.Cell{Rune: r, Width: 1})
	}
	return l
}

// clone returns a copy of a line, without asking the program.
func clone(l api.Line) api.Line {
	return api.Line{Cells: append([]api.Cell(nil), l.Cells...), Soft: l.Soft}
}

// same reports whether two lines are the same, zero whether a line is the zero value, sameLines whether lists of lines are the same.
func same(x, y api.Line) bool        { return x.Soft == y.Soft && slices.Equal(x.Cells, y.Cells) }
func zero(l api.Line) bool           { return len(l.Cells) == 0 && !l.Soft }
func sameLines(x, y []api.Line) bool { return slices.EqualFunc(x, y, same) }

// A book is a ring by the definitions of layers 7 and 8: pages of places, which are gone, have a line, or are free.
type book struct {
	most, places, first int
	pages               [][]place
}

type place struct {
	gone, taken bool
	line        api.Line
}

// clone returns a copy.
func (k *book) clone() *book {
	c := *k
	c.pages = nil
	for _, p := range k.pages {
		c.pages = append(c.pages, slices.Clone(p))
	}
	return &c
}

// lines returns the lines that are there, at the place with the line of an index.
func (k *book) lines() []api.Line {
	var l []api.Line
	for _, p := range k.pages {
		for _, x := range p {
			if x.taken {
				l = append(l, x.line)
			}
		}
	}
	return l
}
func (k *book) at(i int) *place {
	for _, p := range k.pages {
		for j := range p {
			if p[j].taken && i == 0 {
				return &p[j]
			}
			if p[j].taken {
				i--
			}
		}
	}
	return nil
}
func (k *book) next() int { return k.first + len(k.lines()) }

// fits returns whether a line with a number is there, or why not.
func (k *book) fits(n int) api.Errno {
	switch {
	case n < 0 || n >= k.next():
		return api.ErrRange
	case n < k.first:
		return api.ErrGone
	}
	return api.OK
}

// free returns which place of the last page is the first one behind those that are gone or taken, or -1.
func (k *book) free() int {
	if len(k.pages) == 0 {
		return -1
	}
	free := 0
	for i, x := range k.pages[len(k.pages)-1] {
		if x.gone || x.taken {
			free = i + 1
		}
	}
	if free == k.places {
		return -1
	}
	return free
}

// push, pop and evict do what the chapter says.
func (k *book) push(l api.Line) {
	free := k.free()
	if free < 0 {
		k.pages = append(k.pages, make([]place, k.places))
		free = 0
	}
	k.pages[len(k.pages)-1][free] = place{taken: true, line: clone(l)}
	k.evict()
}
func (k *book) pop() api.Line {
	x := k.at(len(k.lines()) - 1)
	l := x.line
	*x = place{}
	k.unused()
	return l
}
func (k *book) evict() {
	for len(k.lines()) > k.most {
		*k.at(0) = place{gone: true}
		k.first++
		k.unused()
	}
}

// unused takes pages without lines away.
func (k *book) unused() {
	k.pages = slices.DeleteFunc(k.pages, func(p []place) bool {
		return !slices.ContainsFunc(p, func(x place) bool { return x.taken })
	})
}

// numbers returns numbers in and around those of a book's lines: all of them, or if there are many those at the ends and between the first pages.
func (k *book) numbers() []int {
	next := k.next()
	l := []int{-1, 0, k.first - 1, k.first, k.first + 1, next - 1, next, next + 1, (k.first + next) / 2, k.first + k.places}
	if next < 8 {
		for n := -1; n <= next+1; n++ {
			l = append(l, n)
		}
	}
	slices.Sort(l)
	return slices.Compact(l)
}

// check checks that everything that a ring tells is as it is by the definitions.
func (k *book) check(t *testing.T, r *Ring) {
	t.Helper()
	want := k.lines()
	next := k.first + len(want)
	if r.First() != k.first || r.Next() != next || r.Len() != len(want) || r.Most() != k.most || r.Pages() != len(k.pages) {
		t.Fatalf("%d to %d, %d of %d lines, %d pages; want %d to %d, %d of %d lines, %d pages", r.First(), r.Next(), r.Len(), r.Most(), r.Pages(), k.first, next, len(want), k.most, len(k.pages))
	}
	if r.Len() > r.Most() || r.Pages() > r.Most()/k.places+2 {
		t.Fatalf("%d of %d lines, %d pages of %d", r.Len(), r.Most(), r.Pages(), k.places)
	}
	for n := k.first - 2; n <= next+1; n++ {
		l, e := r.Get(n)
		if f := k.fits(n); e != f || f == api.OK && !same(l, want[n-k.first]) || f != api.OK && !zero(l) {
			t.Fatalf("%d of %d to %d: %v, %d, want %d", n, k.first, next, l, e, f)
		}
	}
	numbers := k.numbers()
	for _, from := range numbers {
		for _, to := range numbers {
			k.checkRange(t, r, want, from, to)
		}
	}
}

// checkRange checks one range, of a book with these lines.
func (k *book) checkRange(t *testing.T, r *Ring, lines []api.Line, from, to int) {
	t.Helper()
	var l []api.Line
	e := api.OK
	switch {
	case from < 0 || from > to || to > k.first+len(lines):
		e = api.ErrRange
	case from < k.first:
		e = api.ErrGone
	default:
		l = lines[from-k.first : to-k.first]
	}
	if m, f := r.Range(from, to); e != f || !sameLines(l, m) {
		t.Fatalf("%d to %d: %v, %d, want %v, %d", from, to, m, f, l, e)
	}
}

// An op is a call, which is done to a ring, and to a book; it returns what is wrong with its results.
type op struct {
	name string
	do   func(r *Ring, k *book) string
}

// wrong tells what is wrong with an error and with a line.
func wrong(got, want api.Errno, l, m api.Line) string {
	if got != want || !same(l, m) {
		return fmt.Sprintf("%v, %d, want %v, %d", l, got, m, want)
	}
	return ""
}

// push, set, pop, limit and empties are the calls; a line that is not fine is no valid one.
func push(l api.Line, fine bool) op {
	return op{"push", func(r *Ring, k *book) string {
		n, e := k.next(), api.OK
		switch {
		case fine:
			k.push(l)
		default:
			n, e = 0, api.ErrArg
		}
		if m, f := r.Push(l); m != n || f != e {
			return fmt.Sprintf("%d, %d, want %d, %d", m, f, n, e)
		}
		return ""
	}}
}
func set(n int, l api.Line, fine bool) op {
	return op{fmt.Sprint("set ", n), func(r *Ring, k *book) string {
		e := k.fits(n)
		switch {
		case !fine:
			e = api.ErrArg
		case e == api.OK:
			k.at(n - k.first).line = clone(l)
		}
		return wrong(r.Set(n, l), e, api.Line{}, api.Line{})
	}}
}
func pop() op {
	return op{"pop", func(r *Ring, k *book) string {
		l, e := r.Pop()
		if len(k.lines()) == 0 {
			return wrong(e, api.ErrNone, l, api.Line{})
		}
		return wrong(e, api.OK, l, k.pop())
	}}
}
func limit(most int) op {
	return op{fmt.Sprint("limit ", most), func(r *Ring, k *book) string {
		e := api.ErrArg
		if most >= 0 && most <= 1<<20 {
			e = api.OK
			k.most = most
			k.evict()
		}
		return wrong(r.Limit(most), e, api.Line{}, api.Line{})
	}}
}
func empties() op {
	return op{"clear", func(r *Ring, k *book) string {
		k.first, k.pages = k.next(), nil
		r.Clear()
		return ""
	}}
}

// made returns a ring with some lines, and the book.
func made(t *testing.T, most, places int, l ...api.Line) (*Ring, *book) {
	t.Helper()
	r, e := New(most, places)
	if r == nil || e != api.OK {
		t.Fatalf("%d, %d: %d", most, places, e)
	}
	k := &book{most: most, places: places}
	for _, x := range l {
		do(t, r, k, push(x, true))
	}
	return r, k
}

// do does calls, and checks the ring after each of them.
func do(t *testing.T, r *Ring, k *book, ops ...op) {
	t.Helper()
	for _, o := range ops {
		if w := o.do(r, k); w != "" {
			t.Fatalf("%s: %s", o.name, w)
		}
		k.check(t, r)
	}
}

// refused does calls that are all refused.
func refused(t *testing.T, r *Ring, k *book, ops ...op) {
	t.Helper()
	before := k.clone()
	do(t, r, k, ops...)
	before.check(t, r)
}

// several returns so many lines, each of which is different.
func several(n int) []api.Line {
	var l []api.Line
	for i := range n {
		l = append(l, numbered(i))
	}
	return l
}

// P8.1 to P8.5: all sequences of up to four of these calls behind up to six pushes, on rings of at most four lines with pages of one to three places.
func TestAllSequences(t *testing.T) {
	for most := range 5 {
		for places := 1; places <= 3; places++ {
			t.Run(fmt.Sprint(most, places), func(t *testing.T) {
				t.Parallel()
				for filled := range 7 {
					allSequences(t, most, places, filled)
				}
			})
		}
	}
}

func allSequences(t *testing.T, most, places, filled int) {
	ops := []op{pop(), empties(), limit(0), limit(1), limit(3), limit(-1), set(2, goodLines[5], true), push(badLines[0], false)}
	var grow func(done []op)
	grow = func(done []op) {
		r, e := New(most, places)
		if e != api.OK {
			t.Fatal(e)
		}
		k := &book{most: most, places: places}
		names := ""
		for _, o := range done {
			names += o.name + " "
			if w := o.do(r, k); w != "" {
				t.Fatalf("%s: %s", names, w)
			}
		}
		k.check(t, r)
		if len(done) == filled+4 {
			return
		}
		// Each push has a line of its own.
		grow(append(slices.Clone(done), push(numbered(len(done)), true)))
		for _, o := range ops {
			grow(append(slices.Clone(done), o))
		}
	}
	var first []op
	for i := range filled {
		first = append(first, push(numbered(i), true))
	}
	grow(first)
}

// P8.1 to P8.5: long sequences of calls on rings of many sizes, in which the numbers follow a rule.
func TestLongSequences(t *testing.T) {
	for _, most := range []int{0, 1, 2, 3, 5, 8, 20, 60} {
		for _, places := range []int{1, 2, 3, 4, 7, 16, 100} {
			t.Run(fmt.Sprint(most, places), func(t *testing.T) {
				t.Parallel()
				longSequence(t, most, places)
			})
		}
	}
}

func longSequence(t *testing.T, most, places int) {
	r, k := made(t, most, places)
	state := uint32(100*most + places)
	next := func(n int) int {
		state = state*1664525 + 1013904223
		return int(state>>16) % n
	}
	for i := range 500 {
		switch next(20) {
		case 0:
			do(t, r, k, limit(next(2*most+2)-1))
		case 1, 2:
			do(t, r, k, set(k.first+next(most+2)-1, numbered(i), true))
		case 3, 4, 5, 6:
			for range next(4) {
				do(t, r, k, pop())
			}
		case 7:
			if next(4) == 0 {
				do(t, r, k, empties())
			}
		case 8:
			r = r.Copy()
			k.check(t, r)
		default:
			do(t, r, k, push(numbered(i), true))
		}
	}
}

// P8.1 and P8.4: the limits and the numbers of places that there may be, and others.
func TestNew(t *testing.T) {
	limits := []int{0, 1, 2, 3, 1023, 1024, 1025, 1<<20 - 1, 1 << 20}
	for _, most := range limits {
		for places := 1; places <= 1024; places++ {
			r, e := New(most, places)
			if r == nil || e != api.OK {
				t.Fatalf("%d, %d: %d", most, places, e)
			}
			if r.First() != 0 || r.Next() != 0 || r.Len() != 0 || r.Most() != most || r.Pages() != 0 {
				t.Fatalf("%d, %d: %d, %d, %d, %d, %d", most, places, r.First(), r.Next(), r.Len(), r.Most(), r.Pages())
			}
		}
	}
	for most := 0; most <= 1<<20; most += 997 {
		if r, e := New(most, 1); r.Most() != most || e != api.OK {
			t.Fatalf("%d: %d, %d", most, r.Most(), e)
		}
	}
	no := func(most, places int) {
		t.Helper()
		if r, e := New(most, places); r != nil || e != api.ErrArg {
			t.Errorf("%d, %d: %v, %d", most, places, r, e)
		}
	}
	for _, places := range badPages {
		for _, most := range append(limits, badLimits...) {
			no(most, places)
		}
	}
	for _, most := range badLimits {
		for _, places := range []int{1, 2, 512, 1023, 1024} {
			no(most, places)
		}
	}
}

// P8.1, P8.2 and P8.5: lines of all sorts, which are pushed, set, got, popped and evicted as they are.
func TestLineSorts(t *testing.T) {
	n := len(goodLines)
	for _, places := range []int{1, 2, 3, n, 1024} {
		r, k := made(t, n, places, goodLines...)
		for i := range goodLines {
			do(t, r, k, set(i, goodLines[n-1-i], true))
		}
		for i := range goodLines {
			l, e := r.Pop()
			if m := k.pop(); !same(l, goodLines[i]) || !same(m, l) || e != api.OK {
				t.Errorf("%d, %d: %v, %d", places, i, l, e)
			}
			k.check(t, r)
		}
		for i := range 3 * n {
			do(t, r, k, push(goodLines[i%n], true))
		}
		for i, l := range goodLines {
			do(t, r, k, set(2*n+i, l, true))
			if got, e := r.Get(2*n + i); !same(got, l) || e != api.OK {
				t.Errorf("%d, %d: %v, %d", places, i, got, e)
			}
		}
	}
}

// P8.1, P8.3 and P8.5: with a limit of 0 each line is evicted at once, and has a number of its own.
func TestNoLines(t *testing.T) {
	for _, places := range []int{1, 2, 4, 1024} {
		r, k := made(t, 0, places)
		for n := range 9 {
			if m, e := r.Push(goodLines[n]); m != n || e != api.OK {
				t.Errorf("%d, %d: %d, %d", places, n, m, e)
			}
			k.push(goodLines[n])
			k.check(t, r)
			if r.First() != n+1 || r.Next() != n+1 || r.Len() != 0 || r.Pages() != 0 {
				t.Errorf("%d, %d: %d, %d, %d, %d", places, n, r.First(), r.Next(), r.Len(), r.Pages())
			}
			refused(t, r, k, pop(), set(n, of(a), true), push(badLines[n], false))
		}
		do(t, r, k, limit(1), push(of(a), true), limit(0), push(of(b), true), empties(), push(soft(a), true), limit(2), push(of(b, b), true))
		if l, e := r.Get(12); !same(l, of(b, b)) || e != api.OK || r.Pages() != 1 {
			t.Errorf("%d: %v, %d, %d", places, l, e, r.Pages())
		}
	}
}

// P8.1 and P8.4: pages that are taken away because their last line was evicted, and such that are not.
func TestPagesAfterEviction(t *testing.T) {
	for _, c := range []struct {
		most, places int
		pages        []int // after each push
	}{
		{1, 1, []int{1, 1, 1, 1}},
		{2, 1, []int{1, 2, 2, 2}},
		{1, 2, []int{1, 1, 1, 1, 1}},
		{2, 2, []int{1, 1, 2, 1, 2, 1, 2}},
		{3, 2, []int{1, 1, 2, 2, 2, 2, 2}},
		{4, 2, []int{1, 1, 2, 2, 3, 2, 3, 2}},
		{5, 2, []int{1, 1, 2, 2, 3, 3, 3, 3}},
		{1, 3, []int{1, 1, 1, 1, 1, 1, 1}},
		{2, 3, []int{1, 1, 1, 2, 1, 1, 2, 1, 1, 2}},
		{4, 3, []int{1, 1, 1, 2, 2, 2, 2, 2, 2, 2}},
		{5, 3, []int{1, 1, 1, 2, 2, 2, 3, 2, 2, 3}},
		{3, 100, []int{1, 1, 1, 1, 1, 1}},
	} {
		r, k := made(t, c.most, c.places)
		for i, pages := range c.pages {
			do(t, r, k, push(numbered(i), true))
			if r.Pages() != pages {
				t.Errorf("%d, %d, %d: %d, want %d", c.most, c.places, i, r.Pages(), pages)
			}
		}
	}
}

// P8.1 and P8.4: pages that are taken away because their last line was popped, and such that are not; a page that was dropped from has no places again.
func TestPagesAfterPopping(t *testing.T) {
	r, k := made(t, 5, 2, several(5)...)
	for i, pages := range []int{2, 2, 1, 1, 0} {
		do(t, r, k, pop())
		if r.Pages() != pages {
			t.Errorf("%d: %d, want %d", i, r.Pages(), pages)
		}
	}
	// Of the first page one place is gone, and what comes to it has only two others.
	r, k = made(t, 3, 3, several(4)...)
	do(t, r, k, pop())
	if r.First() != 1 || r.Pages() != 1 {
		t.Errorf("%d, %d", r.First(), r.Pages())
	}
	do(t, r, k, pop(), push(of(b), true), push(of(b, b), true))
	if r.First() != 1 || r.Pages() != 2 {
		t.Errorf("%d, %d", r.First(), r.Pages())
	}
	// When this page is empty, it is taken away, and the next one has three places.
	do(t, r, k, pop(), pop(), pop())
	refused(t, r, k, pop())
	if r.First() != 1 || r.Next() != 1 || r.Pages() != 0 {
		t.Errorf("%d, %d, %d", r.First(), r.Next(), r.Pages())
	}
	do(t, r, k, push(of(a), true), push(of(b), true), push(of(a, a), true))
	if r.First() != 1 || r.Next() != 4 || r.Pages() != 1 {
		t.Errorf("%d, %d, %d", r.First(), r.Next(), r.Pages())
	}
}

// P8.1 and P8.5: the number of a line that was popped is given again, also when there are no lines left, and after lines were evicted.
func TestNumbersAgain(t *testing.T) {
	for _, places := range []int{1, 2, 3, 10} {
		for _, filled := range []int{0, 1, 3, 4, 5, 9} {
			r, k := made(t, 4, places, several(filled)...)
			left := min(filled, 4)
			for i := range left {
				do(t, r, k, pop())
				for range 3 {
					do(t, r, k, push(soft(b), true), pop())
				}
				if n, e := r.Push(of(wide, half)); n != filled-1-i || e != api.OK {
					t.Errorf("%d, %d, %d: %d, %d", places, filled, i, n, e)
				}
				k.push(of(wide, half))
				do(t, r, k, pop())
			}
			refused(t, r, k, pop(), pop())
			for i := range 6 {
				if n, e := r.Push(numbered(i)); n != filled-left+i || e != api.OK {
					t.Errorf("%d, %d, %d: %d, %d", places, filled, i, n, e)
				}
				k.push(numbered(i))
				k.check(t, r)
			}
		}
	}
}

// P8.3 to P8.5: limits that become smaller, so that no page goes, or one or several or all, and greater, and are the same.
func TestLimits(t *testing.T) {
	for _, places := range []int{1, 2, 3, 4, 5, 20} {
		for most := range 14 {
			for evicted := range 3 {
				r, k := made(t, 12, places, several(12+evicted)...)
				do(t, r, k, limit(most))
				if n := min(most, 12); r.Len() != n || r.Next() != 12+evicted {
					t.Errorf("%d, %d: %d, %d", places, most, r.Len(), r.Next())
				}
				// What was evicted does not come back.
				do(t, r, k, limit(most), limit(20))
				if n := min(most, 12); r.Len() != n || r.First() != 12+evicted-n {
					t.Errorf("%d, %d: %d, %d", places, most, r.Len(), r.First())
				}
				do(t, r, k, push(of(a), true), push(of(b), true), limit(most), limit(1<<20), push(of(a, b), true), pop(), limit(most))
				refusedLimits(t, r, k)
			}
		}
	}
}

// refusedLimits tries limits that no ring has.
func refusedLimits(t *testing.T, r *Ring, k *book) {
	t.Helper()
	for _, most := range badLimits {
		refused(t, r, k, limit(most))
	}
}

// P8.3 to P8.5: clearing, and what is pushed, got and popped behind it.
func TestClear(t *testing.T) {
	for _, places := range []int{1, 2, 3, 8} {
		for filled := range 9 {
			r, k := made(t, 5, places, several(filled)...)
			do(t, r, k, empties())
			if r.First() != filled || r.Next() != filled || r.Len() != 0 || r.Pages() != 0 || r.Most() != 5 {
				t.Errorf("%d, %d: %d, %d, %d, %d, %d", places, filled, r.First(), r.Next(), r.Len(), r.Pages(), r.Most())
			}
			for n := range filled {
				if l, e := r.Get(n); !zero(l) || e != api.ErrGone {
					t.Errorf("%d, %d, %d: %v, %d", places, filled, n, l, e)
				}
			}
			refused(t, r, k, pop(), set(filled, of(a), true), set(filled-1, of(a), true))
			do(t, r, k, empties(), push(of(a), true))
			if l, e := r.Get(filled); !same(l, of(a)) || e != api.OK || r.Pages() != 1 {
				t.Errorf("%d, %d: %v, %d, %d", places, filled, l, e, r.Pages())
			}
			for i := range 7 {
				do(t, r, k, push(numbered(i), true))
			}
			do(t, r, k, pop(), empties(), limit(0), empties(), push(of(b), true), limit(3), push(of(b), true))
		}
	}
}

// P8.2: numbers below 0, of lines that are gone, of the first and the last line, of Next, and far from them; which lines are set.
func TestNumbers(t *testing.T) {
	for _, places := range []int{1, 2, 3, 4, 10} {
		for evicted := range 8 {
			r, k := made(t, 5, places, several(5+evicted)...)
			for n := range evicted {
				if l, e := r.Get(n); !zero(l) || e != api.ErrGone {
					t.Errorf("%d, %d: %v, %d", evicted, n, l, e)
				}
				refused(t, r, k, set(n, of(b), true))
			}
			for _, n := range append([]int{evicted + 5, evicted + 6, evicted + 100}, badNumbers...) {
				if l, e := r.Get(n); !zero(l) || e != api.ErrRange {
					t.Errorf("%d, %d: %v, %d", evicted, n, l, e)
				}
				refused(t, r, k, set(n, of(b), true))
			}
			for n := evicted; n < evicted+5; n++ {
				if l, e := r.Get(n); !same(l, numbered(n)) || e != api.OK {
					t.Errorf("%d, %d: %v, %d", evicted, n, l, e)
				}
			}
			for i, n := range []int{evicted, evicted + 4, evicted + 1, evicted + 2, evicted + 3} {
				do(t, r, k, set(n, goodLines[i], true), set(n, goodLines[i], true))
			}
			do(t, r, k, push(of(a), true), set(evicted+5, of(b), true), pop())
			refused(t, r, k, set(evicted+5, of(b), true), set(evicted, of(b), true))
		}
	}
}

// P8.2: ranges that are empty, of all lines, of some, that begin before the first line, or end behind the last one, or are the wrong way round, and which error comes first.
func TestRanges(t *testing.T) {
	for _, places := range []int{1, 2, 3, 5, 10} {
		for evicted := range 5 {
			for left := range 7 {
				r, k := made(t, left, places, several(evicted+left)...)
				first, next, lines := evicted, evicted+left, k.lines()
				if r.First() != first || r.Next() != next {
					t.Fatalf("%d, %d", r.First(), r.Next())
				}
				for from := -2; from <= next+3; from++ {
					for to := -2; to <= next+3; to++ {
						k.checkRange(t, r, lines, from, to)
					}
				}
				for _, n := range badNumbers {
					for m := -1; m <= next+1; m++ {
						k.checkRange(t, r, lines, n, m)
						k.checkRange(t, r, lines, m, n)
					}
					for _, m := range badNumbers {
						k.checkRange(t, r, lines, n, m)
					}
				}
				k.check(t, r)
			}
		}
	}
	r, _ := made(t, 2, 2, several(5)...)
	for i, c := range []struct {
		from, to int
		e        api.Errno
	}{{3, 3, 0}, {5, 5, 0}, {3, 5, 0}, {4, 5, 0}, {2, 2, api.ErrGone}, {0, 0, api.ErrGone}, {0, 5, api.ErrGone}, {0, 6, api.ErrRange}, {2, 1, api.ErrRange}, {4, 3, api.ErrRange}, {-1, 3, api.ErrRange}, {6, 6, api.ErrRange}} {
		if l, e := r.Range(c.from, c.to); e != c.e || e == api.OK && len(l) != c.to-c.from || e != api.OK && l != nil {
			t.Errorf("%d: %v, %d", i, l, e)
		}
	}
}

// P8.1 and P8.2: what is no valid line, on rings with lines and without, with a number that there is and with others: this is looked at first.
func TestBadLines(t *testing.T) {
	for _, places := range []int{1, 2, 3, 7} {
		for _, filled := range []int{0, 1, 2, 3, 6} {
			for _, most := range []int{0, 1, 3} {
				r, k := made(t, most, places, several(filled)...)
				for _, l := range badLines {
					before := clone(l)
					refused(t, r, k, push(l, false))
					for n := -1; n <= filled+1; n++ {
						refused(t, r, k, set(n, l, false))
					}
					for _, n := range badNumbers {
						refused(t, r, k, set(n, l, false))
					}
					if !same(l, before) {
						t.Fatalf("%v became %v", before, l)
					}
				}
				// Nothing was left over by what was refused.
				do(t, r, k, push(of(a), true), push(of(b), true))
			}
		}
	}
}

// P8.1 to P8.4 and P1: a nil ring and a zero one, with arguments of all sorts.
func TestNilAndZero(t *testing.T) {
	var none *Ring
	var value Ring
	for i, r := range []*Ring{none, {}, new(Ring), &value} {
		// A zero ring stays one, whatever is done to it.
		for range 2 {
			nilErrors(t, i, r)
			l, e := r.Pop()
			r.Clear()
			if !zero(l) || e != api.ErrNil {
				t.Errorf("%d: %v, %d", i, l, e)
			}
			if r.First() != 0 || r.Next() != 0 || r.Len() != 0 || r.Most() != 0 || r.Pages() != 0 || r.Copy() != nil {
				t.Errorf("%d: %d, %d, %d, %d, %d, %v", i, r.First(), r.Next(), r.Len(), r.Most(), r.Pages(), r.Copy())
			}
		}
	}
}

// nilErrors checks all calls with arguments.
func nilErrors(t *testing.T, i int, r *Ring) {
	t.Helper()
	numbers := append([]int{0, 1, 5}, badNumbers...)
	for _, l := range slices.Concat(goodLines, badLines) {
		if n, e := r.Push(l); n != 0 || e != api.ErrNil {
			t.Errorf("%d: %d, %d", i, n, e)
		}
		for _, n := range numbers {
			if e := r.Set(n, l); e != api.ErrNil {
				t.Errorf("%d, %d: %d", i, n, e)
			}
		}
	}
	for _, n := range slices.Concat(numbers, badLimits) {
		l, e := r.Get(n)
		if f := r.Limit(n); !zero(l) || e != api.ErrNil || f != api.ErrNil {
			t.Errorf("%d, %d: %v, %d, %d", i, n, l, e, f)
		}
		for _, m := range numbers {
			if l, e := r.Range(n, m); l != nil || e != api.ErrNil {
				t.Errorf("%d, %d, %d: %v, %d", i, n, m, l, e)
			}
		}
	}
}

// spoil changes all cells of a line, and what is behind them in memory.
func spoil(l api.Line) {
	cells := l.Cells[:cap(l.Cells)]
	for i := range cells {
		cells[i] = api.Cell{Rune: 'z', Width: 1}
	}
}

// inner returns a line of just as many cells whose memory goes on behind them, and what is there.
func inner(l api.Line) (api.Line, []api.Cell) {
	all := slices.Concat(l.Cells, []api.Cell{b, wide, half})
	return api.Line{Cells: all[:len(l.Cells)], Soft: l.Soft}, all
}

// P8.1 and P8.2: what is pushed or set is neither changed nor kept.
func TestArguments(t *testing.T) {
	for i, l := range goodLines {
		x, all := inner(l)
		before := slices.Clone(all)
		r, k := made(t, 4, 2, of(a), of(b))
		for n := 2; n < 5; n++ {
			if m, e := r.Push(x); m != n || e != api.OK {
				t.Errorf("%d: %d, %d", i, m, e)
			}
			k.push(l)
		}
		if e := r.Set(1, x); e != api.OK {
			t.Errorf("%d: %d", i, e)
		}
		k.at(0).line = l
		if !slices.Equal(all, before) {
			t.Errorf("%d: %v became %v", i, before, all)
		}
		spoil(x)
		k.check(t, r)
		// The lines that were made of one argument are changed one by one.
		do(t, r, k, set(3, soft(b, b), true), pop(), push(of(empty), true), push(soft(a), true))
	}
}

// P8.2: what is returned shares no memory with the ring, nor with what is returned by another call, nor one line with another one.
func TestResults(t *testing.T) {
	n := len(goodLines)
	for _, places := range []int{1, 2, 3, 1024} {
		r, k := made(t, n, places, slices.Concat(several(n), goodLines)...)
		for i := range goodLines {
			l, _ := r.Get(n + i)
			other, _ := r.Get(n + i)
			spoil(l)
			k.check(t, r)
			if !same(other, goodLines[i]) {
				t.Errorf("%d: %v", i, other)
			}
		}
		lines, _ := r.Range(n, 2*n)
		others, _ := r.Range(n, 2*n)
		for i := range lines {
			spoil(lines[i])
			if !sameLines(lines[i+1:], goodLines[i+1:]) {
				t.Errorf("%d: %v", i, lines)
			}
		}
		clear(lines[:cap(lines)])
		k.check(t, r)
		if !sameLines(others, goodLines) {
			t.Errorf("%v", others)
		}
		// The ring neither sees what becomes of a list that is longer than it was, nor writes there.
		others = append(others, soft(b, b, b))
		do(t, r, k, push(of(a, a), true))
		if !same(others[n], soft(b, b, b)) {
			t.Errorf("%v", others)
		}
	}
}

// P8.1: a line that was popped is not kept, nor changed by what comes behind the others.
func TestPopped(t *testing.T) {
	for i, l := range goodLines {
		for _, places := range []int{1, 2, 3} {
			r, k := made(t, 2, places, of(a), of(b), l)
			c, q := r.Copy(), k.clone()
			popped, e := r.Pop()
			if m := k.pop(); !same(popped, l) || !same(m, l) || e != api.OK {
				t.Errorf("%d: %v, %d", i, popped, e)
			}
			do(t, r, k, push(soft(b, a, b), true), set(2, of(a, b), true))
			if !same(popped, l) {
				t.Errorf("%d: %v", i, popped)
			}
			spoil(popped)
			k.check(t, r)
			q.check(t, c)
		}
	}
}

// P8.4: rings and their copies, each of which goes on alone, whichever is changed first, and copies of copies.
func TestCopies(t *testing.T) {
	ways := [][]op{
		{push(of(a), true), push(soft(b), true), push(of(a, a), true)},
		{pop(), push(of(a, a), true)},
		{pop(), pop(), pop()},
		{limit(1), push(of(b, b), true)},
		{limit(0), limit(9), push(of(b), true)},
		{empties(), push(of(b, a), true)},
		{set(0, of(wide, half), true), set(2, soft(a), true), set(4, soft(b), true), pop()},
		{push(badLines[0], false), set(2, badLines[1], false), limit(-1)},
	}
	for _, places := range []int{1, 2, 3, 9} {
		for _, most := range []int{0, 2, 5} {
			for filled := range 8 {
				for i, first := range ways {
					for j, then := range ways {
						r, k := made(t, most, places, several(filled)...)
						c, q := r.Copy(), k.clone()
						if c == nil || c == r {
							t.Fatalf("%d, %d: %p of %p", i, j, c, r)
						}
						q.check(t, c)
						do(t, r, k, first...)
						q.check(t, c)
						do(t, c, q, then...)
						k.check(t, r)
						d, s := c.Copy(), q.clone()
						do(t, c, q, first...)
						k.check(t, r)
						s.check(t, d)
						do(t, d, s, push(soft(b, b), true), set(filled, of(b, b), true))
						k.check(t, r)
						q.check(t, c)
					}
				}
			}
		}
	}
}

// P8.2 and P8.4: nothing that is done to a ring's results changes a copy of the ring.
func TestCopyAndResults(t *testing.T) {
	n := len(goodLines)
	r, k := made(t, n, 4, goodLines...)
	c, q := r.Copy(), k.clone()
	lines, _ := r.Range(0, n)
	for i := n - 1; i >= 0; i-- {
		l, e := r.Pop()
		if !same(l, goodLines[i]) || e != api.OK {
			t.Errorf("%d: %v, %d", i, l, e)
		}
		spoil(l)
		spoil(lines[i])
		q.check(t, c)
	}
	d := c.Copy()
	for range goodLines {
		l, _ := c.Pop()
		spoil(l)
		q.check(t, d)
	}
}

// P8.1, P8.3 and P8.5: pages that were taken away are not kept, so that memory is as bounded as the ring.
func TestForgets(t *testing.T) {
	r, k := made(t, 6, 2, several(6)...)
	pages := r.pages
	do(t, r, k, push(of(a), true), push(of(b), true), pop(), pop())
	if pages[0] != nil || pages[1] == nil || pages[2] == nil {
		t.Error(pages)
	}
	do(t, r, k, limit(1))
	if pages[1] != nil || pages[2] == nil {
		t.Error(pages)
	}
	r, k = made(t, 6, 2, several(6)...)
	pages = r.pages
	do(t, r, k, pop(), pop(), pop())
	if pages[0] == nil || pages[1] == nil || pages[2] != nil {
		t.Error(pages)
	}
	do(t, r, k, limit(0))
	if slices.ContainsFunc(pages, func(p *sheet.Sheet) bool { return p != nil }) {
		t.Error(pages)
	}
	// However many pages come and go, there is room for a few times as many as there may be.
	r, _ = made(t, 8, 1)
	for range 10000 {
		r.Push(of())
	}
	if cap(r.pages) > 100 {
		t.Error(cap(r.pages))
	}
}

// P8.5, P8.4 and P1: as many lines as there may be, and more, on pages of the most places, of one, and of others; each call is checked at some numbers.
func TestMostLines(t *testing.T) {
	const most, more = 1 << 20, 5000
	for _, places := range []int{1, 7, 1000, 1024} {
		t.Run(fmt.Sprint(places), func(t *testing.T) {
			t.Parallel()
			r, e := New(most, places)
			if e != api.OK {
				t.Fatal(e)
			}
			for n := range most + more {
				if m, e := r.Push(short(n)); m != n || e != api.OK {
					t.Fatalf("%d: %d, %d", n, m, e)
				}
				if r.Len() != min(n+1, most) || r.Pages() > most/places+2 {
					t.Fatalf("%d: %d, %d", n, r.Len(), r.Pages())
				}
			}
			manyLines(t, r, more, more+most)
			for n := range 3000 {
				if l, e := r.Pop(); !same(l, short(most+more-1-n)) || e != api.OK {
					t.Fatalf("%d: %v, %d", n, l, e)
				}
			}
			manyLines(t, r, more, more+most-3000)
			c := r.Copy()
			if e := r.Limit(2500); e != api.OK {
				t.Error(e)
			}
			manyLines(t, r, more+most-3000-2500, more+most-3000)
			manyLines(t, c, more, more+most-3000)
			c.Clear()
			manyLines(t, c, more+most-3000, more+most-3000)
			manyLines(t, r, more+most-3000-2500, more+most-3000)
		})
	}
}

// short returns a line of at most one cell that is mostly different from those with other numbers nearby.
func short(n int) api.Line {
	l := api.Line{Soft: n%2 == 0}
	if n%50 == 0 {
		l.Cells = []api.Cell{{Rune: rune('A' + n/50%26), Width: 1}}
	}
	return l
}

// manyLines checks that just the short lines with the numbers from first on, up to next, are there.
func manyLines(t *testing.T, r *Ring, first, next int) {
	t.Helper()
	places := (next - first + r.places - 1) / r.places
	if r.First() != first || r.Next() != next || r.Len() != next-first || r.Pages() < places || r.Pages() > places+1 {
		t.Fatalf("%d, %d, %d, %d", r.First(), r.Next(), r.Len(), r.Pages())
	}
	for n := first - 2; n < next+2; n++ {
		l, e := r.Get(n)
		switch {
		case n < first && (e != api.ErrGone || !zero(l)), n >= next && (e != api.ErrRange || !zero(l)):
			t.Fatalf("%d: %v, %d", n, l, e)
		case n >= first && n < next && (e != api.OK || !same(l, short(n))):
			t.Fatalf("%d: %v, %d", n, l, e)
		}
	}
	for _, from := range []int{first, first + 1, (first + next) / 2, next - 2000, next - 1, next} {
		to := min(from+1500, next)
		if l, e := r.Range(from, to); from >= first && from <= to && (e != api.OK || len(l) != to-from || to > from && !same(l[to-from-1], short(to-1))) {
			t.Fatalf("%d to %d: %d, %d", from, to, len(l), e)
		}
	}
	l, e := r.Range(first, next)
	for i, x := range l {
		if !same(x, short(first+i)) {
			t.Fatalf("%d: %v", first+i, x)
		}
	}
	if e != api.OK || len(l) != next-first {
		t.Fatalf("%d, %d", e, len(l))
	}
}

// The examples of the chapter.
func TestExamples(t *testing.T) {
	la, lb, lc, ld, le := of(a), soft(b), of(wide, half), soft(), of(b, a)
	r, e := New(3, 2)
	if e != api.OK {
		t.Fatal(e)
	}
	pushed := func(l api.Line, want int) {
		t.Helper()
		if n, e := r.Push(l); n != want || e != api.OK {
			t.Errorf("%d, %d, want %d", n, e, want)
		}
	}
	numbers := func(got, want int) {
		t.Helper()
		if got != want {
			t.Errorf("%d, want %d", got, want)
		}
	}
	is := func(l api.Line, e api.Errno, m api.Line, f api.Errno) {
		t.Helper()
		if w := wrong(e, f, l, m); w != "" {
			t.Error(w)
		}
	}
	get := func(n int, m api.Line, f api.Errno) {
		t.Helper()
		l, e := r.Get(n)
		is(l, e, m, f)
	}
	span := func(from, to int, m []api.Line, f api.Errno) {
		t.Helper()
		if l, e := r.Range(from, to); e != f || !sameLines(l, m) {
			t.Errorf("%v, %d, want %v, %d", l, e, m, f)
		}
	}
	popped := func(m api.Line, f api.Errno) {
		t.Helper()
		l, e := r.Pop()
		is(l, e, m, f)
	}
	pushed(la, 0)
	pushed(lb, 1)
	pushed(lc, 2)
	numbers(r.Pages(), 2)
	pushed(ld, 3)
	numbers(r.First(), 1)
	numbers(r.Next(), 4)
	numbers(r.Pages(), 2)
	get(0, api.Line{}, api.ErrGone)
	get(1, lb, api.OK)
	get(4, api.Line{}, api.ErrRange)
	span(1, 4, []api.Line{lb, lc, ld}, api.OK)

	pushed(le, 4)
	numbers(r.Pages(), 2)
	popped(le, api.OK)
	numbers(r.Next(), 4)
	pushed(la, 4)
	numbers(int(r.Limit(1)), 0)
	numbers(r.First(), 4)
	span(4, 5, []api.Line{la}, api.OK)
	span(0, 1, nil, api.ErrGone)
	span(3, 2, nil, api.ErrRange)

	numbers(int(r.Set(4, lb)), 0)
	get(4, lb, api.OK)
	r.Clear()
	numbers(r.Len(), 0)
	numbers(r.First(), 5)
	numbers(r.Pages(), 0)
	popped(api.Line{}, api.ErrNone)
	pushed(lc, 5)
	numbers(int(r.Limit(-1)), int(api.ErrArg))
	for _, c := range [][2]int{{-1, 2}, {0, 0}} {
		if r, e := New(c[0], c[1]); r != nil || e != api.ErrArg {
			t.Errorf("%v: %v, %d", c, r, e)
		}
	}

	r, _ = New(0, 4)
	pushed(la, 0)
	numbers(r.Len(), 0)
	numbers(r.Next(), 1)
	numbers(r.Pages(), 0)
}
