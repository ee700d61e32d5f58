package sheet

import (
	"fmt"
	"math"
	"slices"
	"testing"

	"scrollback/api"
)

var red = api.Pen{Fore: api.Color{Kind: api.ColorIndex, Index: 1}}

// Cells that there are; half is the spacer of wide.
var (
	a     = api.Cell{Rune: 'a', Width: 1}
	b     = api.Cell{Rune: 'b', Width: 1, Marks: [3]rune{0x301}, Pen: red}
	empty = api.Cell{Width: 1}
	wide  = api.Cell{Rune: 0x4e00, Width: 2, Pen: red}
	half  = api.Cell{Pen: red}
)

// goodLines are lines, each of which is different; badLines are none.
var (
	goodLines = []api.Line{
		of(a), of(b, a), soft(a), of(), soft(), of(wide, half), of(empty, empty), soft(wide, half, b), of(a, empty),
		soft(slices.Repeat([]api.Cell{a}, 1000)...), of(slices.Repeat([]api.Cell{wide, half}, 500)...),
	}
	badLines = []api.Line{
		of(wide), of(half), soft(a, wide), of(wide, a), of(api.Cell{Width: 2}), of(api.Cell{Rune: 'a', Width: 3}), soft(api.Cell{Rune: 7, Width: 1}),
		of(api.Cell{Width: 1, Pen: api.Pen{Back: api.Color{G: 3}}}), of(slices.Repeat([]api.Cell{a}, 1001)...), soft(slices.Repeat([]api.Cell{empty}, 1001)...),
	}
)

// badIndices are such that no line has, on any page.
var badIndices = []int{-1, -2, 1024, 1025, -1024, 1 << 16, 1 << 32, -1 << 32, math.MaxInt, math.MinInt, math.MaxInt - 1, math.MinInt + 1}

// of returns a line that is not soft, soft one that is.
func of(l ...api.Cell) api.Line   { return api.Line{Cells: l} }
func soft(l ...api.Cell) api.Line { return api.Line{Cells: l, Soft: true} }

// numbered returns a line that is different for each number from 0 to 9999.
func numbered(n int) api.Line {
	var l api.Line
	for _, r := range fmt.Sprint(n) {
		l.Cells = append(l.Cells, api.Cell{Rune: r, Width: 1})
	}
	return l
}

// clone returns a copy of a line, without asking the program.
func clone(l api.Line) api.Line {
	return api.Line{Cells: append([]api.Cell(nil), l.Cells...), Soft: l.Soft}
}

// same reports whether two lines are the same, zero whether a line is the zero value, sameLines whether lists of lines are the same.
func same(x, y api.Line) bool        { return x.Soft == y.Soft && slices.Equal(x.Cells, y.Cells) }
func zero(l api.Line) bool           { return len(l.Cells) == 0 && !l.Soft }
func sameLines(x, y []api.Line) bool { return slices.EqualFunc(x, y, same) }

// page is a page by the definition: places, which are gone, have a line, or are free.
type page []place

type place struct {
	gone, taken bool
	line        api.Line
}

// lines returns the lines that are there, count how many places are gone and how many have a line.
func (p page) lines() []api.Line {
	var l []api.Line
	for _, x := range p {
		if x.taken {
			l = append(l, x.line)
		}
	}
	return l
}
func (p page) count() (gone, taken int) {
	for _, x := range p {
		if x.gone {
			gone++
		}
		if x.taken {
			taken++
		}
	}
	return gone, taken
}

// at returns which place the line with an index has, or -1.
func (p page) at(i int) int {
	for j, x := range p {
		if x.taken && i == 0 {
			return j
		}
		if x.taken {
			i--
		}
	}
	return -1
}

// check checks that everything that a page tells is as it is by the definition.
func (p page) check(t *testing.T, s *Sheet) {
	t.Helper()
	gone, taken := p.count()
	if s.Len() != taken || s.Cap() != len(p) || s.Room() != len(p)-gone-taken || s.Gone() != gone {
		t.Fatalf("%d lines, %d places, room for %d, %d are gone; want %d, %d, %d, %d", s.Len(), s.Cap(), s.Room(), s.Gone(), taken, len(p), len(p)-gone-taken, gone)
	}
	want := p.lines()
	if l := s.Lines(); !sameLines(l, want) {
		t.Fatalf("%v, want %v", l, want)
	}
	for i := -2; i <= len(p)+1; i++ {
		l, e := s.Get(i)
		if there := i >= 0 && i < taken; there && (e != api.OK || !same(l, want[i])) || !there && (e != api.ErrRange || !zero(l)) {
			t.Fatalf("%d of %d: %v, %d", i, taken, l, e)
		}
	}
}

// An op is a call, which is done to a page, and to one by the definition; it returns what is wrong with its results.
type op struct {
	name string
	do   func(s *Sheet, p page) string
}

// wrong tells what is wrong with an error and with a line.
func wrong(got, want api.Errno, l, m api.Line) string {
	if got != want || !same(l, m) {
		return fmt.Sprintf("%v, %d, want %v, %d", l, got, m, want)
	}
	return ""
}

// push, set, drop and pop are the calls; a line that is not fine is no valid one.
func push(l api.Line, fine bool) op {
	return op{"push", func(s *Sheet, p page) string {
		free := 0
		for i, x := range p {
			if x.gone || x.taken {
				free = i + 1
			}
		}
		want := api.OK
		switch {
		case !fine:
			want = api.ErrArg
		case free == len(p):
			want = api.ErrFull
		default:
			p[free] = place{taken: true, line: clone(l)}
		}
		return wrong(s.Push(l), want, api.Line{}, api.Line{})
	}}
}
func set(i int, l api.Line, fine bool) op {
	return op{fmt.Sprint("set ", i), func(s *Sheet, p page) string {
		_, taken := p.count()
		want := api.OK
		switch {
		case !fine:
			want = api.ErrArg
		case i < 0 || i >= taken:
			want = api.ErrRange
		default:
			p[p.at(i)].line = clone(l)
		}
		return wrong(s.Set(i, l), want, api.Line{}, api.Line{})
	}}
}
func drop(n int) op {
	return op{fmt.Sprint("drop ", n), func(s *Sheet, p page) string {
		_, taken := p.count()
		want := api.OK
		switch {
		case n < 0 || n > taken:
			want = api.ErrRange
		default:
			for range n {
				p[p.at(0)] = place{gone: true}
			}
		}
		return wrong(s.Drop(n), want, api.Line{}, api.Line{})
	}}
}
func pop() op {
	return op{"pop", func(s *Sheet, p page) string {
		_, taken := p.count()
		l, e := s.Pop()
		if taken == 0 {
			return wrong(e, api.ErrNone, l, api.Line{})
		}
		last := p.at(taken - 1)
		was := p[last].line
		p[last] = place{}
		return wrong(e, api.OK, l, was)
	}}
}

// made returns a page with so many places and some lines, and the one by the definition.
func made(t *testing.T, places int, l ...api.Line) (*Sheet, page) {
	t.Helper()
	s, e := New(places)
	if s == nil || e != api.OK {
		t.Fatalf("%d: %d", places, e)
	}
	p := make(page, places)
	for _, x := range l {
		do(t, s, p, push(x, true))
	}
	return s, p
}

// do does calls, and checks the page after each of them.
func do(t *testing.T, s *Sheet, p page, ops ...op) {
	t.Helper()
	for _, o := range ops {
		if w := o.do(s, p); w != "" {
			t.Fatalf("%s: %s", o.name, w)
		}
		p.check(t, s)
	}
}

// refused does calls that are all refused.
func refused(t *testing.T, s *Sheet, p page, ops ...op) {
	t.Helper()
	before := slices.Clone(p)
	do(t, s, p, ops...)
	before.check(t, s)
}

// P7.1 to P7.3: all sequences of up to five of these calls, which are checked after each call, on pages of one to three places.
func TestAllSequences(t *testing.T) {
	for places := 1; places <= 3; places++ {
		var ops []op
		for n := -1; n <= places+1; n++ {
			ops = append(ops, drop(n))
		}
		for i := -1; i <= places; i++ {
			ops = append(ops, set(i, goodLines[5], true))
		}
		ops = append(ops, pop(), push(badLines[0], false), set(0, badLines[1], false))
		var grow func(done []op)
		grow = func(done []op) {
			s, e := New(places)
			if e != api.OK {
				t.Fatal(e)
			}
			p := make(page, places)
			names := ""
			for _, o := range done {
				names += o.name + " "
				if w := o.do(s, p); w != "" {
					t.Fatalf("%d: %s: %s", places, names, w)
				}
			}
			p.check(t, s)
			if t.Failed() || len(done) == 5 {
				return
			}
			// Each push has a line of its own.
			grow(append(slices.Clone(done), push(numbered(len(done)), true)))
			for _, o := range ops {
				grow(append(slices.Clone(done), o))
			}
		}
		grow(nil)
	}
}

// P7.1 to P7.3: long sequences of calls on pages of many sizes, in which the numbers follow a rule.
func TestLongSequences(t *testing.T) {
	for _, places := range []int{1, 2, 4, 5, 7, 16, 64, 100} {
		s, p := made(t, places)
		state := uint32(places)
		next := func(n int) int {
			state = state*1664525 + 1013904223
			return int(state>>16) % n
		}
		for i := range 400 {
			switch next(8) {
			case 0, 1, 2, 3:
				do(t, s, p, push(numbered(i), true))
			case 4:
				do(t, s, p, set(next(places+2)-1, numbered(i), true))
			case 5, 6:
				do(t, s, p, pop())
			default:
				do(t, s, p, drop(next(3)))
			}
			if next(10) == 0 {
				s = s.Copy()
				p.check(t, s)
			}
		}
	}
}

// P7.1 and P7.2: all numbers of places that there may be, and others.
func TestNew(t *testing.T) {
	if MaxLines != 1024 {
		t.Error(MaxLines)
	}
	for n := 1; n <= 1024; n++ {
		s, e := New(n)
		if s == nil || e != api.OK {
			t.Fatalf("%d: %d", n, e)
		}
		if s.Len() != 0 || s.Cap() != n || s.Room() != n || s.Gone() != 0 || len(s.Lines()) != 0 {
			t.Fatalf("%d: %d, %d, %d, %d", n, s.Len(), s.Cap(), s.Room(), s.Gone())
		}
	}
	for _, n := range []int{0, -1, 1025, 1026, 2048, -1024, 1 << 16, 1 << 32, 1<<32 + 1, math.MaxInt, math.MinInt, math.MinInt + 1} {
		if s, e := New(n); s != nil || e != api.ErrArg {
			t.Errorf("%d: %v, %d", n, s, e)
		}
	}
}

// P7.1 to P7.3: lines of all sorts, which are pushed, set, got and popped as they are, on a page with just as many places.
func TestLineSorts(t *testing.T) {
	n := len(goodLines)
	s, p := made(t, n, goodLines...)
	for i := range goodLines {
		if l, e := s.Get(i); !same(l, goodLines[i]) || e != api.OK {
			t.Errorf("%d: %v, %d", i, l, e)
		}
		do(t, s, p, set(i, goodLines[n-1-i], true))
	}
	for i, l := range goodLines {
		for j := range n {
			before := p.lines()
			do(t, s, p, set(j, l, true))
			if got, e := s.Get(j); !same(got, l) || e != api.OK {
				t.Errorf("%d, %d: %v, %d", i, j, got, e)
			}
			do(t, s, p, set(j, before[j], true))
		}
	}
	for i := range goodLines {
		if l, e := s.Pop(); !same(l, goodLines[i]) || e != api.OK {
			t.Errorf("%d: %v, %d", i, l, e)
		}
	}
	if s.Len() != 0 || s.Room() != n || s.Gone() != 0 {
		t.Errorf("%d, %d, %d", s.Len(), s.Room(), s.Gone())
	}
}

// P7.1 to P7.3: a page with one place.
func TestOnePlace(t *testing.T) {
	s, p := made(t, 1)
	refused(t, s, p, pop(), drop(1), set(0, of(a), true))
	do(t, s, p, drop(0), push(of(a), true))
	refused(t, s, p, push(of(b), true), drop(2), set(1, of(b), true))
	do(t, s, p, set(0, soft(b), true), pop(), push(of(wide, half), true), drop(0), drop(1))
	if s.Len() != 0 || s.Cap() != 1 || s.Room() != 0 || s.Gone() != 1 {
		t.Errorf("%d, %d, %d, %d", s.Len(), s.Cap(), s.Room(), s.Gone())
	}
	refused(t, s, p, push(of(a), true), push(badLines[0], false), pop(), drop(1), set(0, of(a), true))
	do(t, s, p, drop(0))
}

// P7.1 to P7.3: a page with as many places as there may be: it is filled, half of it is dropped, and what is left popped.
func TestMostPlaces(t *testing.T) {
	s, p := made(t, 1024)
	for i := range 1024 {
		do(t, s, p, push(numbered(i), true))
	}
	refused(t, s, p, push(of(a), true), push(badLines[0], false), drop(1025), set(1024, of(a), true), set(math.MaxInt, of(a), true))
	do(t, s, p, set(0, soft(a), true), set(1023, soft(b), true), drop(1), drop(500), drop(11))
	refused(t, s, p, push(of(a), true), drop(513), set(512, of(a), true))
	for range 512 {
		do(t, s, p, pop())
	}
	refused(t, s, p, pop(), drop(1))
	for i := range 512 {
		do(t, s, p, push(numbered(9000+i), true))
	}
	refused(t, s, p, push(of(a), true))
	do(t, s, p, drop(512))
	if s.Len() != 0 || s.Cap() != 1024 || s.Room() != 0 || s.Gone() != 1024 {
		t.Errorf("%d, %d, %d, %d", s.Len(), s.Cap(), s.Room(), s.Gone())
	}
	refused(t, s, p, push(of(a), true), pop(), drop(1), set(0, of(a), true))
}

// P7.1 and P7.3: lines are dropped one by one while others are pushed behind them, until all places are gone.
func TestDropWhilePushing(t *testing.T) {
	for _, places := range []int{2, 3, 8, 100} {
		s, p := made(t, places, numbered(0))
		for i := 1; i < places; i++ {
			do(t, s, p, push(numbered(i), true), drop(1))
			if l, e := s.Get(0); !same(l, numbered(i)) || e != api.OK || s.Gone() != i {
				t.Errorf("%d, %d: %v, %d", places, i, l, e)
			}
		}
		refused(t, s, p, push(of(a), true))
		// What was popped has its place again, what was dropped has not.
		do(t, s, p, pop(), push(soft(b), true), drop(1))
		refused(t, s, p, push(of(a), true), pop())
	}
}

// P7.3: a page without room has room again only by popping.
func TestRoomOnlyByPopping(t *testing.T) {
	for dropped := 0; dropped <= 4; dropped++ {
		s, p := made(t, 4, goodLines[:4]...)
		do(t, s, p, drop(dropped))
		for _, o := range []op{drop(0), set(0, of(a), true), push(of(b), true), drop(9), push(badLines[2], false)} {
			do(t, s, p, o)
			if s.Room() != 0 {
				t.Errorf("%d, %s: room for %d", dropped, o.name, s.Room())
			}
		}
		for i := range 4 - dropped {
			do(t, s, p, pop())
			if s.Room() != i+1 {
				t.Errorf("%d: room for %d, want %d", dropped, s.Room(), i+1)
			}
		}
		// Dropping in between takes the places of what is left for good.
		do(t, s, p, pop(), push(of(a), true), push(of(b), true), drop(1), push(soft(a), true), pop(), drop(1), pop())
	}
}

// P7.1 and P7.2: indices and numbers next to those that there are, and far from them, before and after lines were dropped.
func TestBadNumbers(t *testing.T) {
	for dropped := range 5 {
		s, p := made(t, 6, goodLines[:4]...)
		do(t, s, p, drop(dropped))
		left := 4 - dropped
		for _, i := range append([]int{left, left + 1, 6, 7}, badIndices...) {
			if l, e := s.Get(i); !zero(l) || e != api.ErrRange {
				t.Errorf("%d, %d: %v, %d", dropped, i, l, e)
			}
			refused(t, s, p, set(i, of(b), true))
		}
		for _, n := range append([]int{left + 1, left + 2, 6, 7}, badIndices...) {
			refused(t, s, p, drop(n))
		}
		if left > 0 {
			do(t, s, p, set(left-1, soft(b), true), set(0, of(b), true))
		}
		do(t, s, p, drop(0), push(of(empty), true))
		do(t, s, p, set(left, of(wide, half), true), drop(left+1))
		refused(t, s, p, pop(), drop(1))
	}
}

// P7.1: what is no valid line, on pages with room and without, with an index that there is and with one that there is not: this is looked at first.
func TestBadLines(t *testing.T) {
	for _, places := range []int{1, 2, 3, 7} {
		for filled := range min(places, 3) + 1 {
			for dropped := range filled + 1 {
				s, p := made(t, places, goodLines[:filled]...)
				do(t, s, p, drop(dropped))
				for _, l := range badLines {
					before := clone(l)
					refused(t, s, p, push(l, false))
					for _, i := range append([]int{0, 1, 2, 3}, badIndices...) {
						refused(t, s, p, set(i, l, false))
					}
					if !same(l, before) {
						t.Fatalf("%v became %v", before, l)
					}
				}
			}
		}
	}
}

// P7.1, P7.2 and P1: a nil page and a zero one, with arguments of all sorts.
func TestNilAndZero(t *testing.T) {
	var none *Sheet
	var value Sheet
	for i, s := range []*Sheet{none, {}, new(Sheet), &value} {
		// A zero page stays one, whatever is done to it.
		for range 2 {
			for _, l := range slices.Concat(goodLines, badLines) {
				if e := s.Push(l); e != api.ErrNil {
					t.Errorf("%d: %d", i, e)
				}
				for _, n := range append([]int{0, 1}, badIndices...) {
					if e := s.Set(n, l); e != api.ErrNil {
						t.Errorf("%d, %d: %d", i, n, e)
					}
				}
			}
			for _, n := range append([]int{0, 1}, badIndices...) {
				if e := s.Drop(n); e != api.ErrNil {
					t.Errorf("%d, %d: %d", i, n, e)
				}
				if l, e := s.Get(n); !zero(l) || e != api.ErrNil {
					t.Errorf("%d, %d: %v, %d", i, n, l, e)
				}
			}
			if l, e := s.Pop(); !zero(l) || e != api.ErrNil {
				t.Errorf("%d: %v, %d", i, l, e)
			}
			if s.Len() != 0 || s.Cap() != 0 || s.Room() != 0 || s.Gone() != 0 || len(s.Lines()) != 0 || s.Copy() != nil {
				t.Errorf("%d: %d, %d, %d, %d, %v, %v", i, s.Len(), s.Cap(), s.Room(), s.Gone(), s.Lines(), s.Copy())
			}
		}
	}
}

// spoil changes all cells of a line, and what is behind them in memory.
func spoil(l api.Line) {
	cells := l.Cells[:cap(l.Cells)]
	for i := range cells {
		cells[i] = api.Cell{Rune: 'z', Width: 1}
	}
}

// inner returns a line of just as many cells whose memory goes on behind them, and what is there.
func inner(l api.Line) (api.Line, []api.Cell) {
	all := slices.Concat(l.Cells, []api.Cell{b, wide, half})
	return api.Line{Cells: all[:len(l.Cells)], Soft: l.Soft}, all
}

// P7.1: what is pushed or set is neither changed nor kept.
func TestArguments(t *testing.T) {
	for i, l := range goodLines {
		x, all := inner(l)
		before := slices.Clone(all)
		s, p := made(t, 3, of(a))
		for _, e := range []api.Errno{s.Push(x), s.Push(x), s.Set(0, x), s.Set(2, x)} {
			if e != api.OK {
				t.Errorf("%d: %d", i, e)
			}
		}
		for j := range p {
			p[j] = place{taken: true, line: clone(l)}
		}
		if !slices.Equal(all, before) {
			t.Errorf("%d: %v became %v", i, before, all)
		}
		spoil(x)
		p.check(t, s)
		// The lines that were made of one argument are changed one by one.
		do(t, s, p, set(1, soft(b, b), true), pop(), push(of(empty), true), drop(1))
	}
}

// P7.2: what is returned shares no memory with the page, nor with what is returned by another call, nor one line with another one.
func TestResults(t *testing.T) {
	s, p := made(t, len(goodLines)+1, goodLines...)
	for i := range goodLines {
		l, _ := s.Get(i)
		other, _ := s.Get(i)
		spoil(l)
		p.check(t, s)
		if !same(other, goodLines[i]) {
			t.Errorf("%d: %v", i, other)
		}
	}
	lines, others := s.Lines(), s.Lines()
	for i := range lines {
		spoil(lines[i])
		for j := i + 1; j < len(lines); j++ {
			if !same(lines[j], goodLines[j]) {
				t.Errorf("%d, %d: %v", i, j, lines[j])
			}
		}
	}
	all := lines[:cap(lines)]
	clear(all)
	p.check(t, s)
	if !sameLines(others, goodLines) {
		t.Errorf("%v", others)
	}
	// The page neither sees what becomes of a list that is longer than it was, nor writes there.
	others = append(others, soft(b, b, b))
	do(t, s, p, push(of(a, a), true))
	if !same(others[len(goodLines)], soft(b, b, b)) {
		t.Errorf("%v", others)
	}
}

// P7.1: a line that was popped is not kept, nor changed by what comes to its place.
func TestPopped(t *testing.T) {
	for i, l := range goodLines {
		s, p := made(t, 2, of(b), l)
		do(t, s, p, drop(1))
		popped, e := s.Pop()
		p[1] = place{}
		if !same(popped, l) || e != api.OK {
			t.Errorf("%d: %v, %d", i, popped, e)
		}
		c, q := s.Copy(), slices.Clone(p)
		do(t, s, p, push(soft(b, a, b), true), set(0, of(a, b), true))
		if !same(popped, l) {
			t.Errorf("%d: %v", i, popped)
		}
		spoil(popped)
		p.check(t, s)
		q.check(t, c)
		again, _ := s.Pop()
		spoil(popped)
		if !same(again, of(a, b)) {
			t.Errorf("%d: %v", i, again)
		}
	}
}

// P7.2: pages and their copies, each of which goes on alone, whichever is changed first, and copies of copies.
func TestCopies(t *testing.T) {
	ways := [][]op{
		{push(of(a), true), push(soft(b), true)},
		{pop(), push(of(a, a), true)},
		{pop(), pop()},
		{drop(1), push(of(b, b), true)},
		{drop(2), pop()},
		{set(0, of(wide, half), true), set(1, soft(a), true), pop()},
		{push(badLines[0], false), set(0, badLines[1], false), drop(-1)},
	}
	for places := 1; places <= 4; places++ {
		for filled := range places + 1 {
			for dropped := range filled + 1 {
				for i, first := range ways {
					for j, then := range ways {
						s, p := made(t, places, goodLines[:filled]...)
						do(t, s, p, drop(dropped))
						c, q := s.Copy(), slices.Clone(p)
						if c == nil || c == s {
							t.Fatalf("%d, %d: %p of %p", i, j, c, s)
						}
						q.check(t, c)
						do(t, s, p, first...)
						q.check(t, c)
						do(t, c, q, then...)
						p.check(t, s)
						d, r := c.Copy(), slices.Clone(q)
						do(t, c, q, first...)
						p.check(t, s)
						r.check(t, d)
						do(t, d, r, push(soft(b, b), true), set(0, of(b, b), true))
						p.check(t, s)
						q.check(t, c)
					}
				}
			}
		}
	}
}

// P7.2: nothing that is done to the cells of a page's results changes a copy of the page.
func TestCopyAndResults(t *testing.T) {
	s, p := made(t, len(goodLines), goodLines...)
	c, q := s.Copy(), slices.Clone(p)
	for i := len(goodLines) - 1; i >= 0; i-- {
		l, e := s.Pop()
		if !same(l, goodLines[i]) || e != api.OK {
			t.Errorf("%d: %v, %d", i, l, e)
		}
		spoil(l)
		q.check(t, c)
	}
	d := c.Copy()
	for range goodLines {
		l, _ := c.Pop()
		spoil(l)
		q.check(t, d)
	}
}

// P7.1: the cells of lines that were dropped or popped are not kept, so that memory is as bounded as the page.
func TestForgets(t *testing.T) {
	s, p := made(t, 6, goodLines[:3]...)
	do(t, s, p, push(goodLines[5], true), push(goodLines[6], true))
	kept := s.lines
	do(t, s, p, drop(2), pop())
	for i, l := range kept {
		if forgotten := i < 2 || i == 4; forgotten != (l.Cells == nil) || forgotten && l.Soft {
			t.Errorf("%d: %v", i, l)
		}
	}
}

// The examples of the chapter.
func TestExamples(t *testing.T) {
	x, y, z := of(a), soft(b), of(wide, half)
	s, e := New(3)
	if e != api.OK {
		t.Fatal(e)
	}
	errors := func(i int, got, want []api.Errno) {
		t.Helper()
		if !slices.Equal(got, want) {
			t.Errorf("%d: %d, want %d", i, got, want)
		}
	}
	is := func(i int, l api.Line, e api.Errno, want api.Line) {
		t.Helper()
		if !same(l, want) || e != api.OK {
			t.Errorf("%d: %v, %d, want %v", i, l, e, want)
		}
	}
	errors(0, []api.Errno{s.Push(x), s.Push(y), s.Drop(1)}, []api.Errno{0, 0, 0})
	l, e := s.Get(0)
	is(1, l, e, y)
	if s.Room() != 1 || s.Gone() != 1 {
		t.Errorf("%d, %d", s.Room(), s.Gone())
	}
	errors(2, []api.Errno{s.Push(z), s.Push(x)}, []api.Errno{0, api.ErrFull})
	l, e = s.Pop()
	is(3, l, e, z)
	errors(4, []api.Errno{s.Push(x)}, []api.Errno{0})
	if l := s.Lines(); !sameLines(l, []api.Line{y, x}) {
		t.Errorf("%v", l)
	}
	_, e0 := New(0)
	_, e1 := New(1025)
	_, e2 := s.Get(2)
	_, e3 := s.Get(-1)
	errors(5, []api.Errno{e0, e1, e2, e3, s.Drop(3), s.Set(1, z)}, []api.Errno{api.ErrArg, api.ErrArg, api.ErrRange, api.ErrRange, api.ErrRange, 0})
	if l := s.Lines(); !sameLines(l, []api.Line{y, z}) {
		t.Errorf("%v", l)
	}
	errors(6, []api.Errno{s.Push(badLines[0]), s.Drop(2)}, []api.Errno{api.ErrArg, 0})
	_, e = s.Pop()
	if s.Len() != 0 || s.Room() != 0 || e != api.ErrNone || s.Cap() != 3 {
		t.Errorf("%d, %d, %d, %d", s.Len(), s.Room(), e, s.Cap())
	}
}
