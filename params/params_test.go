package params

import (
	"math"
	"slices"
	"strconv"
	"strings"
	"testing"
	"unicode/utf8"

	"scrollback/api"
)

// ends are numbers next to the bounds of parameters, of their indices and of int.
var ends = []int{
	math.MinInt, math.MinInt + 1, -1 << 32, -1<<32 - 1, -10000, -9999, -17, -2, -1, 0, 1, 2, 7, 15, 16, 17, 255, 256, 998, 9998, 9999, 10000, 10001,
	1<<16 - 1, 1 << 16, 1<<32 - 1, 1 << 32, 1<<32 + 1, math.MaxInt - 1, math.MaxInt,
}

// said returns the parameters that digits and semicolons say, by the chapter's definition.
func said(s string) []int {
	var l []int
	if s == "" {
		return l
	}
	for _, digits := range strings.Split(s, ";") {
		if len(l) < 16 {
			l = append(l, saidBy(digits))
		}
	}
	return l
}

// saidBy returns the parameter that the digits between two semicolons say.
func saidBy(digits string) int {
	significant := strings.TrimLeft(digits, "0")
	switch {
	case digits == "":
		return -1
	case significant == "":
		return 0
	case len(significant) > 4:
		return 9999
	}
	n, err := strconv.Atoi(significant)
	if err != nil {
		panic(err)
	}
	return n
}

// written returns the bytes of parameters, by the chapter's definition.
func written(l []int) string {
	s := ""
	for i, n := range l {
		if i > 0 {
			s += ";"
		}
		if n >= 0 {
			s += strconv.Itoa(n)
		}
	}
	return s
}

// areParameters is the chapter's definition.
func areParameters(l []int) bool {
	for _, n := range l {
		if n != -1 && (n < 0 || n > 9999) {
			return false
		}
	}
	return len(l) <= 16 && !slices.Equal(l, []int{-1})
}

// stringsOf returns the strings of up to so many of these characters, the shorter ones first.
func stringsOf(characters string, most int) []string {
	l := []string{""}
	for from := 0; most > 0; most-- {
		to := len(l)
		for _, s := range l[from:to] {
			for _, r := range characters {
				l = append(l, s+string(r))
			}
		}
		from = to
	}
	return l
}

// lists returns the lists of up to so many of these numbers, the shorter ones first.
func lists(numbers []int, most int) [][]int {
	l := [][]int{nil}
	for from := 0; most > 0; most-- {
		to := len(l)
		for _, before := range l[from:to] {
			for _, n := range numbers {
				l = append(l, append(slices.Clone(before), n))
			}
		}
		from = to
	}
	return l
}

// repeated returns a number so many times.
func repeated(n, times int) []int { return slices.Repeat([]int{n}, times) }

// added returns a new builder to which all runes of a string were added.
func added(t *testing.T, s string) *Builder {
	t.Helper()
	var b Builder
	for i, r := range s {
		if !b.Add(r) {
			t.Fatalf("%.40q: %d: %q", s, i, r)
		}
	}
	return &b
}

// longStrings are digits and semicolons with very many digits, zeros in front, or about as many semicolons as there are parameters.
func longStrings() []string {
	l := []string{
		"2147483648", "2147483655", "4294967296", "4294967303", "9223372036854775807", "9223372036854775808", "9223372036854775815", "18446744073709551615", "18446744073709551616",
		"18446744073709551623", "99999999999999999999", "00000000000000000000000007", "0000000000000000000000000", "000000000000000000009999", "0000000000000000000010000",
		strings.Repeat("0", 1<<20), strings.Repeat("0", 1<<20) + "7", strings.Repeat("9", 1<<20), "1" + strings.Repeat("0", 1<<20), strings.Repeat(";", 1<<20), strings.Repeat("5;", 1<<20) + "3",
		strings.Repeat("0", 1<<20) + ";" + strings.Repeat("9", 1<<20) + ";;" + strings.Repeat("0", 1<<20) + "42",
	}
	for n := range 40 {
		for _, piece := range []string{";", "7;", "0;", "07;", "9999;", "10000;", ";3;", "3;;"} {
			for _, last := range []string{"", "8", "0", "12345", "4;", "4;5", "00000;6"} {
				l = append(l, strings.Repeat(piece, n)+last)
			}
		}
	}
	return l
}

// P10.1: which numbers are parameters.
func TestValid(t *testing.T) {
	for _, l := range lists(ends, 3) {
		if is := Valid(l); is != areParameters(l) {
			t.Fatal(l, is)
		}
	}
	for n := -3; n <= 10003; n++ {
		if is := Valid([]int{n}); is != (n >= 0 && n <= 9999) {
			t.Error(n, is)
		}
		if is := Valid([]int{-1, n}); is != (n >= -1 && n <= 9999) {
			t.Error(-1, n, is)
		}
	}
	if !Valid(nil) || !Valid([]int{}) {
		t.Error("none")
	}
}

// P10.1: there are at most 16 parameters, and each of them is looked at.
func TestValidLong(t *testing.T) {
	for _, n := range []int{-1, 0, 1, 9999} {
		for many := range 40 {
			l := repeated(n, many)
			if is := Valid(l); is != (many <= 16 && (n >= 0 || many != 1)) {
				t.Error(n, many, is)
			}
			for i := range l {
				for _, bad := range []int{-2, 10000, math.MinInt, math.MaxInt} {
					l[i] = bad
					if Valid(l) {
						t.Error(n, many, i, bad)
					}
				}
				l[i] = n
			}
		}
	}
	if Valid(repeated(0, 1<<20)) || Valid(repeated(0, 1<<16)) || Valid(repeated(0, 1<<8)) || Valid(repeated(0, 1<<8+1)) {
		t.Error("very many")
	}
}

// P10.1: Get and One of any numbers, with any index.
func TestGet(t *testing.T) {
	all := append(lists(ends, 2), ends, repeated(5, 16), repeated(5, 17), repeated(-1, 16), []int{1, 2, 3, 4, 5, 6, 7, 8, 9, 10, 11, 12, 13, 14, 15, 16, 17, 18})
	for _, l := range all {
		for _, i := range append([]int{3, 18, 29, 30, len(l) - 1, len(l), len(l) + 1}, ends...) {
			there := i >= 0 && i < len(l)
			for _, missing := range ends {
				want := missing
				if there && l[i] >= 0 {
					want = l[i]
				}
				if n := Get(l, i, missing); n != want {
					t.Fatal(l, i, missing, n)
				}
			}
			want := 1
			if there && l[i] > 0 {
				want = l[i]
			}
			if n := One(l, i); n != want {
				t.Fatal(l, i, n)
			}
		}
	}
}

// P10.2 and P10.4: Parse of all short strings of digits and semicolons, and of others; a builder to which the same was added has the same.
func TestParse(t *testing.T) {
	for _, s := range append(stringsOf("0179;", 7), longStrings()...) {
		want := said(s)
		l, e := Parse(s)
		if !slices.Equal(l, want) || e != api.OK {
			t.Fatalf("%.40q %v %v %v", s, l, e, want)
		}
		if l := added(t, s).List(); !slices.Equal(l, want) {
			t.Fatalf("%.40q %v %v", s, l, want)
		}
	}
}

// P10.2: every parameter, with zeros in front and without, and what is greater, at the first and at other indices.
func TestParseNumbers(t *testing.T) {
	for n := range 12000 {
		for zeros := range 4 {
			s := strings.Repeat("0", zeros) + strconv.Itoa(n)
			want := min(n, 9999)
			for text, list := range map[string][]int{s: {want}, s + ";": {want, -1}, ";" + s: {-1, want}, "3;" + s + ";" + s: {3, want, want}} {
				if l, e := Parse(text); !slices.Equal(l, list) || e != api.OK {
					t.Fatal(text, l, e)
				}
			}
		}
	}
	for _, n := range []uint64{1 << 31, 1<<31 + 5, 1 << 32, 1<<32 + 5, 1 << 63, 1<<63 + 5, math.MaxUint64, 12345, 99990, 99999, 100000, 655365} {
		if l, e := Parse("1;" + strconv.FormatUint(n, 10)); !slices.Equal(l, []int{1, 9999}) || e != api.OK {
			t.Error(n, l, e)
		}
	}
}

// P10.2: just the first 16 are kept: digits behind the 16th semicolon belong to none of them.
func TestParseMany(t *testing.T) {
	s, want := "", []int(nil)
	for i := range 40 {
		s += strconv.Itoa(100 + i)
		want = append(want, 100+i)
		if l, e := Parse(s); !slices.Equal(l, want[:min(i+1, 16)]) || e != api.OK {
			t.Fatal(s, l, e)
		}
		s += ";"
		if l, e := Parse(s); !slices.Equal(l, append(slices.Clone(want), -1)[:min(i+2, 16)]) || e != api.OK {
			t.Fatal(s, l, e)
		}
	}
}

// isSaid reports whether a rune is a digit or a semicolon.
func isSaid(r rune) bool { return strings.ContainsRune("0123456789;", r) }

// P10.2: another rune than a digit or a semicolon, wherever it stands, and bytes that are no rune.
func TestParseOthers(t *testing.T) {
	for r := rune(0); r <= 0x10ffff; r++ {
		if l, e := Parse(string(r)); e != wantedError(isSaid(r)) || e != api.OK && len(l) != 0 {
			t.Fatalf("%x %v %v", r, l, e)
		}
	}
	for c := range 256 {
		for _, s := range []string{string([]byte{byte(c)}), string([]byte{'1', byte(c)}), string([]byte{byte(c), ';'})} {
			if l, e := Parse(s); e != wantedError(c < 0x80 && isSaid(rune(c))) || e != api.OK && len(l) != 0 {
				t.Fatalf("%q %v %v", s, l, e)
			}
		}
	}
	for _, other := range []string{"x", "-", "+", ":", "/", "<", ".", ",", " ", "\n", "\x00", "\x1b", "_", "e", "٣", "３", "；", "\u037e", "\u0130", "\u013b", "\U00010030", "\xff", "\xc0\xb1", "\xe2\x82", "�"} {
		for _, s := range []string{"", "1", ";", "1;2", strings.Repeat(";", 15), strings.Repeat("1;", 16), strings.Repeat(";", 17), strings.Repeat("3;", 40), "12345", strings.Repeat("9", 100)} {
			for at := range len(s) + 1 {
				if l, e := Parse(s[:at] + other + s[at:]); len(l) != 0 || e != api.ErrFormat {
					t.Fatalf("%q %d %q %v %v", s, at, other, l, e)
				}
			}
		}
	}
	for _, s := range []string{"0x10", "1_000", "1e3", "0b1", "-0", "+0", "-1", "1;-1", "--1", "1 ;2", " 1", "1 ", "1.0", "Inf", "1:2", "?25", ">1", "1m"} {
		if l, e := Parse(s); len(l) != 0 || e != api.ErrFormat {
			t.Error(s, l, e)
		}
	}
}

// wantedError returns OK if it is in order, otherwise ErrFormat.
func wantedError(ok bool) api.Errno {
	if ok {
		return api.OK
	}
	return api.ErrFormat
}

// P10.2: Text of numbers that are parameters, and of others.
func TestText(t *testing.T) {
	for _, l := range append(lists(ends, 3), lists([]int{-1, 0, 10, 9999}, 5)...) {
		checkText(t, l)
	}
	for n := -3; n <= 10003; n++ {
		checkText(t, []int{n})
		checkText(t, []int{-1, n})
		checkText(t, []int{n, -1})
		checkText(t, []int{0, n, 3})
	}
	for _, n := range []int{-2, -1, 0, 7, 9999, 10000} {
		for many := range 40 {
			l := repeated(n, many)
			checkText(t, l)
			for i := range l {
				for _, other := range []int{-2, -1, 0, 5, 9999, 10000} {
					l[i] = other
					checkText(t, l)
				}
				l[i] = n
			}
		}
	}
	checkText(t, repeated(1, 1<<16))
	checkText(t, repeated(-1, 1<<16+1))
}

// checkText holds Text against the definition, and what it writes against what was written.
func checkText(t *testing.T, l []int) {
	t.Helper()
	s, e := Text(l)
	if !areParameters(l) {
		if s != "" || e != api.ErrArg {
			t.Fatal(l, s, e)
		}
		return
	}
	if s != written(l) || e != api.OK {
		t.Fatal(l, s, e)
	}
	if back, e := Parse(s); !slices.Equal(back, l) || e != api.OK {
		t.Fatal(l, s, back, e)
	}
}

// P10.3: which runes Add adds; with another one a builder stays as it is.
func TestAdd(t *testing.T) {
	for _, s := range []string{"", "4", ";", "42;", ";7", strings.Repeat("1;", 15) + "3", strings.Repeat(";", 16), strings.Repeat("2;", 17) + "8"} {
		b := added(t, s)
		want := *b
		for r := rune(-0x100); r <= 0x110100; r++ {
			is := b.Add(r)
			if is != (r >= '0' && r <= '9' || r == ';') || !is && *b != want {
				t.Fatal(s, r, is, b.List())
			}
			if is {
				if l := b.List(); !slices.Equal(l, said(s+string(r))) {
					t.Fatal(s, r, l)
				}
				b = added(t, s)
			}
		}
		for _, r := range []rune{math.MinInt32, math.MinInt32 + '0', math.MaxInt32, -1 << 16, 1<<24 + '0', 1<<16 + ';', -'0', -';', '0' - 1<<8, utf8.RuneError} {
			if b.Add(r) || *b != want {
				t.Error(s, r, b.List())
			}
		}
	}
}

// calls are those of a builder: runes that are added, and a letter for each other call.
const calls = "05;xRC"

// P10.3: all sequences of up to five calls, behind some digits and semicolons, and of up to seven with at most two copies; the builders that were copied go on independently.
func TestBuilder(t *testing.T) {
	for _, before := range []string{"", "999", ";;", strings.Repeat("8;", 14), strings.Repeat("8;", 15) + "1", strings.Repeat(";", 16), strings.Repeat("8;", 30)} {
		for _, sequence := range stringsOf(calls, 5) {
			checkBuilder(t, before, sequence)
		}
	}
	for _, sequence := range stringsOf(calls, 7) {
		if strings.Count(sequence, "C") < 3 {
			checkBuilder(t, "", sequence)
		}
	}
}

// checkBuilder holds builders against what was added to each of them; R is a Reset, and C a Copy, behind which the older one goes on as well, with one more digit.
func checkBuilder(t *testing.T, before, sequence string) {
	t.Helper()
	b, have := added(t, before), before
	var copied []*Builder
	var copiedHave []string
	for _, r := range sequence {
		switch r {
		case 'R':
			b.Reset()
			have = ""
		case 'C':
			c := b.Copy()
			b.Add('3')
			copied, copiedHave = append(copied, b), append(copiedHave, have+"3")
			b = c
		case 'x':
			if b.Add(r) {
				t.Fatal(before, sequence)
			}
		default:
			if !b.Add(r) {
				t.Fatal(before, sequence)
			}
			have += string(r)
		}
		if l := b.List(); !slices.Equal(l, said(have)) {
			t.Fatal(before, sequence, have, l)
		}
	}
	for i, c := range copied {
		if l := c.List(); !slices.Equal(l, said(copiedHave[i])) {
			t.Fatal(before, sequence, copiedHave[i], l)
		}
	}
}

// P10.3: a builder does not count without bounds what it does not keep.
func TestBuilderVeryLong(t *testing.T) {
	var b Builder
	for i := range 1 << 22 {
		if !b.Add(';') || !b.Add(rune('0'+i%10)) {
			t.Fatal(i)
		}
	}
	want := []int{-1, 0, 1, 2, 3, 4, 5, 6, 7, 8, 9, 0, 1, 2, 3, 4}
	if l := b.List(); !slices.Equal(l, want) {
		t.Error(l)
	}
	if c := added(t, ";0;1;2;3;4;5;6;7;8;9;0;1;2;3;4;"); *c != b {
		t.Error("other states that say the same for ever")
	}
	var digits Builder
	for range 1 << 22 {
		digits.Add('9')
	}
	digits.Add(';')
	digits.Add('1')
	if l := digits.List(); !slices.Equal(l, []int{9999, 1}) {
		t.Error(l)
	}
}

// P10.3: behind Reset a builder is as a new one; so is a copy of a new one.
func TestReset(t *testing.T) {
	for _, s := range append(stringsOf("07;", 4), longStrings()...) {
		b := added(t, s)
		b.Reset()
		if *b != (Builder{}) || len(b.List()) != 0 {
			t.Fatalf("%.40q %v", s, b.List())
		}
		b.Reset()
		if !b.Add('6') || !b.Add(';') || !slices.Equal(b.List(), []int{6, -1}) {
			t.Fatalf("%.40q %v", s, b.List())
		}
	}
	c := new(Builder).Copy()
	if c == nil || len(c.List()) != 0 || !c.Add(';') || !slices.Equal(c.List(), []int{-1, -1}) {
		t.Error("a copy of a new one")
	}
}

// P10.3: a copy and its original change independently, whichever of both goes on.
func TestCopy(t *testing.T) {
	for _, s := range append(stringsOf("07;", 4), strings.Repeat("1;", 15), strings.Repeat("1;", 16), strings.Repeat("1;", 17)) {
		b := added(t, s)
		c := b.Copy()
		if c == b || *c != *b {
			t.Fatal(s)
		}
		c.Add('4')
		c.Add(';')
		if !slices.Equal(b.List(), said(s)) || !slices.Equal(c.List(), said(s+"4;")) {
			t.Fatal(s, b.List(), c.List())
		}
		b.Add(';')
		b.Add('5')
		if !slices.Equal(b.List(), said(s+";5")) || !slices.Equal(c.List(), said(s+"4;")) {
			t.Fatal(s, b.List(), c.List())
		}
		c.Reset()
		if !slices.Equal(b.List(), said(s+";5")) {
			t.Fatal(s, b.List())
		}
	}
}

// The errors of chapter 10: a nil builder.
func TestNil(t *testing.T) {
	var b *Builder
	b.Reset()
	for _, r := range "07;x" {
		if b.Add(r) {
			t.Error(r)
		}
	}
	if len(b.List()) != 0 || b.Copy() != nil {
		t.Error(b.List(), b.Copy())
	}
}

// Rules: what is behind a list in memory is no part of it.
func TestCapacity(t *testing.T) {
	for many := range 17 {
		l := repeated(3, 40)[:many]
		if !Valid(l) {
			t.Error(many)
		}
		checkText(t, l)
		for i := many; i < 42; i++ {
			if Get(l, i, 9) != 9 || One(l, i) != 1 {
				t.Error(many, i, Get(l, i, 9), One(l, i))
			}
		}
	}
	l := repeated(-1, 40)
	if Valid(l[:1]) || Valid(l[:1:1]) || !Valid(l[:0]) || !Valid(l[:2]) {
		t.Error("missing ones")
	}
	checkText(t, l[:1])
}

// Rules: arguments stay as they are, and results share no memory with a builder or with each other.
func TestMemory(t *testing.T) {
	for _, l := range [][]int{{5, -1, 0}, {-1}, {-2, 10000}, repeated(3, 16), repeated(3, 17)} {
		whole := append(slices.Clone(l), 77, 88)
		part := whole[:len(l)]
		Valid(part)
		Text(part)
		Get(part, 0, 9)
		One(part, 0)
		if !slices.Equal(whole, append(slices.Clone(l), 77, 88)) {
			t.Error(l, whole)
		}
	}
	for _, s := range []string{"1", "1;2", strings.Repeat("1;", 16)} {
		b := added(t, s)
		for _, list := range []func() []int{b.List, b.Copy().List, func() []int { l, _ := Parse(s); return l }} {
			first, second := list(), list()
			for i := range first {
				first[i] = 99
			}
			_ = append(first[:0], 98)
			if !slices.Equal(second, said(s)) || !slices.Equal(list(), said(s)) {
				t.Error(s, second, list())
			}
		}
		b.Add('9')
		before := b.List()
		b.Add(';')
		b.Reset()
		if !slices.Equal(before, said(s+"9")) {
			t.Error(s, before)
		}
	}
}

// P10.4: what Parse returns is valid, Text of it says the same again, and One of it is never below 1.
func TestConsequences(t *testing.T) {
	for _, s := range append(stringsOf("019;", 6), longStrings()...) {
		l, e := Parse(s)
		if e != api.OK || !Valid(l) {
			t.Fatalf("%.40q %v %v", s, l, e)
		}
		text, e := Text(l)
		if e != api.OK {
			t.Fatalf("%.40q %v %v", s, l, e)
		}
		if again, e := Parse(text); e != api.OK || !slices.Equal(again, l) {
			t.Fatalf("%.40q %q %v %v", s, text, again, e)
		}
		for i := -2; i < len(l)+2; i++ {
			if One(l, i) < 1 {
				t.Fatalf("%.40q %d", s, i)
			}
		}
	}
}

// The examples of chapter 10.
func TestExamples(t *testing.T) {
	for s, want := range map[string][]int{"": nil, "5": {5}, "5;": {5, -1}, ";;": {-1, -1, -1}, "007;12345": {7, 9999}} {
		if l, e := Parse(s); !slices.Equal(l, want) || e != api.OK {
			t.Error(s, l, e)
		}
	}
	for _, s := range []string{"5x", "-1"} {
		if l, e := Parse(s); len(l) != 0 || e != api.ErrFormat {
			t.Error(s, l, e)
		}
	}
	for i, c := range []struct {
		l []int
		s string
		e api.Errno
	}{{[]int{5, -1, 0}, "5;;0", api.OK}, {nil, "", api.OK}, {[]int{-1}, "", api.ErrArg}, {[]int{-1, -1}, ";", api.OK}, {[]int{10000}, "", api.ErrArg}} {
		if s, e := Text(c.l); s != c.s || e != c.e {
			t.Error(i, s, e)
		}
	}
	if l, e := Parse(strings.Repeat(";", 16) + "7"); len(l) != 16 || l[15] != -1 || e != api.OK {
		t.Error(l, e)
	}
	l := []int{5, -1}
	for i, want := range map[int]int{0: 5, 1: 9, 2: 9, -1: 9} {
		if n := Get(l, i, 9); n != want {
			t.Error(i, n)
		}
	}
	l = []int{0, 7, -1}
	if One(l, 0) != 1 || One(l, 1) != 7 || One(l, 2) != 1 || One(nil, 0) != 1 {
		t.Error(One(l, 0), One(l, 1), One(l, 2), One(nil, 0))
	}
	var b Builder
	if !b.Add('4') || !b.Add('2') || !slices.Equal(b.List(), []int{42}) || !b.Add(';') || !slices.Equal(b.List(), []int{42, -1}) || b.Add('x') || !slices.Equal(b.List(), []int{42, -1}) {
		t.Error(b.List())
	}
	b.Reset()
	if len(b.List()) != 0 {
		t.Error(b.List())
	}
}
