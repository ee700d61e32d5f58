package pen

import (
	"math"
	"slices"
	"strings"
	"testing"

	"scrollback/api"
)

// The flags and their words as the document has them, and not as the program does.
var (
	everyFlag = []api.Flags{api.FlagBold, api.FlagFaint, api.FlagItalic, api.FlagUnderline, api.FlagBlink, api.FlagInverse, api.FlagHidden, api.FlagStruck}
	everyWord = []string{"bold", "faint", "italic", "underline", "blink", "inverse", "hidden", "struck"}
)

// someParts are parts of colors: the least and the greatest one, and all that are a single bit.
var someParts = []uint8{0, 1, 2, 3, 4, 7, 8, 16, 32, 64, 127, 128, 129, 254, 255}

// someColors returns, with their bits, the default color, all of the 256, and many by their parts.
func someColors() map[api.Color]uint64 {
	l := map[api.Color]uint64{{}: 0}
	for n := range 256 {
		l[api.Color{Kind: api.ColorIndex, Index: uint8(n)}] = uint64(16777216 + n)
	}
	for _, r := range someParts {
		for _, g := range someParts {
			for _, b := range someParts {
				l[api.Color{Kind: api.ColorTrue, R: r, G: g, B: b}] = 33554432 + 65536*uint64(r) + 256*uint64(g) + uint64(b)
			}
		}
	}
	return l
}

// fewColors are colors of all kinds, with their bits.
var fewColors = []struct {
	c    api.Color
	bits uint64
}{
	{api.Color{}, 0},
	{api.Color{Kind: api.ColorIndex}, 16777216},
	{api.Color{Kind: api.ColorIndex, Index: 7}, 16777223},
	{api.Color{Kind: api.ColorIndex, Index: 255}, 16777471},
	{api.Color{Kind: api.ColorTrue}, 33554432},
	{api.Color{Kind: api.ColorTrue, R: 1, G: 2, B: 3}, 33620483},
	{api.Color{Kind: api.ColorTrue, R: 255, G: 255, B: 255}, 50331647},
}

// noColors returns colors that there are not: kinds that are none, and parts that a color of a kind does not have.
func noColors() []api.Color {
	var l []api.Color
	for _, k := range []api.ColorKind{math.MinInt, -256, -2, -1, 3, 4, 5, 255, 256, 257, 258, 1 << 32, 1<<32 + 1, 1<<32 + 2, math.MaxInt} {
		l = append(l, api.Color{Kind: k}, api.Color{Kind: k, Index: 7}, api.Color{Kind: k, R: 1, G: 2, B: 3})
	}
	for _, n := range someParts[1:] {
		l = append(l, api.Color{Index: n}, api.Color{R: n}, api.Color{G: n}, api.Color{B: n}, api.Color{Index: n, R: n, G: n, B: n})
		for _, index := range []uint8{0, 1, 255} {
			l = append(l,
				api.Color{Kind: api.ColorIndex, Index: index, R: n},
				api.Color{Kind: api.ColorIndex, Index: index, G: n},
				api.Color{Kind: api.ColorIndex, Index: index, B: n},
				api.Color{Kind: api.ColorTrue, Index: n, R: index},
				api.Color{Kind: api.ColorTrue, Index: n, G: index},
				api.Color{Kind: api.ColorTrue, Index: n, B: index})
		}
	}
	return l
}

// noPens returns pens that there are not, with such a foreground, or such a background, or both.
func noPens() []api.Pen {
	var l []api.Pen
	for _, c := range noColors() {
		for _, good := range fewColors {
			for _, f := range []api.Flags{0, api.FlagBold, 255} {
				l = append(l, api.Pen{Fore: c, Back: good.c, Flags: f}, api.Pen{Fore: good.c, Back: c, Flags: f})
			}
		}
		l = append(l, api.Pen{Fore: c, Back: c})
	}
	return l
}

// P3.1: every kind of color.
func TestValidColor(t *testing.T) {
	for c := range someColors() {
		if !ValidColor(c) {
			t.Errorf("there is %v", c)
		}
	}
	for _, c := range noColors() {
		if ValidColor(c) {
			t.Errorf("there is no %v", c)
		}
	}
}

// P3.1: a pen has two colors, and any flags.
func TestValid(t *testing.T) {
	for _, fore := range fewColors {
		for _, back := range fewColors {
			for f := range 256 {
				if p := (api.Pen{Fore: fore.c, Back: back.c, Flags: api.Flags(f)}); !Valid(p) {
					t.Errorf("there is %v", p)
				}
			}
		}
	}
	for _, p := range noPens() {
		if Valid(p) {
			t.Errorf("there is no %v", p)
		}
	}
}

// P3.1: all of the 256 colors.
func TestIndex(t *testing.T) {
	for n := range 256 {
		if c, want := Index(uint8(n)), (api.Color{Kind: 1, Index: uint8(n)}); c != want || !ValidColor(c) {
			t.Errorf("%d: %v", n, c)
		}
	}
}

// P3.1: colors by their parts.
func TestTrue(t *testing.T) {
	for _, r := range someParts {
		for _, g := range someParts {
			for _, b := range someParts {
				if c, want := True(r, g, b), (api.Color{Kind: 2, R: r, G: g, B: b}); c != want || !ValidColor(c) {
					t.Errorf("%d, %d, %d: %v", r, g, b, c)
				}
			}
		}
	}
}

// P3.1: the examples of the chapter.
func TestValidExamples(t *testing.T) {
	if !Valid(api.Pen{}) {
		t.Error("there is the zero pen")
	}
	for i, c := range []struct {
		c    api.Color
		want bool
	}{{api.Color{B: 1}, false}, {api.Color{Kind: 3}, false}, {Index(7), true}, {api.Color{Kind: api.ColorIndex, R: 1}, false}} {
		if ValidColor(c.c) != c.want {
			t.Errorf("%d: not %v", i, c.want)
		}
	}
}

// P3.2: all flags of all pens with them, with all numbers that are a flag or none.
func TestHas(t *testing.T) {
	for flags := range 256 {
		for f := range 256 {
			want := slices.Contains(everyFlag, api.Flags(f)) && flags/max(f, 1)%2 == 1
			for _, c := range fewColors {
				p := api.Pen{Fore: c.c, Back: Index(1), Flags: api.Flags(flags)}
				if Has(p, api.Flags(f)) != want {
					t.Fatalf("%v, %d: not %v", p, f, want)
				}
			}
		}
	}
}

// P3.2: the pen is the same otherwise, whether it had the flag or not.
func TestWith(t *testing.T) {
	for flags := range 256 {
		for _, f := range everyFlag {
			without := flags
			if flags/int(f)%2 == 1 {
				without -= int(f)
			}
			for _, c := range fewColors {
				for on, want := range map[bool]int{true: without + int(f), false: without} {
					p := api.Pen{Fore: c.c, Back: True(9, 8, 7), Flags: api.Flags(flags)}
					q, e := With(p, f, on)
					if e != api.OK || q != (api.Pen{Fore: c.c, Back: True(9, 8, 7), Flags: api.Flags(want)}) {
						t.Fatalf("%v, %d, %v: %v, %d", p, f, on, q, e)
					}
					p.Fore, p.Back = p.Back, p.Fore
					q, e = With(p, f, on)
					if e != api.OK || q != (api.Pen{Fore: True(9, 8, 7), Back: c.c, Flags: api.Flags(want)}) {
						t.Fatalf("%v, %d, %v: %v, %d", p, f, on, q, e)
					}
				}
			}
		}
	}
}

// P3.2: what is no pen, and what is not just one flag.
func TestWithErrors(t *testing.T) {
	bad := func(p api.Pen, f api.Flags) {
		t.Helper()
		for _, on := range []bool{false, true} {
			if q, e := With(p, f, on); q != (api.Pen{}) || e != api.ErrArg {
				t.Errorf("%v, %d, %v: %v, %d", p, f, on, q, e)
			}
		}
	}
	for _, p := range noPens() {
		for _, f := range []api.Flags{api.FlagBold, api.FlagStruck, 0, 3, 255} {
			bad(p, f)
		}
	}
	for f := range 256 {
		if !slices.Contains(everyFlag, api.Flags(f)) {
			bad(api.Pen{Fore: Index(1), Flags: api.Flags(f)}, api.Flags(f))
			bad(api.Pen{Fore: Index(1), Flags: 255}, api.Flags(f))
			bad(api.Pen{}, api.Flags(f))
		}
	}
}

// P3.3: the word of a pen, and the pen with it, by the definition.
func TestPack(t *testing.T) {
	check := func(p api.Pen, want uint64) {
		t.Helper()
		if w, e := Pack(p); w != want || e != api.OK {
			t.Fatalf("%v: %x, %d, want %x", p, w, e, want)
		}
		if q, e := Unpack(want); q != p || e != api.OK {
			t.Fatalf("%x: %v, %d, want %v", want, q, e, p)
		}
	}
	for c, bits := range someColors() {
		for _, other := range fewColors {
			for _, f := range []api.Flags{0, api.FlagFaint, 255} {
				check(api.Pen{Fore: c, Back: other.c, Flags: f}, bits+67108864*other.bits+4503599627370496*uint64(f))
				check(api.Pen{Fore: other.c, Back: c, Flags: f}, other.bits+67108864*bits+4503599627370496*uint64(f))
			}
		}
	}
	for f := range 256 {
		check(api.Pen{Flags: api.Flags(f)}, 4503599627370496*uint64(f))
	}
}

// P3.3: what is no pen has no word.
func TestPackErrors(t *testing.T) {
	for _, p := range noPens() {
		if w, e := Pack(p); w != 0 || e != api.ErrArg {
			t.Errorf("%v: %x, %d", p, w, e)
		}
	}
}

// noBits returns numbers below 2^26 that are not the bits of a color: such as its kind does not use, and all of the kind 3.
func noBits() []uint64 {
	var l []uint64
	for i := range 24 {
		l = append(l, 1<<i, 1<<24-1<<i)
		if i >= 8 {
			l = append(l, 1<<24+1<<i, 1<<24+1<<i+255, 1<<25-1<<i)
		}
		l = append(l, 3<<24+1<<i)
	}
	return append(l, 1<<24-1, 1<<24+256, 1<<25-1, 3<<24, 1<<26-1)
}

// P3.3: numbers that are not the word of a pen.
func TestUnpackErrors(t *testing.T) {
	bad := func(w uint64) {
		t.Helper()
		if p, e := Unpack(w); p != (api.Pen{}) || e != api.ErrMalformed {
			t.Errorf("%x: %v, %d", w, p, e)
		}
	}
	for _, bits := range noBits() {
		for _, good := range fewColors {
			for _, f := range []uint64{0, 1, 255} {
				bad(bits + good.bits<<26 + f<<52)
				bad(good.bits + bits<<26 + f<<52)
			}
		}
		bad(bits + bits<<26)
	}
	for _, good := range fewColors {
		for i := 60; i < 64; i++ {
			bad(1<<i + good.bits)
			bad(1<<i + good.bits<<26 + 255<<52)
			bad(math.MaxUint64<<i + good.bits)
		}
	}
	bad(math.MaxUint64)
}

// P3.3: with the example 3 of the document, the examples of the chapter.
func TestPackExamples(t *testing.T) {
	for i, c := range []struct {
		p api.Pen
		w uint64
		e api.Errno
	}{
		{api.Pen{}, 0, api.OK},
		{api.Pen{Fore: Index(7)}, 1<<24 + 7, api.OK},
		{api.Pen{Back: True(1, 2, 3), Flags: api.FlagBold}, (1<<26)*(1<<25+65536+512+3) + 1<<52, api.OK},
		{api.Pen{Fore: api.Color{Kind: 3}}, 0, api.ErrArg},
	} {
		if w, e := Pack(c.p); w != c.w || e != c.e {
			t.Errorf("%d: %x, %d", i, w, e)
		}
	}
	for i, c := range []struct {
		w uint64
		p api.Pen
		e api.Errno
	}{
		{1<<24 + 7, api.Pen{Fore: Index(7)}, api.OK},
		{1<<24 + 256, api.Pen{}, api.ErrMalformed},
		{1, api.Pen{}, api.ErrMalformed},
		{3 * 1 << 24, api.Pen{}, api.ErrMalformed},
		{1 << 60, api.Pen{}, api.ErrMalformed},
	} {
		if p, e := Unpack(c.w); p != c.p || e != c.e {
			t.Errorf("%d: %v, %d", i, p, e)
		}
	}
}

// P3.4: the word of every flag, and of no other number.
func TestWord(t *testing.T) {
	for f := range 256 {
		want, wantE := "", api.ErrArg
		if i := slices.Index(everyFlag, api.Flags(f)); i >= 0 {
			want, wantE = everyWord[i], api.OK
		}
		if w, e := Word(api.Flags(f)); w != want || e != wantE {
			t.Errorf("%d: %q, %d, want %q, %d", f, w, e, want, wantE)
		}
	}
}

// P3.4: the flag with every word, and with no other string.
func TestByWord(t *testing.T) {
	bad := func(s string) {
		t.Helper()
		if f, e := ByWord(s); f != 0 || e != api.ErrFormat {
			t.Errorf("%q: %d, %d", s, f, e)
		}
	}
	for i, s := range everyWord {
		if f, e := ByWord(s); f != everyFlag[i] || e != api.OK {
			t.Errorf("%q: %d, %d", s, f, e)
		}
		for _, other := range everyWord {
			bad(s + other)
			bad(s + " " + other)
		}
		for _, other := range []string{strings.ToUpper(s), strings.ToUpper(s[:1]) + s[1:], s[:1], s[1:], s[:len(s)-1], s + "s", " " + s, s + " ", s + "\n", s + "\x00"} {
			bad(other)
		}
	}
	for _, s := range []string{"", " ", "0", "1", "128", "none", "underlined", "strike", "dim", "reverse", "\xff", strings.Repeat("bold", 1000)} {
		bad(s)
	}
}

// P3.4: all flags, in order, and of its own each time.
func TestAll(t *testing.T) {
	l := All()
	if !slices.Equal(l, []api.Flags{1, 2, 4, 8, 16, 32, 64, 128}) || !slices.Equal(l, everyFlag) {
		t.Errorf("%d", l)
	}
	m := All()
	clear(l)
	_ = append(l[:1], 9)
	if !slices.Equal(m, everyFlag) || !slices.Equal(All(), everyFlag) {
		t.Errorf("changed: %d, %d", m, All())
	}
}

// P3.2 and P3.4: the examples of the chapter.
func TestFlagExamples(t *testing.T) {
	p, e := With(api.Pen{}, api.FlagBold, true)
	if e != api.OK || !Has(p, api.FlagBold) || Has(p, api.FlagFaint) {
		t.Errorf("%v, %d", p, e)
	}
	if q, e := With(p, api.FlagBold|api.FlagFaint, true); q != (api.Pen{}) || e != api.ErrArg {
		t.Errorf("%v, %d", q, e)
	}
	if w, e := Word(api.FlagStruck); w != "struck" || e != api.OK {
		t.Errorf("%q, %d", w, e)
	}
	if w, e := Word(3); w != "" || e != api.ErrArg {
		t.Errorf("%q, %d", w, e)
	}
	if f, e := ByWord("blink"); f != api.FlagBlink || e != api.OK {
		t.Errorf("%d, %d", f, e)
	}
	if f, e := ByWord("Bold"); f != 0 || e != api.ErrFormat {
		t.Errorf("%d, %d", f, e)
	}
	if n := len(All()); n != 8 {
		t.Error(n)
	}
}

// P3.5: Unpack inverts Pack for whatever is the word of a pen, and no other word has a pen.
func TestThereAndBack(t *testing.T) {
	words := map[uint64]bool{}
	for _, bits := range noBits() {
		words[bits], words[bits<<26] = true, true
	}
	for _, bits := range someColors() {
		words[bits], words[bits<<26], words[bits+bits<<26+bits<<52] = true, true, true
	}
	for i := range 64 {
		for k := range 64 {
			words[1<<i], words[1<<i+1<<k], words[1<<24+1<<50+1<<i+1<<k] = true, true, true
		}
	}
	pens := 0
	for w := range words {
		p, e := Unpack(w)
		if e != api.OK {
			continue
		}
		pens++
		if again, e := Pack(p); !Valid(p) || again != w || e != api.OK || w >= 1<<60 {
			t.Errorf("%x: %v, %x, %d", w, p, again, e)
		}
	}
	if pens == 0 || pens == len(words) {
		t.Errorf("%d of %d are words of pens", pens, len(words))
	}
}

// P3.5: the words of all pens are below 2^60, and that of the zero pen is 0.
func TestPackBounds(t *testing.T) {
	if w, e := Pack(api.Pen{}); w != 0 || e != api.OK {
		t.Errorf("%x, %d", w, e)
	}
	white := True(255, 255, 255)
	if w, e := Pack(api.Pen{Fore: white, Back: white, Flags: 255}); w != 0xff<<52+0x2ffffff<<26+0x2ffffff || w >= 1<<60 || e != api.OK {
		t.Errorf("%x, %d", w, e)
	}
}

// P3.5: a pen has just the flags that it was given, in whichever order; what was taken away is not there.
func TestWithInAnyOrder(t *testing.T) {
	for flags := range 256 {
		for turn := range 8 {
			forward, backward := api.Pen{Fore: Index(3)}, api.Pen{Fore: Index(3), Flags: 255}
			for i := range 8 {
				f, b := everyFlag[(i+turn)%8], everyFlag[(7-i+turn)%8]
				forward, _ = With(forward, f, api.Flags(flags)&f != 0)
				backward, _ = With(backward, b, api.Flags(flags)&b != 0)
			}
			if want := (api.Pen{Fore: Index(3), Flags: api.Flags(flags)}); forward != want || backward != want {
				t.Fatalf("%v and %v, want %v", forward, backward, want)
			}
			for _, f := range everyFlag {
				if Has(forward, f) != (flags/int(f)%2 == 1) {
					t.Fatalf("%v, %d", forward, f)
				}
			}
		}
	}
}
