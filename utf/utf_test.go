package utf

import (
	"slices"
	"testing"
	"unicode/utf8"

	"scrollback/api"
)

// states returns every sequence of bytes that can be pending: none, and all beginnings of the bytes of runes that are not all of them.
// They come from unicode/utf8, which package utf does not use.
func states() map[string]bool {
	l := map[string]bool{"": true}
	for r := rune(0x80); r <= api.MaxRune; r++ {
		if s := string(r); utf8.ValidRune(r) {
			for k := 1; k < len(s); k++ {
				l[s[:k]] = true
			}
		}
	}
	return l
}

// begun returns a decoder with pending bytes, or stops the test.
func begun(t *testing.T, pending string) *Decoder {
	t.Helper()
	var d Decoder
	if l := d.Feed([]byte(pending)); len(l) != 0 || string(d.Pending()) != pending {
		t.Fatalf("after % x: %x, pending % x", pending, l, d.Pending())
	}
	return &d
}

// stepped is the definition of decoding a byte, in terms of states: the runes, and what is pending then.
func stepped(all map[string]bool, pending string, c byte) ([]rune, string) {
	next := pending + string([]byte{c})
	if all[next] {
		return nil, next
	}
	if r, n := utf8.DecodeRuneInString(next); pending != "" && n == len(next) {
		return []rune{r}, ""
	}
	var l []rune
	if pending != "" {
		l = append(l, Bad)
	}
	switch begin := string([]byte{c}); {
	case c < 0x80:
		return append(l, rune(c)), ""
	case all[begin]:
		return l, begin
	}
	return append(l, Bad), ""
}

// someBytes are pieces of which inputs with all kinds of faults are put together.
var someBytes = []string{"A", "\x00", "\x80", "\xbf", "\xc0", "\xc3", "\xe0", "\xe2", "\xed", "\xf0", "\xf4", "\xf5", "\xff", "\x9f", "\xa0", "\x90", "é", "€", "😀", "\ufffd"}

// someInputs returns all sequences of at most three of someBytes.
func someInputs() []string {
	l := []string{""}
	from := 0
	for range 3 {
		to := len(l)
		for _, s := range l[from:to] {
			for _, p := range someBytes {
				l = append(l, s+p)
			}
		}
		from = to
	}
	return l
}

// P1.1: whatever is pending, and whatever the byte.
func TestStepEverywhere(t *testing.T) {
	all := states()
	for pending := range all {
		d := begun(t, pending)
		for c := range 256 {
			e := d.Copy()
			l := e.Step(byte(c))
			want, left := stepped(all, pending, byte(c))
			if !slices.Equal(l, want) || string(e.Pending()) != left {
				t.Fatalf("% x, %x: %x, pending % x; want %x, % x", pending, c, l, e.Pending(), want, left)
			}
			// P1.4: what comes by one byte, and what is pending
			if len(l) > 2 || len(e.Pending()) > 3 {
				t.Fatalf("% x, %x: %d runes, %d bytes", pending, c, len(l), len(e.Pending()))
			}
		}
	}
}

// P1.1: to end, whatever is pending.
func TestEndEverywhere(t *testing.T) {
	for pending := range states() {
		d := begun(t, pending)
		var want []rune
		if pending != "" {
			want = []rune{Bad}
		}
		if l := d.End(); !slices.Equal(l, want) || len(d.Pending()) != 0 {
			t.Fatalf("% x: %x, pending % x", pending, l, d.Pending())
		}
		if l := d.End(); len(l) != 0 {
			t.Fatalf("% x: %x at a second end", pending, l)
		}
		if l := d.Feed([]byte("é")); !slices.Equal(l, []rune{0xe9}) {
			t.Fatalf("% x: %x behind the end", pending, l)
		}
		if *d != (Decoder{}) {
			t.Fatalf("% x: something is kept: %v", pending, *d)
		}
	}
}

// P1.1: Feed is Step for each byte, and changes nothing that it is given.
func TestFeed(t *testing.T) {
	for _, s := range someInputs() {
		var d, e Decoder
		var want []rune
		for _, c := range []byte(s) {
			want = append(want, e.Step(c)...)
		}
		b := []byte(s)
		if l := d.Feed(b); !slices.Equal(l, want) || d != e {
			t.Fatalf("% x: %x, pending % x; want %x, % x", s, l, d.Pending(), want, e.Pending())
		}
		if string(b) != s {
			t.Fatalf("% x: became % x", s, b)
		}
	}
	var d Decoder
	if len(d.Feed(nil)) != 0 || len(d.Feed([]byte{})) != 0 {
		t.Error("runes of nothing")
	}
}

// P1.1: a rune in pieces, and a byte that does not go on; the example of the chapter.
func TestPieces(t *testing.T) {
	var d Decoder
	if l := d.Feed([]byte("\xf0\x9f")); len(l) != 0 || string(d.Pending()) != "\xf0\x9f" {
		t.Errorf("%x % x", l, d.Pending())
	}
	if l := d.Step(0x98); len(l) != 0 || string(d.Pending()) != "\xf0\x9f\x98" {
		t.Errorf("%x % x", l, d.Pending())
	}
	if l := d.Step(0xc3); !slices.Equal(l, []rune{Bad}) || string(d.Pending()) != "\xc3" {
		t.Errorf("%x % x", l, d.Pending())
	}
	if l := d.Step(0xa9); !slices.Equal(l, []rune{0xe9}) || len(d.Pending()) != 0 {
		t.Errorf("%x % x", l, d.Pending())
	}
	if l := d.End(); len(l) != 0 {
		t.Errorf("%x", l)
	}
}

// P1.1: what does not go on stands for one Bad, and is looked at anew.
func TestNotGoingOn(t *testing.T) {
	for _, c := range []struct {
		pending string
		next    byte
		want    []rune
		left    string
	}{
		{"\xe2\x82", 'A', []rune{Bad, 'A'}, ""},
		{"\xe2\x82", 0xe2, []rune{Bad}, "\xe2"},
		{"\xe2\x82", 0xff, []rune{Bad, Bad}, ""},
		{"\xf0\x9f\x98", 0xc1, []rune{Bad, Bad}, ""},
		{"\xe0", 0x9f, []rune{Bad, Bad}, ""},
		{"\xed", 0xa0, []rune{Bad, Bad}, ""},
		{"\xf0", 0x8f, []rune{Bad, Bad}, ""},
		{"\xf4", 0x90, []rune{Bad, Bad}, ""},
		{"\xc2", 0x00, []rune{Bad, 0}, ""},
	} {
		d := begun(t, c.pending)
		if l := d.Step(c.next); !slices.Equal(l, c.want) || string(d.Pending()) != c.left {
			t.Errorf("% x, %x: %x, pending % x", c.pending, c.next, l, d.Pending())
		}
	}
}

// P1.2: Pending is a copy of the bytes, and changes nothing.
func TestPending(t *testing.T) {
	var d Decoder
	if len(d.Pending()) != 0 {
		t.Error("of a new decoder")
	}
	for i, c := range []byte("\xf0\x9f\x98") {
		d.Step(c)
		p := d.Pending()
		if string(p) != "\xf0\x9f\x98"[:i+1] {
			t.Errorf("% x", p)
		}
		clear(p)
		// what is appended must not get into the decoder either
		_ = append(p, 'x')
		_ = append(d.Pending(), 'y')
	}
	if l := d.Step(0x80); !slices.Equal(l, []rune{0x1f600}) || len(d.Pending()) != 0 {
		t.Errorf("%x % x", l, d.Pending())
	}
}

// P1.2: a copy goes on by itself, and so does what it is a copy of.
func TestCopy(t *testing.T) {
	for pending := range states() {
		d := begun(t, pending)
		c := d.Copy()
		if c == d || *c != *d {
			t.Fatalf("% x: no copy", pending)
		}
		c.Feed([]byte("x\xe2"))
		if string(d.Pending()) != pending || string(c.Pending()) != "\xe2" {
			t.Fatalf("% x: % x, % x", pending, d.Pending(), c.Pending())
		}
		d.Feed([]byte("y\xf0\x9f"))
		if l := c.Feed([]byte("\x82\xac")); !slices.Equal(l, []rune{0x20ac}) || string(d.Pending()) != "\xf0\x9f" {
			t.Fatalf("% x: %x, % x", pending, l, d.Pending())
		}
	}
}

// P1.1 and P1.2: a nil decoder.
func TestNil(t *testing.T) {
	var d *Decoder
	if len(d.Step('a'))+len(d.Step(0xe2))+len(d.Feed([]byte("a\xe2")))+len(d.Feed(nil))+len(d.End())+len(d.Pending()) != 0 {
		t.Error("returns something")
	}
	if d.Copy() != nil {
		t.Error("has a copy")
	}
}

// P1.3: Decode, by examples.
func TestDecode(t *testing.T) {
	for _, c := range []struct {
		s    string
		want []rune
	}{
		{"", nil},
		{"\x61\xc3\xa9\xe2\x82\xac\xf0\x9f\x98\x80", []rune{0x61, 0xe9, 0x20ac, 0x1f600}},
		{"\xe2\x82\x41", []rune{Bad, 0x41}},
		{"\xc0\xaf", []rune{Bad, Bad}},
		{"\xed\xa0\x80", []rune{Bad, Bad, Bad}},
		{"\xf4\x90\x80\x80", []rune{Bad, Bad, Bad, Bad}},
		{"\xe2\x82", []rune{Bad}},
		{"\xf0\x9f\x98\xf0\x9f\x98\x80\xf0", []rune{Bad, 0x1f600, Bad}},
		{"\xef\xbb\xbf\xef\xbf\xbd", []rune{0xfeff, Bad}},
	} {
		if l := Decode([]byte(c.s)); !slices.Equal(l, c.want) {
			t.Errorf("% x: %x, want %x", c.s, l, c.want)
		}
	}
}

// P1.3: Decode is Feed and End then.
func TestDecodeIsFeed(t *testing.T) {
	for _, s := range someInputs() {
		var d Decoder
		want := append(d.Feed([]byte(s)), d.End()...)
		b := []byte(s)
		if l := Decode(b); !slices.Equal(l, want) || string(b) != s {
			t.Fatalf("% x: %x, want %x", s, l, want)
		}
	}
}

// P1.3: which numbers are runes, and the bytes of each.
func TestEveryRune(t *testing.T) {
	for r := rune(-0x100); r <= api.MaxRune+0x100; r++ {
		is := 0 <= r && r < 0xd800 || 0xe000 <= r && r <= 0x10ffff
		if Valid(r) != is {
			t.Fatalf("Valid(%x): %v", r, !is)
		}
		want := "\xef\xbf\xbd"
		if is {
			want = string(r)
		}
		if b := Encode([]rune{r}); string(b) != want {
			t.Fatalf("Encode(%x): % x", r, b)
		}
	}
	for _, r := range []rune{-1 << 31, -1<<31 + 'a', 1<<31 - 1, 0x200041, -0x7fffff9f} {
		if Valid(r) || string(Encode([]rune{r})) != "\xef\xbf\xbd" {
			t.Errorf("%x", r)
		}
	}
}

// P1.3: the bytes of several runes, which are not changed.
func TestEncode(t *testing.T) {
	l := []rune{0xd800, 0x110000, -1}
	if b := Encode(l); string(b) != "\xef\xbf\xbd\xef\xbf\xbd\xef\xbf\xbd" {
		t.Errorf("% x", b)
	}
	if !slices.Equal(l, []rune{0xd800, 0x110000, -1}) {
		t.Errorf("%x", l)
	}
	if b := Encode([]rune{0x61, 0xe9, -5, 0x20ac, 0x1f600}); string(b) != "\x61\xc3\xa9\xef\xbf\xbd\xe2\x82\xac\xf0\x9f\x98\x80" {
		t.Errorf("% x", b)
	}
	if len(Encode(nil)) != 0 || len(Encode([]rune{})) != 0 {
		t.Error("bytes of nothing")
	}
}

// P1.4: there and back again.
func TestThereAndBack(t *testing.T) {
	var l []rune
	for r := rune(0); r <= api.MaxRune; r++ {
		if utf8.ValidRune(r) {
			l = append(l, r)
		}
	}
	if !slices.Equal(Decode(Encode(l)), l) {
		t.Error("Decode of Encode has other runes")
	}
	for _, s := range someInputs() {
		l := Decode([]byte(s))
		if slices.Contains(l, Bad) {
			continue
		}
		if b := Encode(l); string(b) != s {
			t.Fatalf("% x: % x", s, b)
		}
	}
}

// P1.4, P0.2: wherever bytes are cut, the runes are the same, and so is what is pending.
func TestCuts(t *testing.T) {
	for _, s := range someInputs() {
		var whole Decoder
		want := whole.Feed([]byte(s))
		for _, r := range slices.Concat(want, Decode([]byte(s))) {
			if !Valid(r) {
				t.Fatalf("% x: the rune %x", s, r)
			}
		}
		for i := range len(s) + 1 {
			for k := i; k <= len(s); k++ {
				var d Decoder
				l := d.Feed([]byte(s[:i]))
				l = append(l, d.Feed([]byte(s[i:k]))...)
				l = append(l, d.Feed([]byte(s[k:]))...)
				if !slices.Equal(l, want) || !slices.Equal(d.Pending(), whole.Pending()) {
					t.Fatalf("% x, cut at %d and %d: %x, pending % x; want %x, % x", s, i, k, l, d.Pending(), want, whole.Pending())
				}
			}
		}
	}
}
