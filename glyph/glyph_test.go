package glyph

import (
	"math"
	"slices"
	"strings"
	"testing"
)

// isOne tells whether a number is a character's, in the chapter's words.
func isOne(c int) bool {
	return c >= 0 && c <= 0x10FFFF && !(c >= 0xD800 && c <= 0xDFFF)
}

// bytesOf is a character as UTF-8, six bits after the other, in the chapter's words; the library has no part in it.
func bytesOf(c int) string {
	six := func(shift int) byte { return byte(0x80 + c>>shift&0x3F) }
	switch {
	case c < 0x80:
		return string([]byte{byte(c)})
	case c < 0x800:
		return string([]byte{byte(0xC0 + c>>6), six(0)})
	case c < 0x10000:
		return string([]byte{byte(0xE0 + c>>12), six(6), six(0)})
	}
	return string([]byte{byte(0xF0 + c>>18), six(12), six(6), six(0)})
}

// everyone are all characters there are, rising.
func everyone() []int {
	var l []int
	for c := range 0x110000 {
		if isOne(c) {
			l = append(l, c)
		}
	}
	return l
}

// edges are numbers on both sides of each border that the chapter names, with what is told of them written by hand.
var edges = []struct {
	c     int
	bytes string // none: it is no character
}{
	{math.MinInt, ""}, {-0x110000, ""}, {-65, ""}, {-1, ""},
	{0, "\x00"}, {1, "\x01"}, {0x41, "\x41"}, {0x7F, "\x7F"},
	{0x80, "\xC2\x80"}, {0xAF, "\xC2\xAF"}, {0x7FF, "\xDF\xBF"},
	{0x800, "\xE0\xA0\x80"}, {0x2374, "\xE2\x8D\xB4"}, {0xD7FF, "\xED\x9F\xBF"},
	{0xD800, ""}, {0xD801, ""}, {0xDBFF, ""}, {0xDC00, ""}, {0xDFFF, ""},
	{0xE000, "\xEE\x80\x80"}, {0xFFFC, "\xEF\xBF\xBC"}, {0xFFFD, "\xEF\xBF\xBD"}, {0xFFFE, "\xEF\xBF\xBE"}, {0xFFFF, "\xEF\xBF\xBF"},
	{0x10000, "\xF0\x90\x80\x80"}, {0x1D11E, "\xF0\x9D\x84\x9E"}, {0xFFFFF, "\xF3\xBF\xBF\xBF"}, {0x10FFFF, "\xF4\x8F\xBF\xBF"},
	{0x110000, ""}, {0x110041, ""}, {math.MaxInt32, ""}, {math.MinInt32, ""}, {math.MaxInt, ""},
	// Those whose lowest 8, 16 or 32 bits alone would be a character.
	{1<<32 + 0x41, ""}, {1<<32 + 0x2374, ""}, {1<<62 + 0x2B, ""}, {math.MinInt + 0x41, ""},
}

// 6.1: whether there is a character, at each edge and at every number between and around them.
func TestMay(t *testing.T) {
	for _, e := range edges {
		if got := May(e.c); got != (e.bytes != "") {
			t.Errorf("%x: %v", e.c, got)
		}
	}
	for c := -0x1000; c < 0x120000; c++ {
		if got := May(c); got != isOne(c) {
			t.Errorf("%x: %v", c, got)
		}
	}
}

// 6.1: the bytes of one character, at each edge: nothing and false, if it is none.
func TestEncodeEdges(t *testing.T) {
	for _, e := range edges {
		if s, ok := Encode([]int{e.c}); s != e.bytes || ok != (e.bytes != "") {
			t.Errorf("%x: %x %v", e.c, s, ok)
		}
	}
}

// 6.1: the character of its bytes, at each edge.
func TestDecodeEdges(t *testing.T) {
	for _, e := range edges {
		if e.bytes == "" {
			continue
		}
		if l, at := Decode(e.bytes); at != -1 || !slices.Equal(l, []int{e.c}) {
			t.Errorf("%x: %x %d", e.bytes, l, at)
		}
	}
}

// 6.1: no characters have no bytes, nil or empty, and no bytes are no characters.
func TestNothing(t *testing.T) {
	for _, l := range [][]int{nil, {}} {
		if s, ok := Encode(l); s != "" || !ok {
			t.Errorf("%v: %q %v", l, s, ok)
		}
	}
	if l, at := Decode(""); len(l) != 0 || at != -1 {
		t.Error(l, at)
	}
}

// 6.1: bytes stand one behind the other, as the characters do.
func TestEncodeRow(t *testing.T) {
	for _, tc := range []struct {
		l []int
		s string
	}{
		{[]int{'a', ' ', 0xAF, 0x2374, 0x1D11E}, "a ¯⍴𝄞"},
		{[]int{0x1D11E, 0x2374, 0xAF, ' ', 'a'}, "𝄞⍴¯ a"},
		{[]int{0, 0, 0}, "\x00\x00\x00"},
		{[]int{0xFFFD, 0xFFFD}, "\xEF\xBF\xBD\xEF\xBF\xBD"},
	} {
		if s, ok := Encode(tc.l); s != tc.s || !ok {
			t.Errorf("%x: %x %v", tc.l, s, ok)
		}
		if l, at := Decode(tc.s); !slices.Equal(l, tc.l) || at != -1 {
			t.Errorf("%x: %x %d", tc.s, l, at)
		}
	}
}

// 6.1: nothing and false, whether the first number, one in the middle or the last one is no character.
func TestEncodeNone(t *testing.T) {
	for _, e := range edges {
		if e.bytes != "" {
			continue
		}
		for place := range 5 {
			l := []int{'a', 0xAF, 0x2374, 0x1D11E, 'z'}
			l[place] = e.c
			if s, ok := Encode(l); s != "" || ok {
				t.Errorf("%x: %q %v", l, s, ok)
			}
		}
	}
	if s, ok := Encode([]int{-1, -1, 0xD800}); s != "" || ok {
		t.Errorf("%q %v", s, ok)
	}
}

// none are bytes with which no character begins.
var none = []string{
	"\x80", "\xBF", "\x80\x80", "\xBFa", // from 80 to BF with none ahead
	"\xC2", "\xDF", "\xC2a", "\xC2\xC2\x80", "\xC2\xFF", // two bytes, of which the second one is missing
	"\xE2", "\xE2\x8D", "\xE2a", "\xE2\x8Da", "\xE2\x8D\xE2\x8D\xB4", "\xE2\xC2\x80", "\xEF\xBF", "\xEF", "\xEF\xBFa",
	"\xF0", "\xF0\x9D", "\xF0\x9D\x84", "\xF0\x9D\x84a", "\xF0a", "\xF0\x9Da", "\xF0\x9D\x84\xF0\x9D\x84\x9E",
	"\xC0\x80", "\xC0\xAF", "\xC1\x81", "\xC1\xBF", // in more bytes than there need be
	"\xE0\x80\x80", "\xE0\x81\x81", "\xE0\x9F\xBF", "\xF0\x80\x80\x80", "\xF0\x80\x81\x81", "\xF0\x82\x8D\xB4", "\xF0\x8F\xBF\xBF",
	"\xF8\x80\x80\x80\x80", "\xF8\x88\x80\x80\x80", "\xFC\x80\x80\x80\x80\x80", "\xFC\x84\x80\x80\x80\x80",
	"\xED\xA0\x80", "\xED\xAF\xBF", "\xED\xB0\x80", "\xED\xBF\xBF", "\xED\xA0\xB4\xED\xB4\x9E", // D800 to DFFF
	"\xF4\x90\x80\x80", "\xF4\xBF\xBF\xBF", "\xF5\x80\x80\x80", "\xF7\xBF\xBF\xBF", // more than 10FFFF
	"\xFE", "\xFF", "\xFF\xFE", "\xFE\xFF",
}

// 6.1: of bytes that are no character's the place is told, and the characters ahead of it, of one, two, three and four bytes, FFFD among them; what stands behind doesn't matter.
func TestDecodeNone(t *testing.T) {
	aheads := [][]int{nil, {'a'}, {0xAF}, {0x2374}, {0x1D11E}, {'a', 0xAF, 0x2374, 0x1D11E}, {0x1D11E, 0x2374, 0xAF, 'a'}, {0xFFFD}, {0xFFFD, 'a', 0xFFFD}, {0}}
	for _, bad := range none {
		for _, ahead := range aheads {
			start, ok := Encode(ahead)
			if !ok {
				t.Fatal(ahead)
			}
			for _, behind := range []string{"", "a", "⍴", "\xEF\xBF\xBD", "\xFF"} {
				l, at := Decode(start + bad + behind)
				if at != len(start) || !slices.Equal(l, ahead) {
					t.Errorf("%x: %x %d", start+bad+behind, l, at)
				}
			}
		}
	}
}

// 6.1: the character FFFD is no error, wherever it stands; what a range over a text tells FFFD of is one.
func TestReplacement(t *testing.T) {
	for s, want := range map[string]int{
		"\xEF\xBF\xBD":                     -1,
		"a\xEF\xBF\xBDb\xEF\xBF\xBD":       -1,
		"\xEF\xBF\xBD\xEF\xBF":             3,
		"\xEF\xBF\xBD\xBD":                 3,
		"\xEF\xBF\xEF\xBF\xBD":             0,
		"\xFF\xEF\xBF\xBD":                 0,
		"\xEF\xBF\xBD\xFF\xEF\xBF\xBD\xFF": 3,
	} {
		if l, at := Decode(s); at != want {
			t.Errorf("%x: %x %d", s, l, at)
		}
	}
}

// model reads bytes by a list of all characters' bytes alone.
func model(all map[string]int, s string) ([]int, int) {
	var l []int
	at := 0
next:
	for at < len(s) {
		for n := 1; n <= 4 && at+n <= len(s); n++ {
			if c, ok := all[s[at:at+n]]; ok {
				l = append(l, c)
				at += n
				continue next
			}
		}
		return l, at
	}
	return l, -1
}

// 6.1: all texts of one and two bytes, and those of three to five of the bytes at which something changes, against a list of all characters' bytes.
func TestDecodeModel(t *testing.T) {
	all := map[string]int{}
	for _, c := range everyone() {
		all[bytesOf(c)] = c
	}
	check := func(s string) {
		l, at := Decode(s)
		want, place := model(all, s)
		if at != place || !slices.Equal(l, want) {
			t.Fatalf("%x: %x %d, not %x %d", s, l, at, want, place)
		}
	}
	for b := range 0x10000 {
		check(string([]byte{byte(b)}))
		check(string([]byte{byte(b >> 8), byte(b)}))
	}
	heads := "\x00\x7F\x80\xBF\xC0\xC1\xC2\xDF\xE0\xE1\xEC\xED\xEE\xEF\xF0\xF1\xF3\xF4\xF5\xF8\xFF"
	tails := "\x41\x7F\x80\x8F\x90\x9F\xA0\xBD\xBF\xC2\xFF"
	for i := range len(heads) {
		for j := range len(tails) {
			for k := range len(tails) {
				s := string([]byte{heads[i], tails[j], tails[k]})
				check(s)
				for m := range len(tails) {
					check(s + tails[m:m+1])
					check("⍴" + s + tails[m:m+1] + "\x80")
				}
			}
		}
	}
}

// chapter are the classes' characters by their numbers, as the chapter lists them; letters and digits stand apart.
var chapter = map[int][]int{
	Blank: {0x20, 0x09},
	Function: {0x2B, 0x2D, 0xD7, 0xF7, 0x2308, 0x230A, 0x7C, 0x2A, 0x21, 0x7E, 0x3C, 0x2264, 0x3D, 0x2265, 0x3E, 0x2260, 0x2227, 0x2228, 0x2374, 0x2C,
		0x236A, 0x233D, 0x2296, 0x2349, 0x2191, 0x2193, 0x2282, 0x2283, 0x2261, 0x2262, 0x2373, 0x220A, 0x222A, 0x2229, 0x2378, 0x234B, 0x2352, 0x22A2, 0x22A3},
	Operator: {0x2F, 0x233F, 0x5C, 0x2340, 0xA8, 0x2368, 0x2364, 0x2363, 0x2218, 0x2E},
	Mark:     {0x28, 0x29, 0x5B, 0x5D, 0x7B, 0x7D, 0x3B, 0x3A, 0x22C4, 0x2190, 0x237A, 0x2375, 0x2207, 0x2395, 0x235E, 0x27, 0x235D},
}

// classes are all characters that have a class, with it.
func classes() map[int]int {
	of := map[int]int{0x5F: Letter, 0xAF: Digit}
	for i := range 26 {
		of[0x61+i], of[0x41+i] = Letter, Letter
	}
	for i := range 10 {
		of[0x30+i] = Digit
	}
	for class, l := range chapter {
		for _, c := range l {
			of[c] = class
		}
	}
	return of
}

// 6.2: the classes' numbers.
func TestClassNumbers(t *testing.T) {
	if None != 0 || Blank != 1 || Letter != 2 || Digit != 3 || Function != 4 || Operator != 5 || Mark != 6 {
		t.Error(None, Blank, Letter, Digit, Function, Operator, Mark)
	}
}

// 6.2: the class of every number there is a character of, and of those around; no character is in two classes of the chapter.
func TestClass(t *testing.T) {
	of := classes()
	if len(of) != 2+53+11+39+10+17 {
		t.Fatal("a character stands in two classes:", len(of))
	}
	for c := -0x1000; c < 0x120000; c++ {
		if got := Class(c); got != of[c] {
			t.Errorf("%x: %d, not %d", c, got, of[c])
		}
	}
}

// 6.2: any other number has none, how far away it may be, and even if its lowest bits are those of one that has.
func TestClassNone(t *testing.T) {
	for _, e := range edges {
		if got := Class(e.c); e.bytes == "" && got != None {
			t.Errorf("%x: %d", e.c, got)
		}
	}
	for c := range classes() {
		for _, far := range []int{1 << 21, 1 << 31, 1 << 32, 1 << 62, math.MinInt, -1 << 32, -1 << 16} {
			if got := Class(c + far); got != None {
				t.Errorf("%x: %d", c+far, got)
			}
		}
		if got := Class(-c); got != None {
			t.Errorf("%x: %d", -c, got)
		}
	}
}

// 6.2: neighbours and look-alikes of characters with a class have none.
func TestClassBeside(t *testing.T) {
	for _, c := range "#$%&@^`?\"\n\r\v\f\x00\x7F\u00A0\u0085\u2003áß¼²٣αΩ∣∙•⋅…−⁄’‘′⍬⍫⌹⌷⍠⍕⍎⍱⍲○⊤⊥→⌶⍶⍹∈⋆" {
		if got := Class(int(c)); got != None {
			t.Errorf("%c %x: %d", c, c, got)
		}
	}
	for _, c := range []int{0x60, 0x7B - 0x100, 0x5E, 0x2F - 0x30, 0xAE, 0xB0, 0x0A, 0x08, 0x1F, 0x3F, 0x40} {
		if got := Class(c); got != None {
			t.Errorf("%x: %d", c, got)
		}
	}
}

// 6.3: each character is told again by its bytes, alone and in a row of all.
func TestThereAndBack(t *testing.T) {
	all := everyone()
	var row strings.Builder
	for _, c := range all {
		s, ok := Encode([]int{c})
		if !ok || s != bytesOf(c) {
			t.Fatalf("%x: %x %v", c, s, ok)
		}
		if l, at := Decode(s); at != -1 || len(l) != 1 || l[0] != c {
			t.Fatalf("%x: %x %d", s, l, at)
		}
		row.WriteString(s)
	}
	if s, ok := Encode(all); !ok || s != row.String() {
		t.Error("the row's bytes aren't the characters'")
	}
	if l, at := Decode(row.String()); at != -1 || !slices.Equal(l, all) {
		t.Error("the row's characters aren't those that were told:", at)
	}
}

// 6.3: bytes that are characters' are told again by these; of others the ones ahead of the place are.
func TestBackAndThere(t *testing.T) {
	texts := append(slices.Clone(none), "", "abc", "h←⎕2 ⋄ ⎕1←h ⍝ ¯1.5", "\x00\t\n", "\xEF\xBF\xBD", "a\u0301", "𝄞𝄞\U0010FFFF")
	for _, start := range texts {
		for _, end := range texts {
			s := start + end
			l, at := Decode(s)
			if at == -1 {
				at = len(s)
			}
			if back, ok := Encode(l); !ok || back != s[:at] {
				t.Errorf("%x: %x %v", s, back, ok)
			}
		}
	}
}

// R4: what is handed in is not changed, nor read behind its length, and two answers share no memory.
func TestMemory(t *testing.T) {
	l := []int{'a', 0x2374, -1, 'b'}
	if s, ok := Encode(l[:2]); s != "a⍴" || !ok {
		t.Error(s, ok)
	}
	if s, ok := Encode(l); s != "" || ok || !slices.Equal(l, []int{'a', 0x2374, -1, 'b'}) {
		t.Error(s, ok, l)
	}
	one, _ := Decode("a⍴")
	two, _ := Decode("a⍴")
	one[0] = 'x'
	if _ = append(one[:1], 'y'); !slices.Equal(two, []int{'a', 0x2374}) {
		t.Error(two)
	}
}

// P1 and R5: long texts and rows, right and wrong ones, are told, and the same each time.
func TestLong(t *testing.T) {
	const many = 200000
	s := strings.Repeat("a¯⍴𝄞", many)
	for range 2 {
		l, at := Decode(s)
		if len(l) != 4*many || at != -1 {
			t.Fatal(len(l), at)
		}
		if back, ok := Encode(l); back != s || !ok {
			t.Fatal(len(back), ok)
		}
		if l, at = Decode(s + "\xFF" + s); len(l) != 4*many || at != len(s) {
			t.Fatal(len(l), at)
		}
		if back, ok := Encode(append(l, 0x110000)); back != "" || ok {
			t.Fatal(len(back), ok)
		}
	}
}
