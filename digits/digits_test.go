package digits

import (
	"math/big"
	"regexp"
	"slices"
	"strings"
	"testing"

	"scrim/api"
	"scrim/ratio"
)

// limbs are how great a whole value is, by another way than the package's: none of 0 on top.
func limbs(v *big.Int) []uint32 {
	all := new(big.Int).Abs(v).FillBytes(make([]byte, 4*((v.BitLen()+31)/32)))
	var l []uint32
	for b := range slices.Chunk(all, 4) {
		l = append(l, uint32(b[0])<<24|uint32(b[1])<<16|uint32(b[2])<<8|uint32(b[3]))
	}
	slices.Reverse(l)
	return l
}

// num is a value's number, as chapter 4 wants it; the library holds it in lowest terms.
func num(v *big.Rat) api.Num {
	return api.Num{Neg: v.Sign() < 0, Top: limbs(v.Num()), Bot: limbs(v.Denom())}
}

// text is a value's text, written by the library.
func text(v *big.Rat) string {
	return strings.NewReplacer("-", "¯", "/", "r").Replace(v.RatString())
}

// rat is the value of a text such as -3/2.
func rat(s string) *big.Rat {
	v, ok := new(big.Rat).SetString(s)
	if !ok {
		panic("no number: " + s)
	}
	return v
}

// near is 2 to a power, and some more, or less.
func near(bits uint, off int64) *big.Int {
	v := new(big.Int).Lsh(big.NewInt(1), bits)
	return v.Add(v, big.NewInt(off))
}

// ten is 10 to a power.
func ten(n int64) *big.Int { return new(big.Int).Exp(big.NewInt(10), big.NewInt(n), nil) }

// by is a value by another one.
func by(p, q *big.Int) *big.Rat { return new(big.Rat).SetFrac(p, q) }

// fits tells whether a value has no more limbs than may be.
func fits(v *big.Rat) bool {
	return v.Num().BitLen() <= 32*api.MaxLimbs && v.Denom().BitLen() <= 32*api.MaxLimbs
}

// values are values of all sorts that have right numbers, each of both signs, and 0.
func values() []*big.Rat {
	l := []*big.Rat{new(big.Rat)}
	add := func(v *big.Rat) { l = append(l, v, new(big.Rat).Neg(v)) }
	for p := int64(1); p < 30; p++ {
		for q := int64(1); q < 30; q++ {
			add(big.NewRat(p, q))
		}
	}
	for _, s := range []string{
		"100", "1000000000", "999999999", "1000000001", "4294967295", "4294967296", "1/4294967296", "4294967295/4294967296", "9223372036854775808", "18446744073709551616", "1/18446744073709551616", "1/1000000000000000000000", "1000000000000000000000/7", "123456789012345678901234567890/1000000007",
	} {
		add(rat(s))
	}
	one := big.NewInt(1)
	for _, bits := range []uint{1, 31, 32, 33, 64, 500, 600, 659, 660, 661, 662, 663, 664, 665, 670, 992, 1023} {
		for _, off := range []int64{-1, 0, 1} {
			v := near(bits, off)
			add(by(v, one))
			add(by(one, v))
			add(by(v, near(bits, off+2)))
			add(by(big.NewInt(7), v))
		}
	}
	// The texts of these have just 400 bytes, and one more.
	add(by(ten(199), new(big.Int).Add(ten(198), one)))
	add(by(ten(199), new(big.Int).Add(ten(199), one)))
	full := near(1024, -1)
	add(by(full, one))
	add(by(one, full))
	add(by(full, near(1024, -3)))
	add(by(near(1024, -3), full))
	return l
}

// told looks at an answer of Parse, which must be a value's number, or, where the value is too great, Limit.
func told(t *testing.T, s string, want *big.Rat) {
	t.Helper()
	if !fits(want) {
		refused(t, s, api.Limit)
		return
	}
	if n, e := Parse(s); e != api.OK || !ratio.Same(n, num(want)) || !ratio.Right(n) {
		t.Errorf("Parse(%q) = %v, %v", s, n, e)
	}
}

// refused looks at an answer of Parse that must be an error, beside the zero value.
func refused(t *testing.T, s string, want api.Errno) {
	t.Helper()
	if n, e := Parse(s); e != want || n.Neg || len(n.Top) != 0 || len(n.Bot) != 0 {
		t.Errorf("Parse(%q) = %v, %v, not %v", s, n, e, want)
	}
}

// mayBe is what a text that may be looks like.
var mayBe = regexp.MustCompile(`^(¯?)([0-9]+)(?:r([0-9]+)|\.([0-9]+))?$`)

// check looks at what Parse answers to any text, against another way to read it.
func check(t *testing.T, s string) {
	t.Helper()
	parts := mayBe.FindStringSubmatch(s)
	switch {
	case len(strings.TrimPrefix(s, "¯")) > 400:
		refused(t, s, api.Limit)
	case parts == nil:
		refused(t, s, api.Syntax)
	case parts[3] != "" && strings.Trim(parts[3], "0") == "":
		refused(t, s, api.Domain)
	default:
		v := rat(parts[2] + parts[4])
		if parts[3] != "" {
			v.Quo(v, rat(parts[3]))
		}
		v.Quo(v, new(big.Rat).SetInt(ten(int64(len(parts[4])))))
		if parts[1] != "" {
			v.Neg(v)
		}
		told(t, s, v)
	}
}

// The words of 5.1 and 5.2: how the sign is written, and how many bytes there may be.
func TestConstants(t *testing.T) {
	if High != "\xc2\xaf" || Most != 400 {
		t.Error(High, Most)
	}
}

// 5.1: Print at numbers that are written out: below 0 and above, whole ones and others.
func TestPrint(t *testing.T) {
	for s, want := range map[string]string{
		"0": "0", "1": "1", "-1": "¯1", "7": "7", "10": "10", "100": "100", "-12": "¯12", "1/2": "1r2", "-3/2": "¯3r2", "5/6": "5r6", "-1/10": "¯1r10", "10/3": "10r3", "100/101": "100r101",
		"4294967296": "4294967296", "-4294967296": "¯4294967296", "1/4294967296": "1r4294967296", "-4294967297/4294967296": "¯4294967297r4294967296", "1000000000": "1000000000", "1/1000000000": "1r1000000000", "123456789012345678901234567890": "123456789012345678901234567890",
	} {
		if got := Print(num(rat(s))); got != want {
			t.Errorf("Print(%s) = %q, not %q", s, got, want)
		}
	}
	if got := Print(api.Num{Top: []uint32{}, Bot: []uint32{1}}); got != "0" {
		t.Errorf("Print of an empty list by 1 = %q", got)
	}
}

// 5.1: Print of numbers of all sizes, up to 32 limbs on either side of the stroke.
func TestPrintValues(t *testing.T) {
	for _, v := range values() {
		if got := Print(num(v)); got != text(v) {
			t.Errorf("Print(%s) = %q", v, got)
		}
	}
	full := Print(num(by(near(1024, -1), near(1024, -3))))
	if len(full) != 309+1+309 || Print(num(by(near(1024, -1), big.NewInt(-1)))) != "¯"+full[:309] {
		t.Errorf("32 limbs by 32: %q", full)
	}
}

// 5.2: Parse at texts that are written out, and not in the one way that Print tells.
func TestParse(t *testing.T) {
	for s, want := range map[string]string{
		"0": "0", "00": "0", "000000": "0", "1": "1", "007": "7", "0100": "100", "¯5": "-5", "¯005": "-5", "¯0": "0", "¯000": "0", "¯0r5": "0", "¯0.0": "0", "¯00.000": "0",
		"6r4": "3/2", "¯6r4": "-3/2", "3r2": "3/2", "10r5": "2", "¯10r5": "-2", "0r7": "0", "006r004": "3/2", "5r1": "5", "7r7": "1", "2r4": "1/2", "0r007": "0",
		"1.5": "3/2", "¯1.5": "-3/2", "1.50": "3/2", "0.25": "1/4", "3.000": "3", "3.0": "3", "00.5": "1/2", "0.0": "0", "1.05": "21/20", "10.01": "1001/100", "0.001": "1/1000", "¯0.001": "-1/1000", "0.10": "1/10", "12.345": "12345/1000", "9.9": "99/10", "0.3": "3/10", "1.0000000001": "10000000001/10000000000",
		"123456789012345678901234567890": "123456789012345678901234567890", "¯4294967296r6": "-2147483648/3", "4294967296.5": "8589934593/2",
	} {
		told(t, s, rat(want))
	}
}

// 5.2: texts that may not be, each of which is Syntax.
func TestParseSyntax(t *testing.T) {
	for _, s := range []string{
		"", "¯", "¯¯", "¯¯1", "¯¯¯1", "1¯", "1¯1", "1r¯2", "1.¯5", "¯1r¯2", "1¯r2", "1¯.5", "¯ 1", "\xc2", "\xaf", "\xc25", "\xaf5", "\xaf\xc25", "5\xc2", "5\xaf", "\xc2\xc2\xaf5", "\xc2\xaf\xaf5", "¯\xc25",
		"r", "r2", "1r", "¯r2", "¯1r", "1rr2", "1r2r3", "1r2r", "r1r2", "1R2", "1/2", "1r ", " 1r2", "1 r2", "1r 2", "1r0x", "xr0", "r0", "0r", "1r0r0", "1r00.0",
		".", ".5", "1.", "¯.5", "¯1.", "1..2", "1.2.3", "1.2.", ".1.2", "1,5", "1. 5", "1 .5", "1.x", "x.1", "1.5x", "x1.5", "0.", ".0",
		"1.5r2", "1r2.5", "1.r2", "1r.2", "1r2.", ".1r2", "1.5r0", "1r0.5", "1.5r2.5", ".r", "r.", "1.r", "r.1",
		"-5", "+5", "- 5", "¯-5", "-¯5", "−5", "1 ", " 1", "1\n", "\n1", "1\x00", "\x001", "1e5", "1E5", "0x1", "1_000", "1'000", "a", "12a", "a12", "１", "٣", "1²", "½", "∞", "¯∞", "Inf", "NaN", "1;", "1/", "9:", "/1", ":1",
	} {
		refused(t, s, api.Syntax)
	}
}

// 5.2: by 0, however often it is written, is Domain.
func TestParseDomain(t *testing.T) {
	for _, s := range []string{"1r0", "0r0", "¯1r0", "¯0r0", "7r000", "000r000", "123456789012345678901234567890r0", near(1024, 0).String() + "r0", "1r" + strings.Repeat("0", 398), strings.Repeat("9", 398) + "r0"} {
		refused(t, s, api.Domain)
	}
}

// 5.2: texts of just 400 bytes, but for the ¯, and of one more, which are Limit, whatever else they are.
func TestParseBytes(t *testing.T) {
	type row struct {
		head, tail string
		e          api.Errno
	}
	for _, r := range []row{
		{"", "7", api.OK}, {"7r", "7", api.OK}, {"14r", "7", api.OK}, {"", "3.5", api.OK}, {"", "6r4", api.OK}, {"", "", api.OK}, {"3.", "", api.OK}, {"3.5", "", api.OK}, {"3r", "2", api.OK}, {"0.", "", api.OK},
		{"1r", "", api.Domain}, {"", "r0", api.Domain}, {"", "1r0", api.Domain},
		{"1", "", api.Limit}, {"1", "r3", api.Limit}, {"1", ".5", api.Limit}, {"0.", "1", api.Limit}, {"1r1", "", api.Limit},
		{"", "r", api.Syntax}, {"", ".", api.Syntax}, {"r", "1", api.Syntax}, {".", "1", api.Syntax}, {"", " ", api.Syntax}, {"x", "", api.Syntax}, {"-", "", api.Syntax}, {"", "\xff", api.Syntax}, {"1.", "r2", api.Syntax}, {"", "¯", api.Syntax},
	} {
		for _, sign := range []string{"", "¯"} {
			zeros := Most - len(r.head) - len(r.tail)
			whole := r.head + strings.Repeat("0", zeros) + r.tail
			if _, e := Parse(sign + whole); len(whole) != 400 || e != r.e {
				t.Errorf("%q, %d bytes: %v", sign+whole, len(whole), e)
			}
			check(t, sign+whole)
			refused(t, sign+r.head+strings.Repeat("0", zeros+1)+r.tail, api.Limit)
			check(t, sign+r.head+strings.Repeat("0", zeros-1)+r.tail)
		}
	}
	// Only the ¯ ahead is not counted.
	refused(t, "¯¯"+strings.Repeat("0", 398), api.Syntax)
	refused(t, "¯¯"+strings.Repeat("0", 399), api.Limit)
	refused(t, "\xc2"+strings.Repeat("0", 399), api.Syntax)
	refused(t, "\xc2"+strings.Repeat("0", 400), api.Limit)
	refused(t, strings.Repeat("¯", 201), api.Syntax)
	refused(t, strings.Repeat("¯", 202), api.Limit)
}

// 5.2: numbers that are just as great as may be, and greater, whose error is ratio.Make's: they are looked at in lowest terms.
func TestParseLimit(t *testing.T) {
	type row struct {
		s string
		e api.Errno
	}
	full, more := near(1024, -1).String(), near(1024, 0).String()
	rows := []row{
		{full, api.OK}, {more, api.Limit}, {"1r" + full, api.OK}, {"1r" + more, api.Limit}, {more + "r2", api.OK}, {"2r" + more, api.OK}, {near(1025, 0).String() + "r2", api.Limit}, {"2r" + near(1025, 0).String(), api.Limit}, {more + "r3", api.Limit}, {"3r" + more, api.Limit}, {full + "r2", api.OK}, {"0r" + more, api.OK},
		{more + "r" + near(270, 0).String(), api.OK}, {"00" + full, api.OK}, {"00" + more, api.Limit}, {full + ".0", api.OK}, {full + ".5", api.Limit}, {more + ".0", api.Limit}, {full + ".", api.Syntax}, {more + "r", api.Syntax}, {more + "x", api.Syntax}, {more + "r0", api.Domain},
		{"0." + strings.Repeat("0", 307) + "1", api.OK}, {"0." + strings.Repeat("0", 308) + "1", api.Limit}, {"0." + strings.Repeat("0", 308) + "8", api.OK}, {"0." + strings.Repeat("0", 398), api.OK}, {"1." + strings.Repeat("0", 398), api.OK}, {"0.5" + strings.Repeat("0", 397), api.OK}, {"1" + strings.Repeat("0", 308), api.OK}, {"1" + strings.Repeat("0", 309), api.Limit}, {"0." + strings.Repeat("9", 308), api.OK}, {"0." + strings.Repeat("9", 309), api.Limit}, {strings.Repeat("9", 308), api.OK}, {strings.Repeat("9", 309), api.Limit},
	}
	for _, r := range rows {
		for _, sign := range []string{"", "¯"} {
			if _, e := Parse(sign + r.s); e != r.e {
				t.Errorf("Parse(%q): %v, not %v", sign+r.s, e, r.e)
			}
			check(t, sign+r.s)
		}
	}
}

// 5.2: all texts of one byte, of two, and of three, one of which is what a number's text is made of.
func TestParseShortTexts(t *testing.T) {
	for a := range 256 {
		one := string([]byte{byte(a)})
		check(t, one)
		check(t, "¯"+one)
		for b := range 256 {
			two := string([]byte{byte(a), byte(b)})
			check(t, two)
			check(t, "1"+two)
			check(t, two+"1")
			check(t, one+"r"+two[1:])
			check(t, one+"."+two[1:])
			check(t, one+"¯"+two[1:])
		}
	}
}

// 5.2: all texts of up to six of the parts of which numbers' texts are made, and of some that don't belong there.
func TestParseTextsOfParts(t *testing.T) {
	parts := []string{"0", "1", "6", "r", ".", "¯", "\xc2", "-"}
	texts := []string{""}
	for range 6 {
		var longer []string
		for _, s := range texts {
			for _, part := range parts {
				check(t, s+part)
				longer = append(longer, s+part)
			}
		}
		texts = longer
	}
}

// 5.3: what is printed of a number is parsed as it; of one whose text has more than 400 bytes there is Limit, as 5.2 says.
func TestPrintAndBack(t *testing.T) {
	most, longer := 0, 0
	for _, v := range values() {
		s := Print(num(v))
		if unsigned := len(strings.TrimPrefix(s, High)); unsigned > Most {
			longer++
			refused(t, s, api.Limit)
			continue
		} else if unsigned == Most {
			most++
		}
		told(t, s, v)
	}
	if most == 0 || longer == 0 {
		t.Error("texts of just 400 bytes:", most, "longer ones:", longer)
	}
}

// R4 and R5: what is handed in stays as it is, answers are new memory, and come again.
func TestSharesNothing(t *testing.T) {
	for _, s := range []string{"0", "¯7", "3r2", "5r5", "¯1.5", "0.0", "18446744073709551616r4294967297", "1.00", "7r1"} {
		want, e := Parse(s)
		if e != api.OK {
			t.Fatal(s, e)
		}
		n, _ := Parse(s)
		other, _ := Parse(s)
		for i := range n.Top[:cap(n.Top)] {
			n.Top[:cap(n.Top)][i] = 12345
		}
		again, _ := Parse(s)
		if !slices.Equal(n.Bot, want.Bot) || !ratio.Same(other, want) || !ratio.Same(again, want) {
			t.Error(s, n, other, again)
		}
	}
	for _, v := range values() {
		// Behind the end lie limbs that would make the number another one.
		n := num(v)
		top, bot := append(slices.Clone(n.Top), 7, 9), append(slices.Clone(n.Bot), 8, 6)
		in := api.Num{Neg: n.Neg, Top: top[:len(n.Top)], Bot: bot[:len(n.Bot)]}
		if s := Print(in); s != text(v) || Print(in) != s {
			t.Error(v, s)
		}
		if !slices.Equal(top, append(slices.Clone(n.Top), 7, 9)) || !slices.Equal(bot, append(slices.Clone(n.Bot), 8, 6)) {
			t.Error(v, "what was handed in is changed")
		}
	}
}

// P1: long texts end, without a panic.
func TestLong(t *testing.T) {
	const many = 1 << 22
	for _, part := range []string{"0", "9", "r", ".", "¯", "\xc2", "x", "1r", "1."} {
		refused(t, strings.Repeat(part, many), api.Limit)
		refused(t, High+strings.Repeat(part, many), api.Limit)
	}
}
