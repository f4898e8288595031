package scalar

import (
	"math"
	"math/big"
	"slices"
	"strings"
	"testing"

	"scrim/api"
	"scrim/digits"
	"scrim/ratio"
)

// The characters of the functions of one number, and of two.
const (
	ofOne = "+-×÷⌈⌊|~!"
	ofTwo = "+-×÷⌈⌊|*∧∨<≤=≥>≠"
)

// near is 2 to a power, and some more, or less.
func near(power uint, off int64) *big.Int {
	v := new(big.Int).Lsh(big.NewInt(1), power)
	return v.Add(v, big.NewInt(off))
}

// longhand is a text, in which G is written out as the greatest number of 32 limbs, T as 2^1023, which has as many, H as T less 1, Q as half of T.
func longhand(text string) string {
	return strings.NewReplacer("G", near(1024, -1).String(), "T", near(1023, 0).String(), "H", near(1023, -1).String(), "Q", near(1022, 0).String()).Replace(text)
}

// num is the number of a text.
func num(text string) api.Num {
	n, e := digits.Parse(longhand(text))
	if e != api.OK {
		panic("no number: " + text)
	}
	return n
}

// toldNumber is an answer as a text: the number's, or the error's name, beside which there is nothing.
func toldNumber(n api.Num, e api.Errno) string {
	switch {
	case e != api.OK && ratio.Same(n, api.Num{}):
		return errorText(e)
	case e == api.OK && ratio.Right(n):
		return digits.Print(n)
	}
	return "what is not right"
}

// errorText is an error's name in short: domain, nonce.
func errorText(e api.Errno) string { return strings.ToLower(strings.TrimSuffix(e.Error(), " ERROR")) }

// strangers are characters that are no functions of one or of two numbers, or those of which only the lowest bits are such.
func strangers() []int {
	var l []int
	for f := -300; f < 0x3000; f++ {
		l = append(l, f)
	}
	for _, f := range ofOne + ofTwo + "\x00" {
		n := int(f)
		l = append(l, n+1<<8, n+1<<16, n+1<<21, n+1<<32, n-1<<32, -n, n|math.MinInt, math.MaxInt-n)
	}
	return l
}

// 10.1, 10.2: which characters are functions of one number, which of two; all others are Nonce, of whatever numbers.
func TestWhichFunctions(t *testing.T) {
	one := []int{0x2B, 0x2D, 0xD7, 0xF7, 0x2308, 0x230A, 0x7C, 0x7E, 0x21}
	two := []int{0x2B, 0x2D, 0xD7, 0xF7, 0x2308, 0x230A, 0x7C, 0x2A, 0x2227, 0x2228, 0x3C, 0x2264, 0x3D, 0x2265, 0x3E, 0x2260}
	for _, f := range append(strangers(), append(one, two...)...) {
		isOne, isTwo := slices.Contains(one, f), slices.Contains(two, f)
		if IsOne(f) != isOne || IsTwo(f) != isTwo {
			t.Error(f, IsOne(f), IsTwo(f))
		}
		for _, n := range []api.Num{num("0"), num("1"), num("¯1"), num("1r2")} {
			if told := toldNumber(Number(f, n)); (told != "nonce") != isOne {
				t.Error(f, n, told)
			}
			if told := toldNumber(Numbers(f, n, num("1"))); (told != "nonce") != isTwo {
				t.Error(f, n, told)
			}
		}
	}
}

// 10.1: the constant.
func TestMostFactor(t *testing.T) {
	if MostFactor != 200 {
		t.Error(MostFactor)
	}
}

// 10.1: each function of one number, by hand: the numbers, and what is told of each, or of all.
func TestNumber(t *testing.T) {
	for _, x := range []struct{ f, numbers, told string }{
		{"+", "0 1 ¯1 7r2 ¯7r2 G ¯G 1rG ¯1rG", "0 1 ¯1 7r2 ¯7r2 G ¯G 1rG ¯1rG"},
		{"-", "0 1 ¯1 7r2 ¯7r2 G ¯G 1rG ¯1rG", "0 ¯1 1 ¯7r2 7r2 ¯G G ¯1rG 1rG"},
		{"×", "0 1 ¯1 7r2 ¯7r2 G ¯G 1rG ¯1rG 5 ¯5", "0 1 ¯1 1 ¯1 1 ¯1 1 ¯1 1 ¯1"},
		{"÷", "1 ¯1 2r3 ¯2r3 5 ¯5 1r5 G ¯G 1rG ¯1rG", "1 ¯1 3r2 ¯3r2 1r5 ¯1r5 5 1rG ¯1rG G ¯G"},
		{"÷", "0", "domain"},
		{"⌈", "0 1 ¯1 7r2 ¯7r2 1r2 ¯1r2 7r3 8r3 ¯7r3 ¯8r3 G ¯G 1rG ¯1rG Gr2 ¯Gr2", "0 1 ¯1 4 ¯3 1 0 3 3 ¯2 ¯2 G ¯G 1 0 T ¯H"},
		{"⌊", "0 1 ¯1 7r2 ¯7r2 1r2 ¯1r2 7r3 8r3 ¯7r3 ¯8r3 G ¯G 1rG ¯1rG Gr2 ¯Gr2", "0 1 ¯1 3 ¯4 0 ¯1 2 2 ¯3 ¯3 G ¯G 0 ¯1 H ¯T"},
		{"|", "0 1 ¯1 5 ¯5 7r2 ¯7r2 G ¯G 1rG ¯1rG", "0 1 1 5 5 7r2 7r2 G G 1rG 1rG"},
		{"~", "0 1", "1 0"},
		{"~", "¯1 2 ¯2 1r2 ¯1r2 3r2 G ¯G 1rG 4294967296 4294967297 18446744073709551616 18446744073709551617", "domain"},
		{"!", "0 1 2 3 5 20 21", "1 1 2 6 120 2432902008176640000 51090942171709440000"},
		{"!", "¯1 ¯2 ¯200 ¯201 ¯G 1r2 ¯1r2 3r2 401r2 1rG ¯1rG Gr2 ¯Gr2 ¯9223372036854775808 ¯18446744073709551616", "domain"},
		{"!", "171 199 200 201 202 1000 4294967296 4294967297 9223372036854775807 9223372036854775808 18446744073709551616 18446744073709551621 T G", "limit"},
		{"*∧∨<≤=≥>≠⍴x⌽", "0 1 2 ¯1 1r2 ¯G 1rG", "nonce"},
	} {
		numbers, told := strings.Fields(x.numbers), strings.Fields(longhand(x.told))
		if len(told) != 1 && len(told) != len(numbers) {
			t.Fatal("a slip:", x)
		}
		for _, f := range x.f {
			for i, text := range numbers {
				if got, want := toldNumber(Number(int(f), num(text))), told[i%len(told)]; got != want {
					t.Error(string(f), text, "is", got, "not", want)
				}
			}
		}
	}
}

// 10.1: the factorials, as long as they have no more limbs than may be, and beyond.
func TestFactorials(t *testing.T) {
	last := 0
	for n := range 260 {
		want := new(big.Int).MulRange(1, int64(n))
		told := toldNumber(Number('!', ratio.Of(n)))
		if n > 200 || want.BitLen() > 32*api.MaxLimbs {
			if told != "limit" {
				t.Error(n, told)
			}
			continue
		}
		last = n
		if told != want.String() {
			t.Error(n, told)
		}
	}
	if last != 170 {
		t.Error(last)
	}
}

// 10.2: each function of two numbers, by hand: the one, the other one, and what is told.
func TestNumbers(t *testing.T) {
	for _, x := range []struct{ f, told string }{
		{"+", "0 0 0; 1 2 3; 1r2 1r3 5r6; ¯1r2 1r2 0; 5 ¯7 ¯2; G 0 G; H T G; G 1 limit; ¯G ¯1 limit; ¯G 1r2 limit; 1rG 1rT limit"},
		{"-", "0 0 0; 1 2 ¯1; 2 1 1; 1r2 1r3 1r6; 1r3 1r2 ¯1r6; 5 ¯7 12; 0 G ¯G; G G 0; G H T; ¯G 1 limit; G ¯1 limit"},
		{"×", "0 5 0; 1 7 7; ¯1 7 ¯7; 2r3 3r4 1r2; ¯2r3 ¯3 2; G 1 G; G 1rG 1; Q 2 T; T 1r2 Q; G 2 limit; T 2 limit; 1rT 1r2 limit; 1rG 1r2 limit"},
		{"÷", "0 5 0; 6 4 3r2; 4 6 2r3; 1 ¯2 ¯1r2; ¯3 ¯3 1; 1r2 1r3 3r2; G G 1; T 2 Q; 1 G 1rG; T 1r2 limit; 1rT 2 limit; 0 0 domain; 1 0 domain; ¯1 0 domain; 1r2 0 domain; G 0 domain"},
		{"⌈", "2 5r2 5r2; 5r2 2 5r2; ¯2 ¯5r2 ¯2; ¯5r2 ¯2 ¯2; ¯1 1 1; 1 ¯1 1; 0 0 0; 3 3 3; 0 ¯1rG 0; G T G; ¯G ¯T ¯T; 1rG 1rT 1rT"},
		{"⌊", "2 5r2 2; 5r2 2 2; ¯2 ¯5r2 ¯5r2; ¯5r2 ¯2 ¯5r2; ¯1 1 ¯1; 1 ¯1 ¯1; 0 0 0; 3 3 3; 0 ¯1rG ¯1rG; G T T; ¯G ¯T ¯G; 1rG 1rT 1rG"},
		{"|", "3 ¯7 2; 3 7 1; ¯3 7 ¯2; ¯3 ¯7 ¯1; 7 3 3; 0 5 5; 0 ¯5r2 ¯5r2; 0 0 0; 5 0 0; 1 7r2 1r2; 1 ¯7r2 1r2; 1r2 2r3 1r6; 0 G G; G G 0; 2 G 1; G 1 1; T ¯1 H; ¯T 1 ¯H; 1r2 T limit; 2 1rT limit"},
		{"*", "2 ¯3 1r8; 2 10 1024; 0 0 1; 0 5 0; 5 0 1; ¯2 3 ¯8; ¯2 ¯3 ¯1r8; ¯2 4 16; 2r3 2 4r9; 2r3 ¯2 9r4; ¯2r3 ¯3 ¯27r8; 2 1023 T; 2 ¯1023 1rT; 1r2 1023 1rT; G 1 G; G ¯1 1rG; 1 9223372036854775807 1; ¯1 9223372036854775807 ¯1; ¯1 ¯9223372036854775807 ¯1; 0 9223372036854775807 0"},
		{"*", "2 1024 limit; 1r2 1024 limit; 2 ¯1024 limit; G 2 limit; ¯G 2 limit; 2 9223372036854775807 limit; 0 ¯1 domain; 0 ¯9223372036854775808 domain; 1 ¯9223372036854775808 domain; 2 ¯9223372036854775808 domain"},
		{"*", "2 1r2 nonce; 4 1r2 nonce; 1 1r2 nonce; 0 1r2 nonce; 0 ¯1r2 nonce; 2 ¯3r2 nonce; 1 9223372036854775808 nonce; 1 ¯9223372036854775809 nonce; 0 18446744073709551616 nonce; 0 ¯G nonce; 2 G nonce; 1 18446744073709551617 nonce; 1 1rG nonce"},
		{"∧", "4 6 12; 6 4 12; 5 7 35; 0 0 0; 0 5 0; 5 0 0; ¯4 6 ¯12; 4 ¯6 ¯12; ¯4 ¯6 12; 1 1 1; 0 1 0; G G G; G 1 G; T 4 T; G 2 limit; G T limit; 1r2 2 domain; 2 1r2 domain; 0 1r2 domain; 1r2 1r2 domain; G 1rG domain"},
		{"∨", "4 6 2; 6 4 2; 5 7 1; 0 0 0; 0 5 5; 5 0 5; 0 ¯5 5; ¯5 0 5; ¯4 6 2; 4 ¯6 2; ¯4 ¯6 2; 1 0 1; G G G; T Q Q; G T 1; 1r2 2 domain; 2 1r2 domain; 0 1r2 domain; 1r2 1r2 domain; 1rG G domain"},
		{"<", "1 2 1; 2 2 0; 3 2 0; ¯1 ¯2 0; ¯2 ¯1 1; ¯1 0 1; 0 0 0; 1r3 1r2 1; 1r2 1r3 0; 1r2 1r2 0; T G 1; G G 0; ¯G G 1; 1rG 1rT 1; 1rG 0 0"},
		{"≤", "1 2 1; 2 2 1; 3 2 0; ¯1 ¯2 0; ¯2 ¯1 1; ¯1 0 1; 0 0 1; 1r3 1r2 1; 1r2 1r3 0; 1r2 1r2 1; T G 1; G G 1; ¯G G 1; 1rG 1rT 1; 1rG 0 0"},
		{"=", "1 2 0; 2 2 1; 3 2 0; ¯1 1 0; 1 ¯1 0; 0 0 1; 1r2 1r2 1; 1r2 1r3 0; 1r2 3r2 0; ¯1r2 ¯1r2 1; G G 1; G ¯G 0; G T 0; 1rG 1rG 1; 1rG 0 0"},
		{"≥", "1 2 0; 2 2 1; 3 2 1; ¯1 ¯2 1; ¯2 ¯1 0; ¯1 0 0; 0 0 1; 1r3 1r2 0; 1r2 1r3 1; 1r2 1r2 1; T G 0; G G 1; ¯G G 0; 1rG 1rT 0; 1rG 0 1"},
		{">", "1 2 0; 2 2 0; 3 2 1; ¯1 ¯2 1; ¯2 ¯1 0; ¯1 0 0; 0 0 0; 1r3 1r2 0; 1r2 1r3 1; 1r2 1r2 0; T G 0; G G 0; ¯G G 0; 1rG 1rT 0; 1rG 0 1"},
		{"≠", "1 2 1; 2 2 0; 3 2 1; ¯1 1 1; 1 ¯1 1; 0 0 0; 1r2 1r2 0; 1r2 1r3 1; 1r2 3r2 1; ¯1r2 ¯1r2 0; G G 0; G ¯G 1; G T 1; 1rG 1rG 0; 1rG 0 1"},
		{"~!⍴x⌽", "0 0 nonce; 1 2 nonce; 1 0 nonce; 1r2 1r2 nonce; G G nonce"},
	} {
		for row := range strings.SplitSeq(x.told, ";") {
			row := strings.Fields(row)
			for _, f := range x.f {
				if got, want := toldNumber(Numbers(int(f), num(row[0]), num(row[1]))), longhand(row[2]); got != want {
					t.Error(row[0], string(f), row[1], "is", got, "not", want)
				}
			}
		}
	}
}

// values are right numbers of all sorts, each of both signs, and 0.
func values() []*big.Rat {
	l := []*big.Rat{new(big.Rat)}
	for _, text := range []string{"1", "2", "3", "4", "6", "10", "1/2", "1/3", "2/3", "3/2", "7/2", "99/100", "4294967295", "4294967296", "1/4294967296", "9223372036854775807", "9223372036854775808", "9223372036854775809", "18446744073709551616/3", "G", "1/G", "T", "1/T", "G/2", "2/G", "T/G", "G/T"} {
		v, _ := new(big.Rat).SetString(longhand(text))
		l = append(l, v, new(big.Rat).Neg(v))
	}
	return l
}

// numOf is a value's number.
func numOf(v *big.Rat) api.Num {
	limbs := func(v *big.Int) []uint32 {
		var l []uint32
		for rest := new(big.Int).Abs(v); rest.Sign() > 0; rest.Rsh(rest, 32) {
			l = append(l, uint32(new(big.Int).And(rest, big.NewInt(math.MaxUint32)).Uint64()))
		}
		return l
	}
	return api.Num{Neg: v.Sign() < 0, Top: limbs(v.Num()), Bot: limbs(v.Denom())}
}

// floor is a value, rounded down; the library's Div of a divisor above 0 does so.
func floor(v *big.Rat) *big.Rat {
	return new(big.Rat).SetInt(new(big.Int).Div(v.Num(), v.Denom()))
}

// fitting is a value's text, or that of the error that it has too many limbs.
func fitting(v *big.Rat) string {
	if v.Num().BitLen() > 32*api.MaxLimbs || v.Denom().BitLen() > 32*api.MaxLimbs {
		return "limit"
	}
	return strings.Replace(strings.ReplaceAll(v.RatString(), "/", "r"), "-", "¯", 1)
}

// ofOneByRule is what a function of a value tells, by the chapter's words.
func ofOneByRule(f rune, v *big.Rat) string {
	minus := new(big.Rat).Neg(v)
	switch f {
	case '+':
		return fitting(v)
	case '-':
		return fitting(minus)
	case '×':
		return fitting(big.NewRat(int64(v.Sign()), 1))
	case '÷':
		if v.Sign() == 0 {
			return "domain"
		}
		return fitting(new(big.Rat).Inv(v))
	case '⌈':
		return fitting(minus.Neg(floor(minus)))
	case '⌊':
		return fitting(floor(v))
	case '|':
		return fitting(new(big.Rat).Abs(v))
	case '~':
		if v.Sign() != 0 && v.Cmp(big.NewRat(1, 1)) != 0 {
			return "domain"
		}
		return fitting(minus.Add(minus, big.NewRat(1, 1)))
	case '!':
		switch {
		case !v.IsInt() || v.Sign() < 0:
			return "domain"
		case v.Cmp(big.NewRat(200, 1)) > 0:
			return "limit"
		}
		return fitting(new(big.Rat).SetInt(new(big.Int).MulRange(1, v.Num().Int64())))
	}
	return "nonce"
}

// ofTwoByRule is what a function of two values tells, by the chapter's words.
func ofTwoByRule(f rune, a, b *big.Rat) string {
	bit := func(so bool) string {
		if so {
			return "1"
		}
		return "0"
	}
	order := a.Cmp(b)
	switch f {
	case '+':
		return fitting(new(big.Rat).Add(a, b))
	case '-':
		return fitting(new(big.Rat).Sub(a, b))
	case '×':
		return fitting(new(big.Rat).Mul(a, b))
	case '÷':
		if b.Sign() == 0 {
			return "domain"
		}
		return fitting(new(big.Rat).Quo(a, b))
	case '⌈':
		if order < 0 {
			return fitting(b)
		}
		return fitting(a)
	case '⌊':
		if order < 0 {
			return fitting(a)
		}
		return fitting(b)
	case '|':
		return restByRule(a, b)
	case '*':
		return powerByRule(a, b)
	case '∧', '∨':
		return divisorByRule(f == '∨', a, b)
	case '<':
		return bit(order < 0)
	case '≤':
		return bit(order <= 0)
	case '=':
		return bit(order == 0)
	case '≥':
		return bit(order >= 0)
	case '>':
		return bit(order > 0)
	case '≠':
		return bit(order != 0)
	}
	return "nonce"
}

func restByRule(a, b *big.Rat) string {
	if a.Sign() == 0 {
		return fitting(b)
	}
	quotient := new(big.Rat).Quo(b, a)
	product := new(big.Rat).Mul(a, floor(quotient))
	if fitting(quotient) == "limit" || fitting(product) == "limit" {
		return "limit"
	}
	return fitting(product.Sub(b, product))
}

func powerByRule(a, b *big.Rat) string {
	if !b.IsInt() || !b.Num().IsInt64() {
		return "nonce"
	}
	n := b.Num().Int64()
	if n < 0 && (a.Sign() == 0 || n == math.MinInt64) {
		return "domain"
	}
	if n < 0 {
		a, n = new(big.Rat).Inv(a), -n
	}
	// The powers of a number with more bits than one have about as many times more: so far nothing needs to be reckoned.
	if bits := max(a.Num().BitLen(), a.Denom().BitLen()) - 1; bits > 0 && n > int64(32*api.MaxLimbs/bits) {
		return "limit"
	}
	// Those that are left are small, or 0, 1 or -1, of which a power hangs on nothing but whether the exponent is even.
	if n > 2000 {
		n = 2000 + n%2
	}
	exponent := big.NewInt(n)
	return fitting(new(big.Rat).SetFrac(new(big.Int).Exp(a.Num(), exponent, nil), new(big.Int).Exp(a.Denom(), exponent, nil)))
}

func divisorByRule(greatest bool, a, b *big.Rat) string {
	if !a.IsInt() || !b.IsInt() {
		return "domain"
	}
	divisor := new(big.Rat).SetInt(new(big.Int).GCD(nil, nil, new(big.Int).Abs(a.Num()), new(big.Int).Abs(b.Num())))
	switch {
	case greatest:
		return fitting(divisor)
	case divisor.Sign() == 0:
		return "0"
	}
	return fitting(divisor.Mul(divisor.Quo(a, divisor), b))
}

// 10.1, 10.2, 10.5: each function of numbers of all sorts, by the rule; what is told is right.
func TestNumbersByRule(t *testing.T) {
	l := values()
	for _, a := range l {
		for _, f := range ofOne + "*<=" {
			if got, want := toldNumber(Number(int(f), numOf(a))), ofOneByRule(f, a); got != want {
				t.Error(string(f), a, "is", got, "not", want)
			}
		}
		for _, b := range l {
			for _, f := range ofTwo + "~!" {
				if got, want := toldNumber(Numbers(int(f), numOf(a), numOf(b))), ofTwoByRule(f, a, b); got != want {
					t.Error(a, string(f), b, "is", got, "not", want)
				}
			}
		}
	}
}

// 10.2: what ratio tells, to the limb, is told.
func TestNumbersByRatio(t *testing.T) {
	for f, ratioTells := range map[rune]func(a, b api.Num) (api.Num, api.Errno){'+': ratio.Add, '-': ratio.Sub, '×': ratio.Mul, '÷': ratio.Div, '|': ratio.Mod, '∧': ratio.Lcm, '∨': ratio.Gcd} {
		for _, a := range values() {
			for _, b := range values() {
				got, e := Numbers(int(f), numOf(a), numOf(b))
				want, wantError := ratioTells(numOf(a), numOf(b))
				if e != wantError || !ratio.Same(got, want) {
					t.Error(a, string(f), b, got, e)
				}
			}
		}
	}
}

// R1: numbers that are not right, too, end without a panic.
func TestWrongNumbers(t *testing.T) {
	wrong := []api.Num{{}, {Neg: true}, {Top: []uint32{1}}, {Top: []uint32{0}, Bot: []uint32{1}}, {Top: []uint32{4}, Bot: []uint32{2}}, {Neg: true, Bot: []uint32{1}}, {Top: []uint32{3, 0, 0}, Bot: []uint32{1, 0}}, {Top: []uint32{5}, Bot: []uint32{0}}, {Top: make([]uint32, 40), Bot: slices.Repeat([]uint32{7}, 40)}, {Top: slices.Repeat([]uint32{9}, 40), Bot: []uint32{1}}, num("0"), num("3"), num("¯1r2")}
	for _, a := range wrong {
		for _, f := range ofOne + ofTwo + "?" {
			Number(int(f), a)
			for _, b := range wrong {
				Numbers(int(f), a, b)
			}
		}
	}
}
