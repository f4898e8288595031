package whole

import (
	"math"
	"math/big"
	"slices"
	"testing"

	"scrim/api"
)

const top = math.MaxUint32

// number makes a number of a text of decimal digits, by another way than the package's.
func number(s string) Int {
	v, ok := new(big.Int).SetString(s, 10)
	if !ok {
		panic("no number: " + s)
	}
	return intOf(v)
}

// intOf is a value's number, as the chapter wants it: no limbs of 0 on top, and 0 without a sign.
func intOf(v *big.Int) Int {
	a := Int{Neg: v.Sign() < 0}
	mask := big.NewInt(top)
	for rest := new(big.Int).Abs(v); rest.Sign() > 0; rest.Rsh(rest, 32) {
		a.Mag = append(a.Mag, uint32(new(big.Int).And(rest, mask).Uint64()))
	}
	return a
}

// value is a number by another way than the package's.
func value(a Int) *big.Int {
	v := new(big.Int)
	for _, limb := range slices.Backward(a.Mag) {
		v.Or(v.Lsh(v, 32), big.NewInt(int64(limb)))
	}
	if a.Neg {
		v.Neg(v)
	}
	return v
}

// same tells whether two numbers are so to the limb and to the sign.
func same(a, b Int) bool { return a.Neg == b.Neg && slices.Equal(a.Mag, b.Mag) }

// is tells whether a number is a value's, just as it should be told.
func is(a Int, v *big.Int) bool { return same(a, intOf(v)) }

// samples are numbers of all sorts, each with and without a sign and noughts on top: 0 too.
func samples() []Int {
	sizes := [][]uint32{
		nil, {1}, {2}, {3}, {7}, {top - 1}, {top}, {0, 1}, {1, 1}, {top, 1<<31 - 1}, {top - 1, 1<<31 - 1}, {0, 1 << 31}, {1, 1 << 31}, {top, top}, {0, 0, 1}, {5, 0, 1}, {top, top, top}, {1, 2, 3, 4},
	}
	x := uint64(3)
	for n := 1; n <= 36; n += 1 + n/4 {
		a := make([]uint32, n)
		for i := range a {
			x = x*6364136223846793005 + 1442695040888963407
			a[i] = uint32(x >> 32)
		}
		a[n-1] |= 1
		sizes = append(sizes, a)
	}
	var l []Int
	for _, size := range sizes {
		for _, neg := range []bool{false, true} {
			l = append(l, Int{neg, size}, Int{neg, append(slices.Clone(size), 0, 0)})
		}
	}
	return l
}

// pairs calls a test with any two samples, and with their values.
func pairs(test func(a, b Int, x, y *big.Int)) {
	l := samples()
	for _, a := range l {
		for _, b := range l {
			test(a, b, value(a), value(b))
		}
	}
}

// nothings are all ways to hand in 0.
func nothings() []Int {
	return []Int{{}, {Neg: true}, {false, []uint32{}}, {true, []uint32{}}, {false, []uint32{0}}, {true, []uint32{0}}, {true, []uint32{0, 0, 0}}}
}

// 3.1: Norm tells the same number, without limbs of 0 on top, and 0 without a sign.
func TestNorm(t *testing.T) {
	type row struct{ a, norm Int }
	for _, r := range []row{
		{Int{false, []uint32{5, 0}}, Int{false, []uint32{5}}}, {Int{true, []uint32{5, 0, 0}}, Int{true, []uint32{5}}}, {Int{true, []uint32{0, 5}}, Int{true, []uint32{0, 5}}}, {Int{false, []uint32{0, 0, 1, 0}}, Int{false, []uint32{0, 0, 1}}},
	} {
		if got := Norm(r.a); !same(got, r.norm) {
			t.Error(r.a, got)
		}
	}
	for _, a := range nothings() {
		if got := Norm(a); got.Neg || len(got.Mag) != 0 {
			t.Error(a, got)
		}
	}
	for _, a := range samples() {
		if !is(Norm(a), value(a)) {
			t.Error(a, Norm(a))
		}
	}
}

// 3.1: Of, to the least int and the greatest one, and Small, which leads back.
func TestOfAndSmall(t *testing.T) {
	type row struct {
		n int
		a Int
	}
	for _, r := range []row{
		{0, Int{}}, {1, Int{false, []uint32{1}}}, {-1, Int{true, []uint32{1}}}, {top, Int{false, []uint32{top}}}, {-top, Int{true, []uint32{top}}}, {1 << 32, Int{false, []uint32{0, 1}}}, {-1 << 32, Int{true, []uint32{0, 1}}},
		{math.MaxInt, Int{false, []uint32{top, 1<<31 - 1}}}, {math.MaxInt - 1, Int{false, []uint32{top - 1, 1<<31 - 1}}}, {math.MinInt, Int{true, []uint32{0, 1 << 31}}}, {math.MinInt + 1, Int{true, []uint32{top, 1<<31 - 1}}},
	} {
		if got := Of(r.n); !same(got, r.a) {
			t.Error(r.n, got)
		}
		for _, a := range []Int{r.a, {r.a.Neg, append(slices.Clone(r.a.Mag), 0, 0, 0)}} {
			if n, ok := Small(a); !ok || n != r.n {
				t.Error(r.a, n, ok)
			}
		}
	}
	for i := range 63 {
		for off := -2; off <= 2; off++ {
			for _, n := range []int{1<<i + off, -(1 << i) + off} {
				if got, ok := Small(Of(n)); !ok || got != n || !is(Of(n), big.NewInt(int64(n))) {
					t.Error(n, Of(n), got, ok)
				}
			}
		}
	}
	for _, a := range nothings() {
		if n, ok := Small(a); !ok || n != 0 {
			t.Error(a, n, ok)
		}
	}
}

// 3.1: Small tells 0 and false of what is beyond the least int and the greatest one.
func TestSmallRefuses(t *testing.T) {
	for _, a := range []Int{
		{false, []uint32{0, 1 << 31}}, {true, []uint32{1, 1 << 31}}, {false, []uint32{top, top}}, {true, []uint32{top, top}}, {false, []uint32{0, 0, 1}}, {true, []uint32{0, 0, 1}}, {false, []uint32{5, 0, 1, 0}}, {true, []uint32{0, 1 << 31, 1}},
	} {
		if n, ok := Small(a); ok || n != 0 {
			t.Error(a, n, ok)
		}
	}
	for _, a := range samples() {
		v := value(a)
		if n, ok := Small(a); ok != v.IsInt64() || ok && int64(n) != v.Int64() || !ok && n != 0 {
			t.Error(a, n, ok)
		}
	}
}

// 3.1: Sign, and Neg, which has none of 0.
func TestSignAndNeg(t *testing.T) {
	for _, a := range nothings() {
		if Sign(a) != 0 || !same(Neg(a), Int{}) {
			t.Error(a, Sign(a), Neg(a))
		}
	}
	if Sign(Of(5)) != 1 || Sign(Of(-5)) != -1 || Sign(Int{true, []uint32{0, 1, 0}}) != -1 || !same(Neg(Of(5)), Of(-5)) || !same(Neg(Of(-5)), Of(5)) || !same(Neg(Of(math.MinInt)), number("9223372036854775808")) {
		t.Error("Sign or Neg")
	}
	for _, a := range samples() {
		v := value(a)
		if Sign(a) != v.Sign() || !is(Neg(a), new(big.Int).Neg(v)) || !same(Neg(Neg(a)), Norm(a)) {
			t.Error(a, Sign(a), Neg(a))
		}
	}
}

// 3.1: Cmp, to which noughts on top and a sign of 0 are nothing.
func TestCmp(t *testing.T) {
	type row struct{ a, b, cmp int }
	for _, r := range []row{{0, 0, 0}, {5, 5, 0}, {-5, -5, 0}, {-5, 5, -1}, {5, -5, 1}, {0, -1, 1}, {-1, 0, -1}, {0, 1, -1}, {-7, -6, -1}, {-6, -7, 1}, {6, 7, -1}, {math.MinInt, math.MaxInt, -1}, {math.MinInt, math.MinInt + 1, -1}} {
		if got := Cmp(Of(r.a), Of(r.b)); got != r.cmp {
			t.Error(r, got)
		}
	}
	for _, a := range nothings() {
		for _, b := range nothings() {
			if Cmp(a, b) != 0 {
				t.Error(a, b, Cmp(a, b))
			}
		}
	}
	pairs(func(a, b Int, x, y *big.Int) {
		if Cmp(a, b) != x.Cmp(y) {
			t.Error(a, b, Cmp(a, b))
		}
	})
}

// 3.1: Add, Sub and Mul at numbers that are written out.
func TestSumsAndProducts(t *testing.T) {
	type row struct{ a, b, sum, difference, product string }
	for _, r := range []row{
		{"0", "0", "0", "0", "0"}, {"5", "3", "8", "2", "15"}, {"3", "5", "8", "-2", "15"}, {"-5", "3", "-2", "-8", "-15"}, {"5", "-3", "2", "8", "-15"}, {"-3", "5", "2", "-8", "-15"}, {"-5", "-3", "-8", "-2", "15"}, {"-3", "-5", "-8", "2", "15"},
		{"5", "-5", "0", "10", "-25"}, {"-5", "5", "0", "-10", "-25"}, {"-5", "-5", "-10", "0", "25"}, {"0", "-4", "-4", "4", "0"}, {"-4", "0", "-4", "-4", "0"},
		{"9223372036854775807", "1", "9223372036854775808", "9223372036854775806", "9223372036854775807"}, {"-9223372036854775808", "1", "-9223372036854775807", "-9223372036854775809", "-9223372036854775808"},
		{"18446744073709551616", "-1", "18446744073709551615", "18446744073709551617", "-18446744073709551616"}, {"4294967295", "-4294967295", "0", "8589934590", "-18446744065119617025"},
	} {
		a, b := number(r.a), number(r.b)
		if !same(Add(a, b), number(r.sum)) || !same(Sub(a, b), number(r.difference)) || !same(Mul(a, b), number(r.product)) {
			t.Error(r, Add(a, b), Sub(a, b), Mul(a, b))
		}
	}
}

// 3.1: Add, Sub and Mul of any two numbers.
func TestSumsAndProductsPairs(t *testing.T) {
	pairs(func(a, b Int, x, y *big.Int) {
		if got := Add(a, b); !is(got, new(big.Int).Add(x, y)) {
			t.Error("Add", a, b, got)
		}
		if got := Sub(a, b); !is(got, new(big.Int).Sub(x, y)) {
			t.Error("Sub", a, b, got)
		}
		if got := Mul(a, b); !is(got, new(big.Int).Mul(x, y)) {
			t.Error("Mul", a, b, got)
		}
	})
}

// 3.2: DivMod, rounded down at each pair of signs, with a rest that is 0 or has the divisor's sign.
func TestDivMod(t *testing.T) {
	type row struct{ a, b, quotient, rest string }
	for _, r := range []row{
		{"7", "2", "3", "1"}, {"-7", "2", "-4", "1"}, {"7", "-2", "-4", "-1"}, {"-7", "-2", "3", "-1"},
		{"6", "2", "3", "0"}, {"-6", "2", "-3", "0"}, {"6", "-2", "-3", "0"}, {"-6", "-2", "3", "0"},
		{"2", "7", "0", "2"}, {"-2", "7", "-1", "5"}, {"2", "-7", "-1", "-5"}, {"-2", "-7", "0", "-2"},
		{"0", "7", "0", "0"}, {"0", "-7", "0", "0"}, {"7", "1", "7", "0"}, {"7", "-1", "-7", "0"}, {"-7", "7", "-1", "0"},
		{"-18446744073709551615", "4294967296", "-4294967296", "1"}, {"18446744073709551615", "-4294967296", "-4294967296", "-1"}, {"-1", "18446744073709551616", "-1", "18446744073709551615"},
		{"-9223372036854775808", "-1", "9223372036854775808", "0"}, {"-18446744073709551614", "4294967295", "-4294967297", "1"},
	} {
		quotient, rest, ok := DivMod(number(r.a), number(r.b))
		if !ok || !same(quotient, number(r.quotient)) || !same(rest, number(r.rest)) {
			t.Error(r, quotient, rest, ok)
		}
	}
}

// 3.2: by 0, in whatever way it is handed in, there are zeros and false.
func TestDivModBy0(t *testing.T) {
	for _, a := range samples() {
		for _, b := range nothings() {
			if q, r, ok := DivMod(a, b); ok || !same(q, Int{}) || !same(r, Int{}) {
				t.Error(a, b, q, r, ok)
			}
		}
	}
}

// 3.2: DivMod of any two numbers, and around their products, where it is rounded or just isn't.
func TestDivModPairs(t *testing.T) {
	check := func(a, b Int, x, y *big.Int) {
		if y.Sign() == 0 {
			return
		}
		// The library's quotient is rounded so that the rest isn't below 0, which is down but at a divisor below 0.
		q, r := new(big.Int).DivMod(x, y, new(big.Int))
		if y.Sign() < 0 && r.Sign() != 0 {
			q.Sub(q, big.NewInt(1))
			r.Add(r, y)
		}
		if quotient, rest, ok := DivMod(a, b); !ok || !is(quotient, q) || !is(rest, r) {
			t.Error(a, b, quotient, rest, ok)
		}
	}
	pairs(func(a, b Int, x, y *big.Int) {
		check(a, b, x, y)
		for _, off := range []int64{-1, 0, 1} {
			v := new(big.Int).Mul(x, y)
			v.Add(v, big.NewInt(off))
			check(intOf(v), b, v, y)
		}
	})
}

// shifted is 2 to a power, less some: a number of as many limbs as one likes.
func shifted(bits uint, less int64) Int {
	v := new(big.Int).Lsh(big.NewInt(1), bits)
	return intOf(v.Sub(v, big.NewInt(less)))
}

// 3.3: Pow at numbers that are written out, 0 to the power of 0 too.
func TestPow(t *testing.T) {
	type row struct {
		a string
		n int
		p string
	}
	for _, r := range []row{
		{"0", 0, "1"}, {"5", 0, "1"}, {"-5", 0, "1"}, {"0", 1, "0"}, {"0", 7, "0"}, {"1", 1, "1"}, {"-1", 1, "-1"}, {"-1", 2, "1"}, {"2", 1, "2"}, {"2", 10, "1024"}, {"-2", 10, "1024"}, {"-2", 11, "-2048"},
		{"3", 5, "243"}, {"-3", 3, "-27"}, {"10", 20, "100000000000000000000"}, {"-10", 19, "-10000000000000000000"}, {"4294967296", 2, "18446744073709551616"}, {"7", 6, "117649"}, {"-7", 7, "-823543"},
	} {
		if got, e := Pow(number(r.a), r.n); e != api.OK || !same(got, number(r.p)) {
			t.Error(r, got, e)
		}
	}
	for _, a := range nothings() {
		if got, e := Pow(a, 0); e != api.OK || !same(got, Of(1)) {
			t.Error(a, got, e)
		}
		if got, e := Pow(a, 3); e != api.OK || !same(got, Int{}) {
			t.Error(a, got, e)
		}
	}
}

// 3.3: 0, 1 and -1 have powers by the greatest numbers.
func TestPowOfTheLeast(t *testing.T) {
	for _, n := range []int{1, 2, 3, 31, 32, 33, 1 << 40, 1<<40 + 1, 1 << 62, 1<<62 + 1, math.MaxInt - 1, math.MaxInt} {
		odd := 1 - n%2*2
		for a, want := range map[int]int{0: 0, 1: 1, -1: odd} {
			if got, e := Pow(Of(a), n); e != api.OK || !same(got, Of(want)) {
				t.Error(a, n, got, e)
			}
		}
		if got, e := Pow(Int{true, []uint32{1, 0, 0}}, n); e != api.OK || !same(got, Of(odd)) {
			t.Error(n, got, e)
		}
	}
}

// refusedPow tells a power that must be refused by an error.
func refusedPow(t *testing.T, a Int, n int, want api.Errno) {
	t.Helper()
	if got, e := Pow(a, n); e != want || !same(got, Int{}) {
		t.Error(a, n, got, e)
	}
}

// 3.3: below 0 there is no power, of whatever number.
func TestPowBelow0(t *testing.T) {
	for _, a := range append(samples(), shifted(40*32, 0)) {
		for _, n := range []int{-1, -2, math.MinInt, math.MinInt + 1} {
			refusedPow(t, a, n, api.Domain)
		}
	}
}

// 3.3: a power may have 32 limbs, and not one more.
func TestPowAtTheCap(t *testing.T) {
	type row struct {
		a     Int
		n     int
		right bool
	}
	for _, r := range []row{
		{Of(2), 1023, true}, {Of(2), 1024, false}, {Of(-2), 1023, true}, {Of(-2), 1024, false}, {Of(-2), 1025, false}, {Of(4), 511, true}, {Of(4), 512, false}, {Of(3), 646, true}, {Of(3), 647, false}, {Of(-3), 646, true}, {Of(-3), 647, false},
		{Of(1 << 32), 31, true}, {Of(1 << 32), 32, false}, {Of(top), 32, true}, {Of(top), 33, false}, {Of(-top), 32, true}, {Of(2), 1 << 20, false}, {Of(-2), math.MaxInt, false}, {Of(2), 1<<62 + 1, false}, {Of(3), math.MaxInt, false},
		{shifted(1024, 1), 1, true}, {shifted(1024, 0), 1, false}, {shifted(1023, 0), 2, false}, {shifted(512, 1), 2, true}, {shifted(512, 0), 2, false}, {shifted(341, 0), 3, true}, {shifted(342, 0), 3, false}, {shifted(992, 0), 1, true},
		{Neg(shifted(1024, 1)), 1, true}, {Neg(shifted(1024, 0)), 1, false}, {shifted(2000, 0), 0, true}, {shifted(2000, 0), 1, false}, {shifted(2000, 0), 2, false}, {shifted(2000, 0), math.MaxInt, false},
		{Int{false, append(shifted(1024, 1).Mag, 0, 0, 0)}, 1, true}, {Int{true, append(slices.Clone(Of(3).Mag), make([]uint32, 50)...)}, 5, true},
	} {
		if !r.right {
			refusedPow(t, r.a, r.n, api.Limit)
		} else if got, e := Pow(r.a, r.n); e != api.OK || !is(got, new(big.Int).Exp(value(r.a), big.NewInt(int64(r.n)), nil)) {
			t.Error(r, got, e)
		}
	}
}

// 3.3: powers of any number by another way, to where they are too long.
func TestPowByProducts(t *testing.T) {
	l := samples()
	for small := -12; small <= 12; small++ {
		l = append(l, Of(small))
	}
	for _, a := range l {
		v, want := value(a), big.NewInt(1)
		for n := range 1100 {
			if want.BitLen() > 32*api.MaxLimbs {
				refusedPow(t, a, n, api.Limit)
				break
			}
			if got, e := Pow(a, n); e != api.OK || !is(got, want) {
				t.Error(a, n, got, e)
			}
			want.Mul(want, v)
		}
	}
}

// 3.4: sums and products don't ask for the order of their parts, or for brackets.
func TestOrderAndBrackets(t *testing.T) {
	l := samples()
	pairs(func(a, b Int, _, _ *big.Int) {
		if !same(Add(a, b), Add(b, a)) || !same(Mul(a, b), Mul(b, a)) {
			t.Error("order", a, b)
		}
		c := l[(len(a.Mag)*11+len(b.Mag)*5)%len(l)]
		if !same(Add(Add(a, b), c), Add(a, Add(b, c))) || !same(Mul(Mul(a, b), c), Mul(a, Mul(b, c))) || !same(Mul(a, Add(b, c)), Add(Mul(a, b), Mul(a, c))) {
			t.Error("brackets", a, b, c)
		}
	})
}

// 3.4: the quotient times the divisor, and the rest, are the number; the rest is on the divisor's side, and less.
func TestDivModLaw(t *testing.T) {
	pairs(func(a, b Int, _, _ *big.Int) {
		q, r, ok := DivMod(a, b)
		if ok != (Sign(b) != 0) {
			t.Error(a, b, ok)
		}
		if !ok {
			return
		}
		if !same(Add(Mul(q, b), r), Norm(a)) || Sign(r)*Sign(b) < 0 || Cmp(Mul(r, Of(Sign(b))), Mul(b, Of(Sign(b)))) >= 0 {
			t.Error(a, b, q, r)
		}
	})
}

// calls are all calls, each with the numbers that it answers, small ones among them.
func calls() map[string]func(a, b Int) []Int {
	return map[string]func(a, b Int) []Int{
		"Norm":  func(a, _ Int) []Int { return []Int{Norm(a)} },
		"Small": func(a, _ Int) []Int { n, _ := Small(a); return []Int{Of(n)} },
		"Sign":  func(a, _ Int) []Int { return []Int{Of(Sign(a))} },
		"Neg":   func(a, _ Int) []Int { return []Int{Neg(a)} },
		"Cmp":   func(a, b Int) []Int { return []Int{Of(Cmp(a, b))} },
		"Add":   func(a, b Int) []Int { return []Int{Add(a, b)} },
		"Sub":   func(a, b Int) []Int { return []Int{Sub(a, b)} },
		"Mul":   func(a, b Int) []Int { return []Int{Mul(a, b)} },
		"DivMod": func(a, b Int) []Int {
			q, r, _ := DivMod(a, b)
			return []Int{q, r}
		},
		"Pow0": func(a, _ Int) []Int { p, _ := Pow(a, 0); return []Int{p} },
		"Pow1": func(a, _ Int) []Int { p, _ := Pow(a, 1); return []Int{p} },
		"Pow5": func(a, _ Int) []Int { p, _ := Pow(a, 5); return []Int{p} },
	}
}

// fill writes into a list, up to its capacity.
func fill(a []uint32, x uint32) {
	a = a[:cap(a)]
	for i := range a {
		a[i] = x
	}
}

// R4 and R5: what is handed in stays as it is, what lies behind it is not read, answers are new memory, and come again.
func TestSharesNothing(t *testing.T) {
	l := samples()
	for name, call := range calls() {
		for i := range l {
			a, b := l[i], l[i*7%len(l)]
			longA, longB := append(slices.Clone(a.Mag), 77, top), append(slices.Clone(b.Mag), 99, top)
			inA, inB := Int{a.Neg, longA[:len(a.Mag)]}, Int{b.Neg, longB[:len(b.Mag)]}
			want := call(Int{a.Neg, slices.Clip(slices.Clone(a.Mag))}, Int{b.Neg, slices.Clip(slices.Clone(b.Mag))})
			for j := range want {
				answers := call(inA, inB)
				fill(answers[j].Mag, 123456)
				for k, other := range answers {
					if k != j && !same(other, want[k]) {
						t.Error(name, a, b, "answers share memory, or what lies behind a list is read")
					}
				}
			}
			if !slices.Equal(longA, append(slices.Clone(a.Mag), 77, top)) || !slices.Equal(longB, append(slices.Clone(b.Mag), 99, top)) {
				t.Error(name, a, b, "what was handed in is changed, or shared")
			}
			for j, other := range call(inA, inB) {
				if !same(other, want[j]) {
					t.Error(name, a, b, "another answer")
				}
			}
		}
	}
}

// P1: long numbers end, without a panic, and noughts are 0, however many there are.
func TestLong(t *testing.T) {
	const many = 1 << 14
	noughts := Int{true, make([]uint32, many)}
	for name, call := range calls() {
		for _, got := range call(noughts, noughts) {
			if name != "Pow0" && !same(got, Int{}) {
				t.Error(name, "of noughts:", got.Neg, len(got.Mag))
			}
		}
	}
	long := shifted(32*many, 5)
	for _, a := range []Int{long, Neg(long)} {
		for _, n := range []int{1, 2, 3, math.MaxInt} {
			refusedPow(t, a, n, api.Limit)
		}
		q, r, ok := DivMod(a, Of(-12345))
		if !ok || !same(Add(Mul(q, Of(-12345)), r), a) || Sign(r) > 0 {
			t.Error("a quotient of", len(a.Mag), "limbs")
		}
	}
}
