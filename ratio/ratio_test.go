package ratio

import (
	"math"
	"math/big"
	"slices"
	"testing"

	"scrim/api"
	"scrim/whole"
)

const most = math.MaxUint32

// limbs are a size's limbs, by another way than the package's: none of 0 on top.
func limbs(v *big.Int) []uint32 {
	var l []uint32
	mask := big.NewInt(most)
	for rest := new(big.Int).Abs(v); rest.Sign() > 0; rest.Rsh(rest, 32) {
		l = append(l, uint32(new(big.Int).And(rest, mask).Uint64()))
	}
	return l
}

// size is what limbs stand for.
func size(l []uint32) *big.Int {
	v := new(big.Int)
	for _, limb := range slices.Backward(l) {
		v.Or(v.Lsh(v, 32), big.NewInt(int64(limb)))
	}
	return v
}

// intOf is a value as a whole number.
func intOf(v *big.Int) whole.Int { return whole.Int{Neg: v.Sign() < 0, Mag: limbs(v)} }

// intValue is a whole number's value.
func intValue(a whole.Int) *big.Int {
	v := size(a.Mag)
	if a.Neg {
		v.Neg(v)
	}
	return v
}

// numOf is a value's number, as the chapter wants it; the library holds it in lowest terms.
func numOf(v *big.Rat) api.Num {
	return api.Num{Neg: v.Sign() < 0, Top: limbs(v.Num()), Bot: limbs(v.Denom())}
}

// value is a number's, which is right.
func value(a api.Num) *big.Rat {
	return new(big.Rat).SetFrac(intValue(whole.Int{Neg: a.Neg, Mag: a.Top}), size(a.Bot))
}

// rat is the value of a text such as -3/2.
func rat(s string) *big.Rat {
	v, ok := new(big.Rat).SetString(s)
	if !ok {
		panic("no number: " + s)
	}
	return v
}

// num is the number of a text such as -3/2.
func num(s string) api.Num { return numOf(rat(s)) }

// same tells whether two numbers are held alike, to the limb and to the sign.
func same(a, b api.Num) bool {
	return a.Neg == b.Neg && slices.Equal(a.Top, b.Top) && slices.Equal(a.Bot, b.Bot)
}

// fits tells whether a value has no more limbs than may be.
func fits(v *big.Rat) bool {
	return v.Num().BitLen() <= 32*api.MaxLimbs && v.Denom().BitLen() <= 32*api.MaxLimbs
}

// told looks at an answer, which must be a value's right number, or Limit; without a value Domain.
func told(t *testing.T, got api.Num, e api.Errno, want *big.Rat, about ...any) {
	t.Helper()
	switch {
	case want == nil:
		refused(t, got, e, api.Domain, about...)
	case !fits(want):
		refused(t, got, e, api.Limit, about...)
	case e != api.OK || !same(got, numOf(want)) || !Right(got):
		t.Error(about, "told:", got, e)
	}
}

// refused looks at an answer that must be an error, beside the zero value.
func refused(t *testing.T, got api.Num, e, want api.Errno, about ...any) {
	t.Helper()
	if e != want || got.Neg || len(got.Top) != 0 || len(got.Bot) != 0 {
		t.Error(about, "told:", got, e)
	}
}

// power is a number to the power of another one, which is from 0 on.
func power(a, n int64) *big.Int { return new(big.Int).Exp(big.NewInt(a), big.NewInt(n), nil) }

// near is 2 to a power, and some more, or less.
func near(bits uint, off int64) *big.Int {
	v := new(big.Int).Lsh(big.NewInt(1), bits)
	return v.Add(v, big.NewInt(off))
}

// by is a value by another one.
func by(p, q *big.Int) *big.Rat { return new(big.Rat).SetFrac(p, q) }

// great are values of just 32 limbs, or some less, above and below the stroke, in lowest terms.
func great() []*big.Rat {
	one := big.NewInt(1)
	return []*big.Rat{
		by(near(1024, -1), one), by(one, near(1024, -1)), by(near(1024, -1), near(1024, -3)), by(near(1024, -3), near(1024, -1)), by(near(1023, 0), one), by(one, near(1023, 0)), by(near(1023, 1), big.NewInt(2)), by(big.NewInt(3), near(1023, 0)),
		by(power(3, 640), power(2, 1000)), by(power(2, 1000), power(3, 640)), by(near(512, 0), power(3, 300)), by(near(511, 1), one), by(one, near(512, 1)), by(power(6, 390), one), by(power(5, 440), power(6, 390)),
	}
}

// values are values of all sorts that have right numbers, each of both signs, and 0.
func values() []*big.Rat {
	l := []*big.Rat{new(big.Rat)}
	add := func(v *big.Rat) { l = append(l, v, new(big.Rat).Neg(v)) }
	for _, s := range []string{
		"1", "2", "3", "4", "5", "6", "12", "100", "1/2", "1/3", "2/3", "3/2", "5/2", "7/2", "5/3", "7/3", "1/6", "5/6", "7/12", "99/100", "4294967295", "4294967296", "4294967297", "1/4294967295", "1/4294967296", "4294967295/4294967296", "9223372036854775807", "9223372036854775808", "18446744073709551615", "18446744073709551616",
		"18446744073709551617/3", "1/18446744073709551616", "79228162514264337593543950335/79228162514264337593543950336", "340282366920938463463374607431768211457/2",
	} {
		add(rat(s))
	}
	for _, v := range great() {
		add(v)
	}
	return l
}

// pairs calls a test with any two right numbers, and their values.
func pairs(test func(a, b api.Num, x, y *big.Rat)) {
	l := values()
	for _, x := range l {
		for _, y := range l {
			test(numOf(x), numOf(y), x, y)
		}
	}
}

// nothings are all ways to hand in a whole 0.
func nothings() []whole.Int {
	return []whole.Int{{}, {Neg: true}, {Mag: []uint32{}}, {Mag: []uint32{0}}, {Neg: true, Mag: []uint32{0}}, {Neg: true, Mag: []uint32{0, 0, 0}}, {Mag: make([]uint32, 40)}}
}

// topped is a whole number with limbs of 0 on top.
func topped(v *big.Int, noughts int) whole.Int {
	a := intOf(v)
	a.Mag = append(a.Mag, make([]uint32, noughts)...)
	return a
}

// 4.1: Make tells p by q in lowest terms, with a sign, if just one has one, and 0 as 0 by 1.
func TestMake(t *testing.T) {
	type row struct {
		p, q int
		want api.Num
	}
	for _, r := range []row{
		{7, 3, api.Num{Top: []uint32{7}, Bot: []uint32{3}}}, {-7, 3, api.Num{Neg: true, Top: []uint32{7}, Bot: []uint32{3}}}, {7, -3, api.Num{Neg: true, Top: []uint32{7}, Bot: []uint32{3}}}, {-7, -3, api.Num{Top: []uint32{7}, Bot: []uint32{3}}},
		{6, -4, api.Num{Neg: true, Top: []uint32{3}, Bot: []uint32{2}}}, {4, 2, api.Num{Top: []uint32{2}, Bot: []uint32{1}}}, {2, 4, api.Num{Top: []uint32{1}, Bot: []uint32{2}}}, {-5, -5, api.Num{Top: []uint32{1}, Bot: []uint32{1}}}, {-360, 84, api.Num{Neg: true, Top: []uint32{30}, Bot: []uint32{7}}},
		{0, 1, api.Num{Bot: []uint32{1}}}, {0, -5, api.Num{Bot: []uint32{1}}}, {0, 12, api.Num{Bot: []uint32{1}}}, {1, math.MinInt, api.Num{Neg: true, Top: []uint32{1}, Bot: []uint32{0, 1 << 31}}}, {math.MinInt, 1 << 32, api.Num{Neg: true, Top: []uint32{1 << 31}, Bot: []uint32{1}}}, {math.MaxInt, 1, api.Num{Top: []uint32{most, 1<<31 - 1}, Bot: []uint32{1}}},
	} {
		if got, e := Make(whole.Of(r.p), whole.Of(r.q)); e != api.OK || !same(got, r.want) {
			t.Error(r.p, r.q, got, e)
		}
	}
}

// 4.1: by 0, in whatever way it is handed in, there is Domain, ahead of Limit.
func TestMakeBy0(t *testing.T) {
	for _, q := range nothings() {
		for _, p := range append(nothings(), whole.Of(1), whole.Of(-7), intOf(near(1024, 0)), topped(near(5000, 0), 3)) {
			got, e := Make(p, q)
			refused(t, got, e, api.Domain, p, q)
		}
	}
	for _, p := range nothings() {
		for _, q := range []whole.Int{whole.Of(1), whole.Of(-12), intOf(near(1024, 0)), topped(near(5000, 0), 3), {Neg: true, Mag: []uint32{7, 0}}} {
			got, e := Make(p, q)
			told(t, got, e, new(big.Rat), p, q)
		}
	}
}

// 4.1: Make tells numbers of just 32 limbs, and Limit of one more, once they are in lowest terms.
func TestMakeAtTheCap(t *testing.T) {
	type row struct {
		p, q *big.Int
		e    api.Errno
	}
	one, three := big.NewInt(1), big.NewInt(3)
	for _, r := range []row{
		{near(1024, -1), one, api.OK}, {near(1024, 0), one, api.Limit}, {one, near(1024, -1), api.OK}, {one, near(1024, 0), api.Limit}, {near(1024, -1), near(1024, -3), api.OK}, {near(1024, 1), near(1024, -1), api.Limit}, {near(1024, -1), near(1024, 1), api.Limit},
		{near(1024, 0), big.NewInt(2), api.OK}, {big.NewInt(2), near(1024, 0), api.OK}, {near(1025, 0), big.NewInt(2), api.Limit}, {near(3000, 0), near(3000, 0), api.OK}, {near(3000, 0), near(1977, 0), api.OK}, {near(3000, 0), near(1976, 0), api.Limit}, {near(1977, 0), near(3000, 0), api.OK}, {near(1976, 0), near(3000, 0), api.Limit},
		{near(1024, -1), three, api.OK}, {new(big.Int).Mul(three, near(1024, -1)), three, api.OK}, {new(big.Int).Mul(three, near(1024, -1)), big.NewInt(-2), api.Limit}, {near(992, 0), near(992, 1), api.OK}, {near(1024, 0), near(1024, 1), api.Limit},
	} {
		v := by(r.p, r.q)
		if fits(v) != (r.e == api.OK) {
			t.Fatal(r)
		}
		for _, noughts := range []int{0, 1, 40} {
			for _, sign := range []int64{1, -1} {
				s := big.NewInt(sign)
				got, e := Make(topped(new(big.Int).Mul(r.p, s), noughts), topped(r.q, noughts))
				told(t, got, e, new(big.Rat).Mul(v, new(big.Rat).SetInt(s)), r.p, r.q, noughts)
			}
		}
	}
}

// 4.1: Make of any two whole numbers, with noughts on top and divisors in common.
func TestMakePairs(t *testing.T) {
	pairs(func(a, b api.Num, x, y *big.Rat) {
		p, q := x.Num(), y.Num()
		factor := new(big.Int).Mul(x.Denom(), big.NewInt(6))
		p, q = new(big.Int).Mul(p, factor), new(big.Int).Mul(q, factor)
		got, e := Make(topped(p, 2), topped(q, 1))
		if q.Sign() == 0 {
			told(t, got, e, nil, p, q)
			return
		}
		told(t, got, e, by(p, q), p, q)
	})
}

// 4.1: Of and Whole tell whole numbers.
func TestOfAndWhole(t *testing.T) {
	for _, n := range []int{0, 1, -1, 5, -5, most, -most, 1 << 32, -1 << 32, math.MaxInt, math.MinInt, math.MinInt + 1} {
		want := numOf(new(big.Rat).SetInt64(int64(n)))
		if got := Of(n); !same(got, want) || !Right(got) {
			t.Error(n, got)
		}
	}
	for _, n := range nothings() {
		if got := Whole(n); !same(got, api.Num{Bot: []uint32{1}}) {
			t.Error(n, got)
		}
	}
	for _, v := range []*big.Int{big.NewInt(1), big.NewInt(-7), near(32, 0), near(1024, -1), near(1023, 0), near(992, 0), new(big.Int).Neg(near(1024, -1))} {
		for _, noughts := range []int{0, 1, 40} {
			if got := Whole(topped(v, noughts)); !same(got, numOf(new(big.Rat).SetInt(v))) || !Right(got) {
				t.Error(v, noughts, got)
			}
		}
	}
	for _, v := range []*big.Int{near(1024, 0), near(1025, -1), near(5000, 3)} {
		if got := Whole(intOf(v)); Right(got) || len(got.Top) > 0 || len(got.Bot) > 0 || got.Neg {
			t.Error(v, "is too great, and", got)
		}
	}
}

// 4.1: Right tells which numbers are right, whatever they hold.
func TestRight(t *testing.T) {
	type row struct {
		a     api.Num
		right bool
	}
	one, full := []uint32{1}, limbs(near(1024, -1))
	for _, r := range []row{
		{api.Num{Bot: one}, true}, {api.Num{Top: one, Bot: one}, true}, {api.Num{Neg: true, Top: one, Bot: one}, true}, {api.Num{Top: []uint32{7}, Bot: []uint32{3}}, true}, {api.Num{Neg: true, Top: []uint32{0, 7}, Bot: []uint32{3}}, true}, {api.Num{Top: one, Bot: []uint32{0, 1}}, true}, {api.Num{Top: []uint32{}, Bot: one}, true},
		{api.Num{}, false}, {api.Num{Top: one}, false}, {api.Num{Top: one, Bot: []uint32{0}}, false}, {api.Num{Top: one, Bot: []uint32{}}, false}, {api.Num{Neg: true}, false}, {api.Num{Bot: []uint32{0, 0}}, false},
		{api.Num{Neg: true, Bot: one}, false}, {api.Num{Bot: []uint32{2}}, false}, {api.Num{Bot: []uint32{0, 1}}, false}, {api.Num{Neg: true, Bot: []uint32{5}}, false}, {api.Num{Top: []uint32{0}, Bot: one}, false}, {api.Num{Neg: true, Top: []uint32{0}, Bot: one}, false},
		{api.Num{Top: []uint32{2}, Bot: []uint32{4}}, false}, {api.Num{Top: []uint32{4}, Bot: []uint32{2}}, false}, {api.Num{Top: []uint32{6}, Bot: []uint32{9}}, false}, {api.Num{Neg: true, Top: []uint32{5}, Bot: []uint32{5}}, false}, {api.Num{Top: []uint32{0, 1}, Bot: []uint32{0, 3}}, false},
		{api.Num{Top: []uint32{1, 0}, Bot: one}, false}, {api.Num{Top: one, Bot: []uint32{1, 0}}, false}, {api.Num{Top: []uint32{3, 0}, Bot: []uint32{2, 0}}, false}, {api.Num{Top: []uint32{3, 0, 0}, Bot: []uint32{2}}, false}, {api.Num{Top: []uint32{3}, Bot: []uint32{2, 0}}, false},
		{api.Num{Top: full, Bot: one}, true}, {api.Num{Neg: true, Top: one, Bot: full}, true}, {api.Num{Top: full, Bot: limbs(near(1024, -3))}, true}, {api.Num{Top: append(slices.Clone(full), 1), Bot: one}, false}, {api.Num{Top: one, Bot: append(slices.Clone(full), 1)}, false}, {api.Num{Top: append(slices.Clone(full), 0), Bot: one}, false}, {api.Num{Top: one, Bot: append(slices.Clone(full), 0)}, false}, {api.Num{Top: full, Bot: full}, false},
	} {
		if got := Right(r.a); got != r.right {
			t.Error(r.a, got)
		}
	}
	for _, v := range values() {
		a := numOf(v)
		doubled := api.Num{Neg: a.Neg, Top: limbs(new(big.Int).Lsh(v.Num(), 1)), Bot: limbs(new(big.Int).Lsh(v.Denom(), 1))}
		if !Right(a) || Right(doubled) {
			t.Error(v, Right(a), Right(doubled))
		}
	}
}

// 4.1: Same tells whether the fields of both are the same, of right numbers and of others.
func TestSame(t *testing.T) {
	l := []api.Num{
		{}, {Neg: true}, {Bot: []uint32{1}}, {Top: []uint32{1}}, {Top: []uint32{1}, Bot: []uint32{1}}, {Neg: true, Top: []uint32{1}, Bot: []uint32{1}}, {Top: []uint32{1}, Bot: []uint32{1, 0}}, {Top: []uint32{1, 0}, Bot: []uint32{1}}, {Top: []uint32{2}, Bot: []uint32{2}}, {Top: []uint32{1}, Bot: []uint32{2}}, {Top: []uint32{2}, Bot: []uint32{1}}, {Top: []uint32{0}, Bot: []uint32{1}}, {Neg: true, Bot: []uint32{1}}, {Top: []uint32{1, 2}, Bot: []uint32{1}}, {Top: []uint32{2, 1}, Bot: []uint32{1}},
	}
	for i, a := range l {
		for j, b := range l {
			if Same(a, b) != (i == j) {
				t.Error(a, b, Same(a, b))
			}
		}
		if !Same(a, api.Num{Neg: a.Neg, Top: slices.Clone(a.Top), Bot: slices.Clone(a.Bot)}) {
			t.Error(a, "is not as its copy")
		}
	}
	if !Same(api.Num{}, api.Num{Top: []uint32{}, Bot: []uint32{}}) {
		t.Error("nil and empty lists are not the same")
	}
	pairs(func(a, b api.Num, x, y *big.Rat) {
		if Same(a, b) != (x.Cmp(y) == 0) {
			t.Error(a, b, Same(a, b))
		}
	})
}

// 4.1: Int tells a whole number as it is, and 0 and false of others; Small, which must be an int's.
func TestIntAndSmall(t *testing.T) {
	type row struct {
		a         string
		whole, ok bool
		n         int
	}
	for _, r := range []row{
		{"0", true, true, 0}, {"1", true, true, 1}, {"-1", true, true, -1}, {"-12", true, true, -12}, {"1/2", false, false, 0}, {"-7/2", false, false, 0}, {"1/4294967296", false, false, 0}, {"4294967296/4294967297", false, false, 0},
		{"9223372036854775807", true, true, math.MaxInt}, {"-9223372036854775808", true, true, math.MinInt}, {"9223372036854775808", true, false, 0}, {"-9223372036854775809", true, false, 0}, {"9223372036854775807/2", false, false, 0},
	} {
		i, isWhole := Int(num(r.a))
		if isWhole != r.whole || i.Neg != (isWhole && rat(r.a).Sign() < 0) || isWhole && intValue(i).Cmp(rat(r.a).Num()) != 0 || !isWhole && len(i.Mag) != 0 {
			t.Error(r, i, isWhole)
		}
		if n, ok := Small(num(r.a)); ok != r.ok || n != r.n {
			t.Error(r, n, ok)
		}
	}
	for _, v := range values() {
		i, ok := Int(numOf(v))
		if ok != v.IsInt() || ok && (i.Neg != (v.Sign() < 0) || !slices.Equal(i.Mag, limbs(v.Num()))) || !ok && (i.Neg || len(i.Mag) != 0) {
			t.Error(v, i, ok)
		}
		want := v.IsInt() && v.Num().IsInt64()
		if n, ok := Small(numOf(v)); ok != want || ok && int64(n) != v.Num().Int64() || !ok && n != 0 {
			t.Error(v, n, ok)
		}
	}
}

// 4.1: Sign, Neg and Abs; 0 has no sign.
func TestSignNegAndAbs(t *testing.T) {
	if zero := Of(0); Sign(zero) != 0 || !same(Neg(zero), zero) || !same(Abs(zero), zero) {
		t.Error("of 0:", Sign(zero), Neg(zero), Abs(zero))
	}
	half := num("-1/2")
	if Sign(half) != -1 || Sign(num("1/2")) != 1 || !same(Neg(half), num("1/2")) || !same(Neg(num("1/2")), half) || !same(Abs(half), num("1/2")) || !same(Abs(num("1/2")), num("1/2")) {
		t.Error("of a half:", Sign(half), Neg(half), Abs(half))
	}
	for _, v := range values() {
		a := numOf(v)
		if Sign(a) != v.Sign() || !same(Neg(a), numOf(new(big.Rat).Neg(v))) || !same(Abs(a), numOf(new(big.Rat).Abs(v))) || !Right(Neg(a)) || !Right(Abs(a)) {
			t.Error(v, Sign(a), Neg(a), Abs(a))
		}
	}
}

// 4.1: Cmp of any two numbers.
func TestCmp(t *testing.T) {
	type row struct {
		a, b string
		cmp  int
	}
	for _, r := range []row{{"1/3", "1/2", -1}, {"1/2", "1/3", 1}, {"-1/3", "-1/2", 1}, {"-1/2", "-1/3", -1}, {"0", "0", 0}, {"0", "1/9", -1}, {"0", "-1/9", 1}, {"-5", "5", -1}, {"5", "-5", 1}, {"7/2", "7/2", 0}, {"3", "7/2", -1}, {"4", "7/2", 1}, {"4294967296/4294967297", "4294967295/4294967296", 1}} {
		if got := Cmp(num(r.a), num(r.b)); got != r.cmp {
			t.Error(r, got)
		}
	}
	pairs(func(a, b api.Num, x, y *big.Rat) {
		if Cmp(a, b) != x.Cmp(y) {
			t.Error(a, b, Cmp(a, b))
		}
	})
}

// 4.2: Add, Sub, Mul and Div at numbers that are written out.
func TestReckoning(t *testing.T) {
	type row struct{ a, b, sum, difference, product, quotient string }
	for _, r := range []row{
		{"1/2", "1/3", "5/6", "1/6", "1/6", "3/2"}, {"1/2", "1/2", "1", "0", "1/4", "1"}, {"1/2", "-1/2", "0", "1", "-1/4", "-1"}, {"-2/3", "9/4", "19/12", "-35/12", "-3/2", "-8/27"}, {"-2/3", "-9/4", "-35/12", "19/12", "3/2", "8/27"}, {"5", "-3", "2", "8", "-15", "-5/3"},
		{"0", "-5", "-5", "5", "0", "0"}, {"0", "7/2", "7/2", "-7/2", "0", "0"}, {"1/6", "1/10", "4/15", "1/15", "1/60", "5/3"}, {"4294967295", "1", "4294967296", "4294967294", "4294967295", "4294967295"}, {"1/4294967296", "4294967296", "18446744073709551617/4294967296", "-18446744073709551615/4294967296", "1", "1/18446744073709551616"},
	} {
		a, b := num(r.a), num(r.b)
		sum, e := Add(a, b)
		told(t, sum, e, rat(r.sum), r)
		difference, e := Sub(a, b)
		told(t, difference, e, rat(r.difference), r)
		product, e := Mul(a, b)
		told(t, product, e, rat(r.product), r)
		quotient, e := Div(a, b)
		told(t, quotient, e, rat(r.quotient), r)
	}
}

// quotient is a value by another one; none, if that is 0.
func quotient(x, y *big.Rat) *big.Rat {
	if y.Sign() == 0 {
		return nil
	}
	return new(big.Rat).Quo(x, y)
}

// 4.2: Add, Sub, Mul and Div of any two numbers: the right number, or Limit; Domain by 0, and by nothing else.
func TestReckoningPairs(t *testing.T) {
	pairs(func(a, b api.Num, x, y *big.Rat) {
		got, e := Add(a, b)
		told(t, got, e, new(big.Rat).Add(x, y), "Add", a, b)
		got, e = Sub(a, b)
		told(t, got, e, new(big.Rat).Sub(x, y), "Sub", a, b)
		got, e = Mul(a, b)
		told(t, got, e, new(big.Rat).Mul(x, y), "Mul", a, b)
		got, e = Div(a, b)
		told(t, got, e, quotient(x, y), "Div", a, b)
	})
}

// 4.2: sums, differences, products and quotients of just 32 limbs, and of one more.
func TestReckoningAtTheCap(t *testing.T) {
	type row struct {
		call func(a, b api.Num) (api.Num, api.Errno)
		a, b *big.Rat
		e    api.Errno
	}
	one, two := rat("1"), rat("2")
	full, half := by(near(1024, -1), big.NewInt(1)), by(near(1023, 0), big.NewInt(1))
	small, nearHalf := by(big.NewInt(1), near(1023, 0)), by(near(512, 0), big.NewInt(1))
	for _, r := range []row{
		{Add, full, rat("0"), api.OK}, {Add, full, one, api.Limit}, {Add, full, rat("-1"), api.OK}, {Add, half, half, api.Limit}, {Add, half, by(near(1023, -1), big.NewInt(1)), api.OK}, {Add, small, one, api.OK}, {Add, full, rat("1/2"), api.Limit}, {Add, full, rat("-1/2"), api.Limit},
		{Sub, full, rat("-1"), api.Limit}, {Sub, full, one, api.OK}, {Sub, full, full, api.OK}, {Sub, new(big.Rat).Neg(full), one, api.Limit}, {Sub, new(big.Rat).Neg(half), half, api.Limit},
		{Mul, half, two, api.Limit}, {Mul, half, one, api.OK}, {Mul, half, rat("-1"), api.OK}, {Mul, nearHalf, nearHalf, api.Limit}, {Mul, nearHalf, by(near(511, 0), big.NewInt(1)), api.OK}, {Mul, small, rat("1/2"), api.Limit}, {Mul, small, two, api.OK}, {Mul, full, new(big.Rat).Inv(full), api.OK}, {Mul, full, small, api.OK}, {Mul, full, rat("0"), api.OK},
		{Div, half, rat("1/2"), api.Limit}, {Div, half, two, api.OK}, {Div, small, two, api.Limit}, {Div, small, rat("1/2"), api.OK}, {Div, full, full, api.OK}, {Div, full, small, api.Limit}, {Div, one, full, api.OK}, {Div, rat("0"), full, api.OK}, {Div, full, rat("0"), api.Domain}, {Div, rat("0"), rat("0"), api.Domain},
	} {
		got, e := r.call(numOf(r.a), numOf(r.b))
		if e != r.e || e != api.OK && !same(got, api.Num{}) || e == api.OK && !Right(got) {
			t.Error(r.a, r.b, got, e)
		}
	}
}

// 4.2: Floor and Ceil on both sides of 0.
func TestFloorAndCeil(t *testing.T) {
	type row struct{ a, floor, ceil string }
	for _, r := range []row{
		{"0", "0", "0"}, {"5", "5", "5"}, {"-5", "-5", "-5"}, {"7/2", "3", "4"}, {"-7/2", "-4", "-3"}, {"1/2", "0", "1"}, {"-1/2", "-1", "0"}, {"1/3", "0", "1"}, {"-1/3", "-1", "0"}, {"2/3", "0", "1"}, {"-2/3", "-1", "0"}, {"-8/3", "-3", "-2"}, {"8/3", "2", "3"},
		{"8589934591/2", "4294967295", "4294967296"}, {"-8589934591/2", "-4294967296", "-4294967295"}, {"1/18446744073709551616", "0", "1"}, {"-1/18446744073709551616", "-1", "0"},
	} {
		if floor, ceil := Floor(num(r.a)), Ceil(num(r.a)); !same(floor, num(r.floor)) || !same(ceil, num(r.ceil)) {
			t.Error(r, floor, ceil)
		}
	}
	for _, v := range values() {
		down := floorOf(v)
		up := floorOf(new(big.Rat).Neg(v))
		if floor := Floor(numOf(v)); !same(floor, numOf(down)) || !Right(floor) {
			t.Error(v, floor)
		}
		if ceil := Ceil(numOf(v)); !same(ceil, numOf(up.Neg(up))) || !Right(ceil) {
			t.Error(v, ceil)
		}
	}
}

// floorOf is the greatest whole value that is not greater: the library's Div is rounded down, as a denominator is above 0.
func floorOf(v *big.Rat) *big.Rat {
	return new(big.Rat).SetInt(new(big.Int).Div(v.Num(), v.Denom()))
}

// 4.2: Mod at each pair of signs, of wholes and of others, and with an a of 0.
func TestMod(t *testing.T) {
	type row struct{ a, b, rest string }
	for _, r := range []row{
		{"3", "7", "1"}, {"3", "-7", "2"}, {"-3", "7", "-2"}, {"-3", "-7", "-1"}, {"3", "6", "0"}, {"3", "-6", "0"}, {"-3", "6", "0"}, {"-3", "-6", "0"}, {"7", "3", "3"}, {"7", "-3", "4"}, {"-7", "3", "-4"}, {"-7", "-3", "-3"}, {"3", "0", "0"}, {"-3", "0", "0"},
		{"0", "7/2", "7/2"}, {"0", "-7/2", "-7/2"}, {"0", "0", "0"}, {"0", "12", "12"}, {"1/2", "5/3", "1/6"}, {"1/2", "-5/3", "1/3"}, {"-1/2", "5/3", "-1/3"}, {"-1/2", "-5/3", "-1/6"}, {"1", "7/2", "1/2"}, {"1", "-7/2", "1/2"}, {"-1", "7/2", "-1/2"}, {"-1", "-7/2", "-1/2"}, {"2/3", "4", "0"}, {"4294967296", "18446744073709551615", "4294967295"}, {"4294967296", "-18446744073709551615", "1"},
	} {
		got, e := Mod(num(r.a), num(r.b))
		told(t, got, e, rat(r.rest), r)
	}
	for _, v := range values() {
		got, e := Mod(Of(0), numOf(v))
		told(t, got, e, v, "0 and", v)
	}
}

// restOf is Mod's value, and whether each of what is reckoned has no more limbs than may be.
func restOf(x, y *big.Rat) (*big.Rat, bool) {
	if x.Sign() == 0 {
		return y, true
	}
	times := quotient(y, x)
	product := new(big.Rat).Mul(x, floorOf(times))
	rest := new(big.Rat).Sub(y, product)
	return rest, fits(times) && fits(product) && fits(rest)
}

// 4.2: Mod of any two numbers, step by step.
func TestModPairs(t *testing.T) {
	pairs(func(a, b api.Num, x, y *big.Rat) {
		got, e := Mod(a, b)
		rest, ok := restOf(x, y)
		if !ok {
			refused(t, got, e, api.Limit, a, b)
			return
		}
		told(t, got, e, rest, a, b)
		if Sign(a) != 0 && (Sign(got)*Sign(a) < 0 || Cmp(Abs(got), Abs(a)) >= 0) {
			t.Error("the rest of", b, "by", a, "is", got)
		}
	})
}

// 4.2: Mod tells Limit, if the quotient alone is too great, or the product alone, or the difference alone.
func TestModAtTheCap(t *testing.T) {
	type row struct {
		about string
		a, b  *big.Rat
		fit   [3]bool
	}
	one, two := big.NewInt(1), big.NewInt(2)
	for _, r := range []row{
		{"all fit", by(one, near(1022, 1)), by(one, two), [3]bool{true, true, true}},
		{"quotient", by(near(1023, 0), one), by(near(1022, 1), near(1023, -1)), [3]bool{false, true, true}},
		{"product", by(near(1000, 1), near(1000, 3)), by(near(1000, 1), two), [3]bool{true, false, true}},
		{"difference", by(one, near(1023, 1)), by(one, two), [3]bool{true, true, false}},
	} {
		times := quotient(r.b, r.a)
		product := new(big.Rat).Mul(r.a, floorOf(times))
		rest := new(big.Rat).Sub(r.b, product)
		if fit := [3]bool{fits(times), fits(product), fits(rest)}; fit != r.fit {
			t.Fatal(r.about, fit)
		}
		got, e := Mod(numOf(r.a), numOf(r.b))
		if r.about == "all fit" {
			told(t, got, e, rest, r.about)
		} else {
			refused(t, got, e, api.Limit, r.about)
		}
	}
}

// 4.3: Pow at numbers that are written out, with exponents above, at and below 0.
func TestPow(t *testing.T) {
	type row struct {
		a string
		n int
		p string
	}
	for _, r := range []row{
		{"0", 0, "1"}, {"5", 0, "1"}, {"-7/2", 0, "1"}, {"0", 1, "0"}, {"0", 9, "0"}, {"0", math.MaxInt, "0"}, {"2/3", 1, "2/3"}, {"2/3", 3, "8/27"}, {"-2/3", 3, "-8/27"}, {"-2/3", 2, "4/9"}, {"-2/3", -3, "-27/8"}, {"-2/3", -2, "9/4"}, {"2/3", -1, "3/2"}, {"5", -1, "1/5"}, {"-5", -1, "-1/5"}, {"-5", -2, "1/25"}, {"1/2", -10, "1024"}, {"-1/2", -11, "-2048"}, {"10", 20, "100000000000000000000"},
		{"1", math.MaxInt, "1"}, {"1", -math.MaxInt, "1"}, {"-1", math.MaxInt, "-1"}, {"-1", -math.MaxInt, "-1"}, {"-1", math.MaxInt - 1, "1"}, {"-1", math.MinInt + 2, "1"}, {"4294967295", -1, "1/4294967295"},
	} {
		got, e := Pow(num(r.a), r.n)
		told(t, got, e, rat(r.p), r)
	}
}

// 4.3: below 0 there is Domain of 0; so there is at the least int, of whatever number.
func TestPowRefuses(t *testing.T) {
	for _, n := range []int{-1, -2, -3, -math.MaxInt, math.MinInt} {
		got, e := Pow(Of(0), n)
		refused(t, got, e, api.Domain, n)
	}
	for _, v := range values() {
		got, e := Pow(numOf(v), math.MinInt)
		refused(t, got, e, api.Domain, v)
	}
}

// 4.3: powers of any number by another way, to where they are too great, and beyond.
func TestPowByProducts(t *testing.T) {
	for _, v := range values() {
		up, down := rat("1"), rat("1")
		for n := range 1030 {
			got, e := Pow(numOf(v), n)
			told(t, got, e, up, v, n)
			if v.Sign() != 0 {
				got, e = Pow(numOf(v), -n)
				told(t, got, e, down, v, -n)
			}
			if !fits(up) {
				break
			}
			up.Mul(up, v)
			if v.Sign() != 0 {
				down.Quo(down, v)
			}
		}
	}
}

// 4.3: a power may have 32 limbs on either side, and not one more.
func TestPowAtTheCap(t *testing.T) {
	type row struct {
		a string
		n int
		e api.Errno
	}
	for _, r := range []row{
		{"2", 1023, api.OK}, {"2", 1024, api.Limit}, {"1/2", 1023, api.OK}, {"1/2", 1024, api.Limit}, {"2", -1023, api.OK}, {"2", -1024, api.Limit}, {"1/2", -1023, api.OK}, {"-1/2", -1024, api.Limit}, {"-3/2", 646, api.OK}, {"-3/2", 647, api.Limit}, {"2/3", -646, api.OK}, {"2/3", -647, api.Limit}, {"2/3", 646, api.OK}, {"2/3", 647, api.Limit},
		{"2", math.MaxInt, api.Limit}, {"2", -math.MaxInt, api.Limit}, {"1/2", math.MaxInt, api.Limit}, {"-2/3", math.MinInt + 1, api.Limit},
	} {
		got, e := Pow(num(r.a), r.n)
		if e != r.e {
			t.Error(r, e)
		}
		if r.e != api.OK {
			refused(t, got, e, api.Limit, r)
		} else if !Right(got) {
			t.Error(r, got)
		}
	}
}

// 4.3: Gcd and Lcm at numbers that are written out, 0 and signs among them.
func TestGcdAndLcm(t *testing.T) {
	type row struct{ a, b, gcd, lcm string }
	for _, r := range []row{
		{"12", "18", "6", "36"}, {"-12", "18", "6", "-36"}, {"12", "-18", "6", "-36"}, {"-12", "-18", "6", "36"}, {"4", "-6", "2", "-12"}, {"7", "5", "1", "35"}, {"5", "5", "5", "5"}, {"-5", "-5", "5", "5"}, {"1", "9", "1", "9"}, {"3", "9", "3", "9"}, {"9", "-3", "3", "-9"},
		{"0", "0", "0", "0"}, {"0", "5", "5", "0"}, {"5", "0", "5", "0"}, {"0", "-5", "5", "0"}, {"-5", "0", "5", "0"}, {"18446744073709551616", "4294967296", "4294967296", "18446744073709551616"}, {"4294967295", "4294967297", "1", "18446744073709551615"},
	} {
		gcd, e := Gcd(num(r.a), num(r.b))
		told(t, gcd, e, rat(r.gcd), r)
		lcm, e := Lcm(num(r.a), num(r.b))
		told(t, lcm, e, rat(r.lcm), r)
	}
}

// gcdOf is the greatest value that divides both; none, unless both are whole.
func gcdOf(x, y *big.Rat) *big.Rat {
	if !x.IsInt() || !y.IsInt() {
		return nil
	}
	return new(big.Rat).SetInt(new(big.Int).GCD(nil, nil, new(big.Int).Abs(x.Num()), new(big.Int).Abs(y.Num())))
}

// lcmOf is the product by that: none, unless both are whole.
func lcmOf(x, y *big.Rat) *big.Rat {
	gcd := gcdOf(x, y)
	if gcd == nil || gcd.Sign() == 0 {
		return gcd
	}
	product := new(big.Rat).Mul(x, y)
	return product.Quo(product, gcd)
}

// 4.3: Gcd and Lcm of any two numbers; of those that are not whole Domain, ahead of Limit.
func TestGcdAndLcmPairs(t *testing.T) {
	pairs(func(a, b api.Num, x, y *big.Rat) {
		gcd, e := Gcd(a, b)
		told(t, gcd, e, gcdOf(x, y), "Gcd", a, b)
		lcm, e := Lcm(a, b)
		told(t, lcm, e, lcmOf(x, y), "Lcm", a, b)
	})
	for _, s := range []string{"1/2", "-1/2", "7/3", "1/4294967296"} {
		for _, other := range []string{"0", "1", "-1", "6", "1/2"} {
			for _, call := range []func(a, b api.Num) (api.Num, api.Errno){Gcd, Lcm} {
				got, e := call(num(s), num(other))
				refused(t, got, e, api.Domain, s, other)
				got, e = call(num(other), num(s))
				refused(t, got, e, api.Domain, other, s)
			}
		}
	}
}

// 4.3: Lcm of just 32 limbs, and of one more.
func TestLcmAtTheCap(t *testing.T) {
	type row struct {
		a, b *big.Int
		e    api.Errno
	}
	for _, r := range []row{
		{near(1023, 0), big.NewInt(2), api.OK}, {near(1023, 0), big.NewInt(3), api.Limit}, {near(512, 1), near(512, -1), api.OK}, {near(512, 0), near(512, 1), api.Limit}, {near(1024, -1), near(1024, -1), api.OK}, {near(1024, -1), big.NewInt(0), api.OK}, {near(1023, 0), near(1022, 0), api.OK}, {big.NewInt(-3), near(1023, 0), api.Limit},
	} {
		x, y := new(big.Rat).SetInt(r.a), new(big.Rat).SetInt(r.b)
		if fits(lcmOf(x, y)) != (r.e == api.OK) {
			t.Fatal(r)
		}
		got, e := Lcm(numOf(x), numOf(y))
		told(t, got, e, lcmOf(x, y), r)
	}
}

// 4.4: a quotient, times the divisor, is the number again.
func TestQuotientLaw(t *testing.T) {
	pairs(func(a, b api.Num, _, _ *big.Rat) {
		quotient, e := Div(a, b)
		if e != api.OK {
			return
		}
		if again, e := Mul(quotient, b); e != api.OK || !Same(again, a) {
			t.Error(a, b, quotient, again, e)
		}
	})
}

// 4.4: sums and products don't ask for the order of their parts, or for brackets, where none is too great.
func TestBrackets(t *testing.T) {
	l := values()
	for _, call := range []func(a, b api.Num) (api.Num, api.Errno){Add, Mul} {
		at := 0
		pairs(func(a, b api.Num, _, _ *big.Rat) {
			at += 7
			c := numOf(l[at%len(l)])
			ab, e1 := call(a, b)
			ba, e2 := call(b, a)
			if e1 != e2 || !Same(ab, ba) {
				t.Error("order", a, b)
			}
			bc, e3 := call(b, c)
			if e1 != api.OK || e3 != api.OK {
				return
			}
			left, e4 := call(ab, c)
			right, e5 := call(a, bc)
			if e4 != e5 || !Same(left, right) {
				t.Error("brackets", a, b, c)
			}
		})
	}
}

// one is an answer alone, in a list.
func one(a api.Num, _ api.Errno) []api.Num { return []api.Num{a} }

// mark is whether there is an answer, as a number.
func mark(ok bool) api.Num {
	if ok {
		return num("1")
	}
	return num("0")
}

// calls are all calls, each with the numbers that it answers, ints and bools among them.
func calls() map[string]func(a, b api.Num) []api.Num {
	l := map[string]func(a, b api.Num) []api.Num{
		"Make": func(a, b api.Num) []api.Num {
			return one(Make(whole.Int{Neg: a.Neg, Mag: a.Top}, whole.Int{Neg: b.Neg, Mag: b.Bot}))
		},
		"Whole": func(a, _ api.Num) []api.Num { return []api.Num{Whole(whole.Int{Neg: a.Neg, Mag: a.Top})} },
		"Right": func(a, _ api.Num) []api.Num { return []api.Num{mark(Right(a))} },
		"Same":  func(a, b api.Num) []api.Num { return []api.Num{mark(Same(a, b))} },
		"Int": func(a, _ api.Num) []api.Num {
			n, ok := Int(a)
			return []api.Num{{Neg: n.Neg, Top: n.Mag}, mark(ok)}
		},
		"Small": func(a, _ api.Num) []api.Num { n, ok := Small(a); return []api.Num{Of(n), mark(ok)} },
		"Sign":  func(a, _ api.Num) []api.Num { return []api.Num{Of(Sign(a))} },
		"Cmp":   func(a, b api.Num) []api.Num { return []api.Num{Of(Cmp(a, b))} },
	}
	for name, call := range map[string]func(a api.Num) api.Num{"Neg": Neg, "Abs": Abs, "Floor": Floor, "Ceil": Ceil} {
		l[name] = func(a, _ api.Num) []api.Num { return []api.Num{call(a)} }
	}
	for name, call := range map[string]func(a, b api.Num) (api.Num, api.Errno){"Add": Add, "Sub": Sub, "Mul": Mul, "Div": Div, "Mod": Mod, "Gcd": Gcd, "Lcm": Lcm} {
		l[name] = func(a, b api.Num) []api.Num { return one(call(a, b)) }
	}
	for name, n := range map[string]int{"Pow of 0": 0, "Pow of 1": 1, "Pow of 3": 3, "Pow of -1": -1, "Pow of -2": -2, "Pow of the least": math.MinInt} {
		l[name] = func(a, _ api.Num) []api.Num { return one(Pow(a, n)) }
	}
	return l
}

// fill writes into a list, up to its capacity.
func fill(a []uint32, x uint32) {
	a = a[:cap(a)]
	for i := range a {
		a[i] = x
	}
}

// roomy is a number whose lists have more behind their length.
func roomy(a api.Num) api.Num {
	top, bot := append(slices.Clone(a.Top), 77, most), append(slices.Clone(a.Bot), 99, most)
	return api.Num{Neg: a.Neg, Top: top[:len(a.Top)], Bot: bot[:len(a.Bot)]}
}

// untouched tells whether a roomy number is still as it was made of another one.
func untouched(got, a api.Num) bool {
	return slices.Equal(got.Top[:len(a.Top)+2], append(slices.Clone(a.Top), 77, most)) && slices.Equal(got.Bot[:len(a.Bot)+2], append(slices.Clone(a.Bot), 99, most))
}

// R4 and R5: what is handed in stays as it is, what lies behind it is not read, answers are new memory, and come again.
func TestSharesNothing(t *testing.T) {
	l := values()
	for name, call := range calls() {
		for i := range l {
			a, b := numOf(l[i]), numOf(l[i*7%len(l)])
			inA, inB := roomy(a), roomy(b)
			want := call(a, b)
			for j := range want {
				answers := call(inA, inB)
				fill(answers[j].Top, 123456)
				if !slices.Equal(answers[j].Bot, want[j].Bot) {
					t.Error(name, a, b, "an answer's lists share memory")
				}
				fill(answers[j].Bot, 654321)
				for k, other := range answers {
					if k != j && !same(other, want[k]) {
						t.Error(name, a, b, "answers share memory")
					}
				}
			}
			if !untouched(inA, a) || !untouched(inB, b) {
				t.Error(name, a, b, "what was handed in is changed, or shared")
			}
			for j, other := range call(inA, inB) {
				if !same(other, want[j]) {
					t.Error(name, a, b, "another answer")
				}
			}
		}
	}
}

// P1: numbers that are not right end, without a panic, too.
func TestWrong(t *testing.T) {
	wrong := []api.Num{
		{}, {Neg: true}, {Top: []uint32{0}}, {Top: []uint32{5}}, {Neg: true, Top: []uint32{5, 0}, Bot: []uint32{0, 0}}, {Bot: []uint32{5}}, {Neg: true, Bot: []uint32{1}}, {Top: []uint32{4}, Bot: []uint32{2}}, {Top: []uint32{4, 0, 0}, Bot: []uint32{2, 0}}, {Neg: true, Top: make([]uint32, 50), Bot: make([]uint32, 50)}, {Top: limbs(near(3000, 0)), Bot: limbs(near(2000, 0))}, {Top: limbs(near(2000, 0)), Bot: append(limbs(near(3000, 1)), 0)},
	}
	for _, call := range calls() {
		for _, a := range wrong {
			for _, b := range append(wrong, num("3/2"), num("0")) {
				call(a, b)
				call(b, a)
			}
		}
	}
}

// P1: long lists end soon, where they may come in.
func TestLong(t *testing.T) {
	long, noughts := make([]uint32, 1<<17), make([]uint32, 1<<17)
	x := uint64(7)
	for i := range long {
		x = x*6364136223846793005 + 1442695040888963407
		long[i] = uint32(x>>32) | 1
	}
	if Right(api.Num{Top: long, Bot: slices.Concat([]uint32{4}, long)}) || Right(api.Num{Top: noughts, Bot: []uint32{1}}) || Right(api.Num{Top: []uint32{1}, Bot: long}) {
		t.Error("a long number is right")
	}
	got, e := Make(whole.Int{Mag: long}, whole.Of(-1))
	refused(t, got, e, api.Limit, "a long number by -1")
	got, e = Make(whole.Int{Neg: true, Mag: noughts}, whole.Int{Mag: long})
	told(t, got, e, new(big.Rat), "noughts by a long number")
	got, e = Make(whole.Int{Mag: long}, whole.Int{Neg: true, Mag: noughts})
	refused(t, got, e, api.Domain, "a long number by noughts")
	if !same(Whole(whole.Int{Neg: true, Mag: noughts}), Of(0)) || Right(Whole(whole.Int{Mag: long})) {
		t.Error("Whole of a long list")
	}
}
