package nat

import (
	"math"
	"math/big"
	"slices"
	"strconv"
	"strings"
	"testing"
)

const top = math.MaxUint32

// samples are numbers of all sorts: 0, one limb, many limbs, with noughts on top and without, and mixtures that a fixed rule makes.
func samples() [][]uint32 {
	l := [][]uint32{
		nil, {}, {0}, {0, 0, 0}, {1}, {1, 0}, {2}, {9}, {10}, {12}, {18, 0, 0}, {999999999}, {1000000000}, {1 << 31}, {top - 1}, {top}, {top, 0, 0},
		{0, 1}, {1, 1}, {top, 1}, {0, top}, {top, top}, {1, 1 << 31}, {0, 1 << 31}, {top, top, 0, 0}, {0xA7640000, 0xDE0B6B3},
		{0, 0, 1}, {0, 0, 1 << 31}, {1, 0, 1 << 31}, {top, top - 1, 1 << 31}, {top, 0, top}, {0, top, top, 0}, {top, top, top}, {0, top - 1, 1 << 31, 0},
		{0, 0, 0, 1}, {top, top, top, top}, {1, 0, 0, 0, 0, 0, 1}, {0, 0, 0, 0, 0, 0, top},
	}
	x := uint64(7)
	next := func() uint32 {
		x = x*6364136223846793005 + 1442695040888963407
		return uint32(x >> 33)
	}
	for n := 1; n <= 40; n += 1 + n/6 {
		for range 3 {
			a := make([]uint32, n)
			for i := range a {
				switch a[i] = next(); a[i] % 4 {
				case 0:
					a[i] = 0
				case 1:
					a[i] = top
				}
			}
			l = append(l, a, append(slices.Clone(a), 0, 0))
		}
	}
	return l
}

// value is the number by another way than the package's.
func value(a []uint32) *big.Int {
	v := new(big.Int)
	for _, limb := range slices.Backward(a) {
		v.Or(v.Lsh(v, 32), big.NewInt(int64(limb)))
	}
	return v
}

// limbsOf are a number's limbs, without any of 0 on top.
func limbsOf(v *big.Int) []uint32 {
	var a []uint32
	mask := big.NewInt(top)
	for v = new(big.Int).Set(v); v.Sign() > 0; v.Rsh(v, 32) {
		a = append(a, uint32(new(big.Int).And(v, mask).Uint64()))
	}
	return a
}

// pairs calls a test with any two samples, and with their values.
func pairs(test func(a, b []uint32, x, y *big.Int)) {
	l := samples()
	values := make([]*big.Int, len(l))
	for i, a := range l {
		values[i] = value(a)
	}
	for i, a := range l {
		for j, b := range l {
			test(a, b, values[i], values[j])
		}
	}
}

// is tells whether limbs are a value's, with none of 0 on top.
func is(a []uint32, v *big.Int) bool { return slices.Equal(a, limbsOf(v)) }

// 2.1: Norm tells the same number without limbs of 0 on top, and leaves those below.
func TestNorm(t *testing.T) {
	type row struct{ a, norm []uint32 }
	for _, r := range []row{
		{nil, nil}, {[]uint32{}, nil}, {[]uint32{0}, nil}, {[]uint32{0, 0, 0}, nil}, {[]uint32{5}, []uint32{5}}, {[]uint32{5, 0}, []uint32{5}},
		{[]uint32{0, 5}, []uint32{0, 5}}, {[]uint32{0, 0, 1, 0, 0}, []uint32{0, 0, 1}}, {[]uint32{1, 0, 2, 0, 3, 0}, []uint32{1, 0, 2, 0, 3}}, {[]uint32{top, top}, []uint32{top, top}},
	} {
		if got := Norm(r.a); !slices.Equal(got, r.norm) {
			t.Error(r.a, got)
		}
	}
	for _, a := range samples() {
		if !is(Norm(a), value(a)) {
			t.Error(a, Norm(a))
		}
	}
}

// 2.1: Cmp, to which limbs of 0 on top are nothing.
func TestCmp(t *testing.T) {
	type row struct {
		a, b []uint32
		cmp  int
	}
	for _, r := range []row{
		{nil, nil, 0}, {nil, []uint32{0, 0}, 0}, {nil, []uint32{1}, -1}, {[]uint32{1}, nil, 1}, {[]uint32{1, 0}, []uint32{1}, 0}, {[]uint32{0, 1}, []uint32{5}, 1},
		{[]uint32{5, 0, 0}, []uint32{0, 1}, -1}, {[]uint32{9, 1}, []uint32{1, 9}, -1}, {[]uint32{1, 9, 3}, []uint32{9, 1, 3}, 1}, {[]uint32{1 << 31}, []uint32{1}, 1}, {[]uint32{0}, []uint32{top}, -1},
	} {
		if got := Cmp(r.a, r.b); got != r.cmp {
			t.Error(r.a, r.b, got)
		}
	}
	pairs(func(a, b []uint32, x, y *big.Int) {
		if Cmp(a, b) != x.Cmp(y) {
			t.Error(a, b, Cmp(a, b))
		}
	})
}

// row is two numbers, and what a call makes of them.
type row struct{ a, b, want []uint32 }

// holds holds a call against rows that are written out, and at all pairs against another way to the same.
func holds(t *testing.T, call func(a, b []uint32) []uint32, rows []row, other func(x, y *big.Int) *big.Int) {
	t.Helper()
	for _, r := range rows {
		if got := call(r.a, r.b); !slices.Equal(got, r.want) {
			t.Error(r, got)
		}
	}
	pairs(func(a, b []uint32, x, y *big.Int) {
		if got := call(a, b); !is(got, other(x, y)) {
			t.Error(a, b, got)
		}
	})
}

// 2.1: Add, with carries through all limbs and into a new one.
func TestAdd(t *testing.T) {
	holds(t, Add, []row{
		{nil, nil, nil}, {[]uint32{0}, []uint32{0, 0}, nil}, {[]uint32{2}, []uint32{3}, []uint32{5}}, {[]uint32{top}, []uint32{1}, []uint32{0, 1}},
		{[]uint32{1}, []uint32{top, top, top}, []uint32{0, 0, 0, 1}}, {[]uint32{top, 0, 0}, []uint32{top}, []uint32{top - 1, 1}}, {nil, []uint32{7, 0}, []uint32{7}},
	}, func(x, y *big.Int) *big.Int { return new(big.Int).Add(x, y) })
}

// 2.1: Sub, which tells nothing just if the first number is less.
func TestSub(t *testing.T) {
	type row struct{ a, b, difference []uint32 }
	for _, r := range []row{
		{nil, nil, nil}, {[]uint32{0}, nil, nil}, {[]uint32{5}, []uint32{3}, []uint32{2}}, {[]uint32{5, 0}, []uint32{5}, nil}, {[]uint32{0, 0, 0, 1}, []uint32{1}, []uint32{top, top, top}},
		{[]uint32{4, 9}, []uint32{3, 9}, []uint32{1}}, {[]uint32{1}, []uint32{1, 0, 0, 0}, nil}, {[]uint32{0, 1}, []uint32{top}, []uint32{1}},
	} {
		if got, ok := Sub(r.a, r.b); !ok || !slices.Equal(got, r.difference) {
			t.Error(r.a, r.b, got, ok)
		}
	}
	pairs(func(a, b []uint32, x, y *big.Int) {
		got, ok := Sub(a, b)
		if less := x.Cmp(y) < 0; ok == less || less && len(got) != 0 || ok && !is(got, new(big.Int).Sub(x, y)) {
			t.Error(a, b, got, ok)
		}
	})
}

// 2.1: a difference below 0 is none, and false.
func TestSubRefuses(t *testing.T) {
	for _, r := range [][2][]uint32{{nil, {1}}, {{0}, {1}}, {{1}, {2}}, {{5, 0, 0}, {6}}, {{top}, {0, 1}}, {{9, 1}, {0, 2}}, {{0, 0, 1}, {1, 0, 1}}, {{1}, {0, 0, 0, 1}}} {
		if got, ok := Sub(r[0], r[1]); ok || len(got) != 0 {
			t.Error(r, got, ok)
		}
	}
}

// 2.1: Mul, at the greatest limbs too.
func TestMul(t *testing.T) {
	holds(t, Mul, []row{
		{nil, nil, nil}, {nil, []uint32{5}, nil}, {[]uint32{5, 5}, []uint32{0}, nil}, {[]uint32{6}, []uint32{7}, []uint32{42}}, {[]uint32{top}, []uint32{top}, []uint32{1, top - 1}},
		{[]uint32{0, 1}, []uint32{0, 0, 1}, []uint32{0, 0, 0, 1}}, {[]uint32{1, 0}, []uint32{8, 9, 0}, []uint32{8, 9}}, {[]uint32{top, top}, []uint32{top, top}, []uint32{1, 0, top - 1, top}},
	}, func(x, y *big.Int) *big.Int { return new(big.Int).Mul(x, y) })
}

// 2.1: DivMod at numbers that are written out.
func TestDivMod(t *testing.T) {
	type row struct{ a, b, quotient, rest []uint32 }
	for _, r := range []row{
		{[]uint32{0, 1}, []uint32{3}, []uint32{1431655765}, []uint32{1}},
		{nil, []uint32{1}, nil, nil}, {[]uint32{0, 0}, []uint32{7, 7}, nil, nil}, {[]uint32{7}, []uint32{7, 0}, []uint32{1}, nil}, {[]uint32{7, 0}, []uint32{1, 0, 0}, []uint32{7}, nil},
		{[]uint32{6, 0}, []uint32{7}, nil, []uint32{6}}, {[]uint32{9, 8}, []uint32{0, 0, 1}, nil, []uint32{9, 8}}, {[]uint32{9, 8, 0}, []uint32{0, 9}, nil, []uint32{9, 8}},
		{[]uint32{top, top, top}, []uint32{top}, []uint32{1, 1, 1}, nil}, {[]uint32{top, top}, []uint32{top, top}, []uint32{1}, nil}, {[]uint32{5, 0, 1}, []uint32{0, 0, 1}, []uint32{1}, []uint32{5}},
		{[]uint32{0, 0, 1}, []uint32{0, 1}, []uint32{0, 1}, nil},
		// A limb of the quotient that the top limbs alone make: the greatest one; one too great by 1; one too great by 2.
		{[]uint32{0, 0, 1 << 31}, []uint32{1, 1 << 31}, []uint32{top}, []uint32{1, 1<<31 - 1}},
		{[]uint32{0, 0, 1}, []uint32{1, 1 << 31}, []uint32{1}, []uint32{top, 1<<31 - 1}},
		{[]uint32{0, 0, 1 << 31}, []uint32{top, 1 << 31}, []uint32{top - 1}, []uint32{top - 1, 2}},
		{[]uint32{0, 0, 0, 1 << 31}, []uint32{top, top, 1 << 31}, []uint32{top - 1}, []uint32{top - 1, 0, 2}},
		{[]uint32{0, 0, top}, []uint32{top, top}, []uint32{top}, []uint32{top}},
	} {
		q, rest, ok := DivMod(r.a, r.b)
		if !ok || !slices.Equal(q, r.quotient) || !slices.Equal(rest, r.rest) {
			t.Error(r, q, rest, ok)
		}
	}
}

// 2.1: DivMod of any two numbers, the second of which isn't 0.
func TestDivModPairs(t *testing.T) {
	check := func(a, b []uint32, x, y *big.Int) {
		if y.Sign() == 0 {
			return
		}
		q, r := new(big.Int).QuoRem(x, y, new(big.Int))
		if quotient, rest, ok := DivMod(a, b); !ok || !is(quotient, q) || !is(rest, r) {
			t.Error(a, b, quotient, rest, ok)
		}
	}
	pairs(check)
	// Around a multiple the quotient's lowest limb, and the rest, are at their edges.
	pairs(func(a, b []uint32, x, y *big.Int) {
		for _, off := range []int64{-2, -1, 0, 1} {
			v := new(big.Int).Mul(x, y)
			if v.Add(v, big.NewInt(off)).Sign() > 0 {
				check(limbsOf(v), b, v, y)
			}
		}
	})
}

// 2.1: by 0 there is no quotient, no rest, and false.
func TestDivModBy0(t *testing.T) {
	for _, a := range samples() {
		for _, b := range [][]uint32{nil, {}, {0}, {0, 0, 0, 0}} {
			if q, r, ok := DivMod(a, b); ok || len(q) != 0 || len(r) != 0 {
				t.Error(a, b, q, r, ok)
			}
		}
	}
}

// 2.1: Gcd; of 0 and another one that, of 0 and 0 too.
func TestGcd(t *testing.T) {
	other := func(x, y *big.Int) *big.Int { return new(big.Int).GCD(nil, nil, x, y) }
	holds(t, Gcd, []row{
		{[]uint32{12}, []uint32{18}, []uint32{6}}, {[]uint32{18, 0}, []uint32{12}, []uint32{6}}, {[]uint32{7}, []uint32{15}, []uint32{1}}, {[]uint32{4}, []uint32{4}, []uint32{4}},
		{nil, nil, nil}, {[]uint32{0, 0}, []uint32{0}, nil}, {nil, []uint32{5, 0}, []uint32{5}}, {[]uint32{5, 6, 7, 0}, []uint32{0}, []uint32{5, 6, 7}}, {[]uint32{0}, []uint32{1, 2, 3, 4}, []uint32{1, 2, 3, 4}},
		{[]uint32{0, 0, 1}, []uint32{0, 1}, []uint32{0, 1}}, {[]uint32{6}, []uint32{0, 0, 3}, []uint32{6}}, {[]uint32{1}, []uint32{top, top, top}, []uint32{1}}, {[]uint32{0, 0, 0, 5}, []uint32{0, 0, 0, 7}, []uint32{0, 0, 0, 1}},
	}, other)
	// Two numbers, each times a third one, have that in common at the least.
	l := samples()
	pairs(func(a, b []uint32, x, y *big.Int) {
		c := l[(len(a)*7+len(b)*3)%len(l)]
		z := value(c)
		if got := Gcd(Mul(a, c), Mul(b, c)); !is(got, other(new(big.Int).Mul(x, z), new(big.Int).Mul(y, z))) {
			t.Error(a, b, c, got)
		}
	})
}

// texts are numbers' texts, each written out.
func texts() map[string][]uint32 {
	return map[string][]uint32{
		"0":                    nil,
		"1":                    {1},
		"9":                    {9},
		"10":                   {10},
		"100":                  {100},
		"999999999":            {999999999},
		"1000000000":           {1000000000},
		"1000000001":           {1000000001},
		"4294967295":           {top},
		"4294967296":           {0, 1},
		"999999999999999999":   {0xA763FFFF, 0xDE0B6B3},
		"1000000000000000000":  {0xA7640000, 0xDE0B6B3},
		"1000000000000000007":  {0xA7640007, 0xDE0B6B3},
		"18446744073709551615": {top, top},
		"18446744073709551616": {0, 0, 1},
		"340282366920938463463374607431768211455": {top, top, top, top},
	}
}

// 2.2: Text and Parse at texts that are written out.
func TestText(t *testing.T) {
	for s, a := range texts() {
		if Text(a) != s || Text(append(slices.Clone(a), 0, 0)) != s {
			t.Error(a, Text(a), "isn't", s)
		}
		if got, ok := Parse(s); !ok || !slices.Equal(got, a) {
			t.Error(s, got, ok)
		}
	}
}

// 2.2: each number has its text, which leads back to it.
func TestTextAndBack(t *testing.T) {
	check := func(a []uint32) {
		v := value(a)
		s := Text(a)
		if s != v.String() {
			t.Errorf("Text(%v) = %s", a, s)
		}
		if got, ok := Parse(s); !ok || !is(got, v) {
			t.Errorf("Parse(%s) = %v, %v", s, got, ok)
		}
	}
	for _, a := range samples() {
		check(a)
	}
	ten, one := big.NewInt(10), big.NewInt(1)
	for power := new(big.Int).Set(one); len(power.String()) < 120; power.Mul(power, ten) {
		check(limbsOf(power))
		check(limbsOf(new(big.Int).Sub(power, one)))
		check(limbsOf(new(big.Int).Add(power, one)))
	}
	for small := range uint32(2000) {
		check([]uint32{small})
	}
}

// refused tells a text that Parse must not take.
func refused(t *testing.T, s string) {
	t.Helper()
	if a, ok := Parse(s); ok || len(a) != 0 {
		t.Errorf("Parse(%q) = %v, %v", s, a, ok)
	}
}

// 2.2: texts that are no number's, or not in the one way.
func TestParseRefuses(t *testing.T) {
	for _, s := range []string{
		"", "00", "000", "01", "007", "0000000001", "00000000000000000000", "-1", "-0", "+1", "+", "-", "¯1", "1¯", " 1", "1 ", " ", "1\n", "\t1", "1 000", "1,000", "1_000", "1'000",
		"a", "1a", "a1", "1a1", "0x1", "0b1", "1e3", "1E3", "1.0", "1.", ".1", "1r2", "1/2", "٣", "１", "1\x00", "\x00", "\x001", "\xff", "1\xff", "1/", "1:", "/", ":", "1;1",
		"123456789a", "a23456789", "12345678a", "123456789-", "123456789 123456789", "1234567890x", "18446744073709551616-",
	} {
		refused(t, s)
	}
}

// 2.2: of all texts of one byte, and of two, just those are taken that are a number's.
func TestParseShortTexts(t *testing.T) {
	right := map[string]uint32{}
	for n := range uint32(100) {
		right[strconv.Itoa(int(n))] = n
	}
	check := func(s string) {
		n, fine := right[s]
		if !fine {
			refused(t, s)
		} else if a, ok := Parse(s); !ok || !slices.Equal(a, Norm([]uint32{n})) {
			t.Errorf("Parse(%q) = %v, %v", s, a, ok)
		}
	}
	for a := range 256 {
		check(string([]byte{byte(a)}))
		for b := range 256 {
			check(string([]byte{byte(a), byte(b)}))
		}
	}
}

// 2.3: the quotient times the divisor, and the rest, which is less, are the number.
func TestDivModLaw(t *testing.T) {
	pairs(func(a, b []uint32, x, y *big.Int) {
		q, r, ok := DivMod(a, b)
		if ok != (y.Sign() != 0) || ok && (Cmp(r, b) >= 0 || Cmp(Add(Mul(q, b), r), a) != 0) {
			t.Error(a, b, q, r, ok)
		}
	})
}

// 2.3: what is added can be taken off again.
func TestAddSubLaw(t *testing.T) {
	pairs(func(a, b []uint32, _, _ *big.Int) {
		if got, ok := Sub(Add(a, b), b); !ok || !slices.Equal(got, Norm(a)) {
			t.Error(a, b, got, ok)
		}
	})
}

// calls are all calls that take limbs, each with the lists that it answers.
func calls() map[string]func(a, b []uint32) [][]uint32 {
	one := func(f func(a, b []uint32) []uint32) func(a, b []uint32) [][]uint32 {
		return func(a, b []uint32) [][]uint32 { return [][]uint32{f(a, b)} }
	}
	return map[string]func(a, b []uint32) [][]uint32{
		"Norm": one(func(a, _ []uint32) []uint32 { return Norm(a) }),
		"Cmp":  one(func(a, b []uint32) []uint32 { return []uint32{uint32(Cmp(a, b) + 1)} }),
		"Add":  one(Add),
		"Sub":  one(func(a, b []uint32) []uint32 { d, _ := Sub(a, b); return d }),
		"Mul":  one(Mul),
		"Gcd":  one(Gcd),
		"Text": one(func(a, _ []uint32) []uint32 {
			var l []uint32
			for _, r := range Text(a) {
				l = append(l, uint32(r))
			}
			return l
		}),
		"Parse": one(func(a, _ []uint32) []uint32 { n, _ := Parse(Text(a)); return n }),
		"DivMod": func(a, b []uint32) [][]uint32 {
			q, r, _ := DivMod(a, b)
			return [][]uint32{q, r}
		},
	}
}

// fill writes into a list, up to its capacity.
func fill(a []uint32, x uint32) {
	a = a[:cap(a)]
	for i := range a {
		a[i] = x
	}
}

// R4 and R5: what is handed in stays as it is, what lies behind it is not read, answers are new memory, and come again.
func TestSharesNothing(t *testing.T) {
	const rows = 60
	l := samples()
	for name, call := range calls() {
		for i := range rows {
			a, b := l[i*5%len(l)], l[i*7%len(l)]
			// The same limbs, with some behind the end that make the numbers greater.
			longA, longB := append(slices.Clone(a), 77, top), append(slices.Clone(b), 99, top)
			inA, inB := longA[:len(a)], longB[:len(b)]
			want, got := call(slices.Clip(slices.Clone(a)), slices.Clip(slices.Clone(b))), call(inA, inB)
			for j, list := range got {
				if !slices.Equal(list, want[j]) {
					t.Error(name, a, b, list, "isn't", want[j])
				}
			}
			for j := range got {
				answers := call(inA, inB)
				fill(answers[j], 123456)
				for k, other := range answers {
					if k != j && !slices.Equal(other, want[k]) {
						t.Error(name, a, b, "answers share memory")
					}
				}
			}
			if !slices.Equal(longA, append(slices.Clone(a), 77, top)) || !slices.Equal(longB, append(slices.Clone(b), 99, top)) {
				t.Error(name, a, b, "what was handed in is changed, or shared")
			}
			for j, list := range call(inA, inB) {
				if !slices.Equal(list, want[j]) {
					t.Error(name, a, b, "another answer on a second call")
				}
			}
		}
	}
}

// R4: one list as both arguments.
func TestOneListTwice(t *testing.T) {
	for _, a := range samples() {
		v := value(a)
		if d, ok := Sub(a, a); !ok || len(d) != 0 || Cmp(a, a) != 0 || !is(Gcd(a, a), v) {
			t.Error("Sub, Cmp, Gcd", a)
		}
		if !is(Add(a, a), new(big.Int).Lsh(v, 1)) || !is(Mul(a, a), new(big.Int).Mul(v, v)) {
			t.Error("Add, Mul", a)
		}
		if q, r, ok := DivMod(a, a); ok != (v.Sign() > 0) || ok && !slices.Equal(q, []uint32{1}) || len(r) != 0 {
			t.Error("DivMod", a, q, r, ok)
		}
	}
}

// P1: long numbers and texts end, without a panic.
func TestLong(t *testing.T) {
	const many = 1 << 16
	noughts := make([]uint32, many)
	for name, call := range calls() {
		for i, list := range call(noughts, noughts) {
			if name != "Cmp" && name != "Text" && len(list) != 0 {
				t.Error(name, i, "of noughts:", len(list))
			}
		}
	}
	for _, part := range []string{"0", "-", "a", "12345678x", "\xff"} {
		refused(t, strings.Repeat(part, many))
		refused(t, "1"+strings.Repeat("0", many)+part[:1]+" ")
	}
	s := "7" + strings.Repeat("0123456789", 2000)
	a, ok := Parse(s)
	if !ok || Text(a) != s {
		t.Error("a text of", len(s), "digits")
	}
	b := limbsOf(new(big.Int).Lsh(big.NewInt(3), 20000))
	q, r, _ := DivMod(a, b)
	if Cmp(Add(Mul(q, b), r), a) != 0 || Cmp(r, b) >= 0 || !is(Gcd(a, b), new(big.Int).GCD(nil, nil, value(a), value(b))) {
		t.Error("numbers of many limbs")
	}
}
