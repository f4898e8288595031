package scalar

import (
	"fmt"
	"math"
	"slices"
	"strconv"
	"strings"
	"testing"

	"scrim/api"
	"scrim/array"
	"scrim/ratio"
	"scrim/sample"
	"scrim/view"
)

// told is an answer as a text: the array's, or the error's name, beside which there is nothing.
func told(a api.Array, e api.Errno) string {
	text := sample.Text(a)
	switch {
	case e == api.OK:
		return text
	case text == "[|]":
		return errorText(e)
	}
	return "an error beside " + text
}

// toldShape is an answer as a text: the lengths, or the error's name, beside which there are none.
func toldShape(s []int, e api.Errno) string {
	switch {
	case e == api.OK:
		return fmt.Sprint(s)
	case len(s) == 0:
		return errorText(e)
	}
	return "an error beside " + fmt.Sprint(s)
}

// 10.3: the shape that two arrays have together.
func TestConform(t *testing.T) {
	for _, x := range []struct{ a, b, want string }{
		// Neither has axes, or one has none.
		{"[|5]", "[|6]", "[]"},
		{"[|5]", "(1 2 3)", "[3]"}, {"(1 2 3)", "[|5]", "[3]"},
		{"[|5]", "(1)", "[1]"}, {"(1)", "[|5]", "[1]"},
		{"[|5]", "()", "[0]"}, {"()", "[|5]", "[0]"},
		{"[|5]", "[2 3|1 2 3 4 5 6]", "[2 3]"}, {"[2 3|1 2 3 4 5 6]", "[|(1 2)]", "[2 3]"},
		{"[|5]", "[0 3|]", "[0 3]"}, {"[1 1 1 1 1 1|5]", "[|5]", "[1 1 1 1 1 1]"},
		// The same shape.
		{"(1 2)", "('x 'y)", "[2]"}, {"()", "()", "[0]"}, {"[2 1|1 2]", "[2 1|3 4]", "[2 1]"}, {"[0 3|]", "[0 3|]", "[0 3]"}, {"[1 2 1|1 2]", "[1 2 1|(1) 2]", "[1 2 1]"},
		// Not as many axes; ahead of the lengths.
		{"(1 2)", "[1 2|1 2]", "rank"}, {"[1 2|1 2]", "(1 2)", "rank"}, {"(1)", "[1 1|1]", "rank"}, {"()", "[0 3|]", "rank"}, {"(1 2 3)", "[1 2|1 2]", "rank"}, {"[1 1 1 1 1|1]", "[1 1 1 1 1 1|1]", "rank"}, {"(1 2)", "[2 1 1|1 2]", "rank"},
		// Not the same lengths.
		{"(1 2)", "(1 2 3)", "length"}, {"(1 2 3)", "(1 2)", "length"}, {"(1)", "(1 2)", "length"}, {"(1 2)", "(1)", "length"}, {"()", "(1)", "length"}, {"(1)", "()", "length"}, {"[2 1|1 2]", "[1 2|1 2]", "length"}, {"[0 3|]", "[0 2|]", "length"}, {"[0 3|]", "[3 0|]", "length"}, {"[2 2|1 2 3 4]", "[2 1|1 2]", "length"}, {"[1 2|1 2]", "[2 2|1 2 3 4]", "length"},
		// Labels ask for nothing.
		{"(1@4 2)^8", "(3 4@2)^16", "[2]"}, {"[|1@4]^8", "(3 4@2)^16", "[2]"}, {"(1@4 2)^8", "(3@4)^8", "length"},
	} {
		if got := toldShape(Conform(sample.Array(x.a), sample.Array(x.b))); got != x.want {
			t.Error(x.a, x.b, "are of the shape", got, "not", x.want)
		}
	}
}

// 10.3: a cell by its number; of an array without axes the first one, whatever the number is; the zero one, if there is none.
func TestPick(t *testing.T) {
	for _, x := range []struct {
		a    string
		i    int
		want string
	}{
		{"(5@1 'x@2 (1 2@8)^4@16)^32", 0, "5@1"}, {"(5@1 'x@2 (1 2@8)^4@16)^32", 1, "'x@2"}, {"(5@1 'x@2 (1 2@8)^4@16)^32", 2, "(1 2@8)^4@16"},
		{"(5@1 'x@2)", 2, "_"}, {"(5@1 'x@2)", 3, "_"}, {"(5@1 'x@2)", -1, "_"}, {"(5@1 'x@2)", math.MinInt, "_"}, {"(5@1 'x@2)", math.MaxInt, "_"}, {"(5@1 'x@2)", 1 << 32, "_"},
		{"[2 2|1 2 3@2 4]", 2, "3@2"}, {"[2 2|1 2 3@2 4]", 3, "4"}, {"[2 2|1 2 3@2 4]", 4, "_"},
		{"(7)", 0, "7"}, {"(7)", 1, "_"}, {"[1 1|7]", 0, "7"}, {"[1 1|7]", 1, "_"},
		{"[|5@4]^8", 0, "5@4"}, {"[|5@4]^8", 1, "5@4"}, {"[|'x]", 2047, "'x"}, {"[|5@4]^8", math.MaxInt, "5@4"}, {"[|5@4]^8", -1, "5@4"}, {"[|(1 2)^2@4]^8", 3, "(1 2)^2@4"},
		{"()", 0, "_"}, {"()^4", -1, "_"}, {"[0 3|]", 0, "_"}, {"[0 3|]", 2, "_"}, {"[|]", 0, "_"}, {"[|]^4", 5, "_"},
	} {
		if got := sample.CellText(Pick(sample.Array(x.a), x.i)); got != x.want {
			t.Error(x.a, x.i, "is", got, "not", x.want)
		}
	}
}

// 10.4: functions of one array: what it becomes, or the error.
func TestOne(t *testing.T) {
	for _, x := range []struct {
		f       rune
		a, want string
	}{
		{'-', "(1 ¯2 0)", "(¯1 2 0)"}, {'+', "(1 ¯2 1r2)", "(1 ¯2 1r2)"}, {'×', "(5 ¯2 0)", "(1 ¯1 0)"}, {'÷', "(2 ¯1r3)", "(1r2 ¯3)"}, {'⌈', "(3r2 ¯3r2)", "(2 ¯1)"}, {'⌊', "(3r2 ¯3r2)", "(1 ¯2)"}, {'|', "(3r2 ¯3r2)", "(3r2 3r2)"}, {'~', "(0 1)", "(1 0)"}, {'!', "(0 4)", "(1 24)"},
		// Shapes.
		{'-', "[|5]", "[|¯5]"}, {'-', "()", "()"}, {'÷', "[0 3|]", "[0 3|]"}, {'-', "[2 2|1 2 3 4]", "[2 2|¯1 ¯2 ¯3 ¯4]"}, {'-', "[1 1 1 1 1 1|5]", "[1 1 1 1 1 1|¯5]"}, {'-', "(5)", "(¯5)"},
		// Boxes, within one another too.
		{'-', "((1 2) 3)", "((¯1 ¯2) ¯3)"}, {'-', "[|(1 (2 [1 1|3]))]", "[|(¯1 (¯2 [1 1|¯3]))]"}, {'-', "(() [0 2|] [|(1)])", "(() [0 2|] [|(¯1)])"}, {'!', "((((((((3))))))) 0)", "((((((((6))))))) 1)"},
		// Labels stay where they are.
		{'-', "(1@1 2@2 3)^4", "(¯1@1 ¯2@2 ¯3)^4"}, {'-', "[|1@*]^*", "[|¯1@*]^*"}, {'-', "()^5", "()^5"}, {'-', "((1@1 2)^2@4 3@8)^16", "((¯1@1 ¯2)^2@4 ¯3@8)^16"}, {'×', "[2 1|7@1 ¯7@3]^4", "[2 1|1@1 ¯1@3]^4"}, {'|', "(((1@1)^2@4 2)^8@16)^32", "(((1@1)^2@4 2)^8@16)^32"},
		// Errors of cells: of a Char, of a number.
		{'-', "('x)", "domain"}, {'-', "[|'x]", "domain"}, {'+', "(1 2 'x)", "domain"}, {'-', "((1 'x))", "domain"}, {'÷', "(1 0 2)", "domain"}, {'~', "(1 0 2)", "domain"}, {'!', "(1 1r2)", "domain"}, {'!', "(1 201)", "limit"}, {'÷', "((1 (0)))", "domain"}, {'!', "(171)", "limit"},
		// The first one counts, also of what is in Boxes.
		{'!', "(201 ¯1)", "limit"}, {'!', "(¯1 201)", "domain"}, {'!', "('x 201)", "domain"}, {'!', "(201 'x)", "limit"}, {'!', "((1 201) 'x)", "limit"}, {'!', "((1 'x) 201)", "domain"}, {'!', "(1 (2 (3 500)) ¯1)", "limit"}, {'!', "(1 (2 (3 ¯1)) 500)", "domain"}, {'!', "[2 2|1 2 500 'x]", "limit"},
		// No such function: ahead of all, of no cells too.
		{'*', "(1 2)", "nonce"}, {'*', "('x)", "nonce"}, {'*', "()", "nonce"}, {'=', "('x 'y)", "nonce"}, {'≠', "()", "nonce"}, {'<', "[|(1 2)]", "nonce"}, {'∧', "()^4", "nonce"}, {'⍴', "(1)", "nonce"}, {'x', "[0 3|]", "nonce"}, {0, "()", "nonce"}, {-'-', "()", "nonce"},
	} {
		if got := told(One(int(x.f), sample.Array(x.a))); got != x.want {
			t.Error(string(x.f), x.a, "is", got, "not", x.want)
		}
	}
}

// 10.4: functions of two arrays: what they become, or the error.
func TestTwo(t *testing.T) {
	for _, x := range []struct {
		f          rune
		a, b, want string
	}{
		// The document's example.
		{'+', "(1@1 2@2 3@4)^8", "[|10@16]^32", "(11@17 12@18 13@20)^40"},
		// Each function; which of both is the first one.
		{'+', "(1 2)", "(10 20)", "(11 22)"}, {'-', "(1 2)", "(10 30)", "(¯9 ¯28)"}, {'×', "(3 2)", "(10 30)", "(30 60)"}, {'÷', "(1 2)", "(2 1)", "(1r2 2)"}, {'⌈', "(1 5)", "(3 2)", "(3 5)"}, {'⌊', "(1 5)", "(3 2)", "(1 2)"}, {'|', "(3 7)", "(7 3)", "(1 3)"}, {'*', "(2 3)", "(3 2)", "(8 9)"}, {'∧', "(4 0)", "(6 5)", "(12 0)"}, {'∨', "(4 0)", "(6 5)", "(2 5)"}, {'<', "(1 2 3)", "(2 2 2)", "(1 0 0)"}, {'≤', "(1 2 3)", "(2 2 2)", "(1 1 0)"}, {'=', "(1 2 3)", "(2 2 2)", "(0 1 0)"}, {'≥', "(1 2 3)", "(2 2 2)", "(0 1 1)"}, {'>', "(1 2 3)", "(2 2 2)", "(0 0 1)"}, {'≠', "(1 2 3)", "(2 2 2)", "(1 0 1)"},
		// Shapes.
		{'-', "[|5]", "[|7]", "[|¯2]"}, {'-', "[|5]", "(1 2)", "(4 3)"}, {'-', "(1 2)", "[|5]", "(¯4 ¯3)"}, {'-', "[|5]", "(7)", "(¯2)"}, {'-', "(7)", "[|5]", "(2)"}, {'-', "[2 2|1 2 3 4]", "[2 2|4 3 2 1]", "[2 2|¯3 ¯1 1 3]"}, {'-', "[|1]", "[2 2|4 3 2 1]", "[2 2|¯3 ¯2 ¯1 0]"}, {'-', "[2 2|4 3 2 1]", "[|1]", "[2 2|3 2 1 0]"}, {'-', "[1 1 1 1 1 1|5]", "[|1]", "[1 1 1 1 1 1|4]"},
		// No cells: no cell's error.
		{'+', "()", "()", "()"}, {'÷', "()", "[|0]", "()"}, {'+', "[|'x]", "()", "()"}, {'<', "[0 3|]", "[|'x]", "[0 3|]"}, {'+', "[0 3|]", "[0 3|]", "[0 3|]"},
		// Chars, which only = and ≠ take; the same are those of one Kind.
		{'=', "('x 'y)", "('x 'x)", "(1 0)"}, {'≠', "('x 'y)", "('x 'x)", "(0 1)"},
		{'=', "('A 65 0)", "(65 'A ' )", "(0 0 0)"}, {'≠', "('A 65 0)", "(65 'A ' )", "(1 1 1)"}, {'=', "[|'x]", "(1 'x 'X)", "(0 1 0)"}, {'≠', "(1 'x 'X)", "[|'x]", "(1 0 1)"}, {'=', "[|'⍴]", "[|'⍴]", "[|1]"}, {'=', "(0 {1 0 /} {1 0 /})", "({1 0 /} 0 {1 0 /})", "(0 0 1)"}, {'≠', "(0 {1 0 /} {1 0 /})", "({1 0 /} 0 {1 0 /})", "(1 1 0)"},
		// Boxes: both, or one, with a cell that is none.
		{'+', "((1 2) 3)", "((10 20) 30)", "((11 22) 33)"}, {'-', "((1 2) 3)", "(10 (20 30))", "((¯9 ¯8) (¯17 ¯27))"}, {'-', "[|(1 2)]", "[|5]", "[|(¯4 ¯3)]"}, {'-', "[|5]", "[|(1 2)]", "[|(4 3)]"}, {'-', "[|(1 2)]", "(5 6)", "((¯4 ¯3) (¯5 ¯4))"}, {'-', "(5 6)", "[|(1 2)]", "((4 3) (5 4))"}, {'-', "[|(1 (2 3))]", "[|10]", "[|(¯9 (¯8 ¯7))]"}, {'+', "[|(1 (2 3))]", "[|((10 20) 30)]", "[|((11 21) (32 33))]"}, {'-', "[|[|(1 2)]]", "[|(5 6)]", "[|((¯4 ¯3) (¯5 ¯4))]"}, {'-', "[|(5 6)]", "[|[|(1 2)]]", "[|((4 3) (5 4))]"}, {'-', "[|[|(1 2)]]", "[|[|(3 5)]]", "[|[|(¯2 ¯3)]]"}, {'-', "[|[2 1|1 2]]", "(3)", "([2 1|¯2 ¯1])"}, {'+', "(() 1)", "('x [0 2|])", "(() [0 2|])"},
		{'=', "(('x 'y) 'z)", "('x ('y 'z))", "((1 0) (0 1))"}, {'≠', "(('x 5) 'z)", "('x (0 'z 'z))", "((0 1) (1 0 0))"}, {'=', "[|(1 2)]", "[|(1 3)]", "[|(1 0)]"},
		// Labels: of both cells, of both shapes; in a Box those of what is in it, not those of the cells.
		{'+', "(1@1 2)^4", "(3@2 4@8)^16", "(4@3 6@8)^20"}, {'+', "[|1@1]^4", "(3@2 4@8)^16", "(4@3 5@9)^20"}, {'+', "(3@2 4@8)^16", "[|1@1]^4", "(4@3 5@9)^20"}, {'+', "[|1@1]^4", "[|1@2]^8", "[|2@3]^12"}, {'+', "()^1", "()^2", "()^3"}, {'+', "[|1@4]^1", "()^2", "()^3"}, {'+', "[|1@*]", "(1 2)^*", "(2@* 3@*)^*"},
		{'=', "('x@1 'y@2)", "[|'x@4]", "(1@5 0@6)"}, {'≠', "(5@1)^2", "('x@4)^8", "(1@5)^10"},
		{'+', "((1@1 2)^2@4)^8", "((10@16 20)^32@64)^128", "((11@17 22)^34@68)^136"}, {'+', "((1@1 2)^2@4)^8", "(10@16)^32", "((11@1 12)^2@20)^40"}, {'+', "(10@16)^32", "((1@1 2)^2@4)^8", "((11@1 12)^2@20)^40"}, {'+', "[|10@16]^32", "[|(1@1 2)^2@4]^8", "[|(11@1 12)^2@20]^40"}, {'=', "('x@16)", "(('x@1 'y)^2@4)", "((1@1 0)^2@20)"},
		{'+', "[|((1@1)^2@4)^8@16]^32", "[|7@64]^128", "[|((8@1)^2@4)^8@80]^160"}, {'+', "[|((1@1)^2@4)^8@16]^32", "[|(7@64)^128@256]^512", "[|((8@1)^2@68)^136@272]^544"},
		// Errors of cells.
		{'+', "(1 'x)", "(2 3)", "domain"}, {'+', "(2 3)", "(1 'x)", "domain"}, {'<', "('x)", "('x)", "domain"}, {'⌈', "[|'x]", "[|5]", "domain"}, {'÷', "(1 2)", "(1 0)", "domain"}, {'*', "(4)", "(1r2)", "nonce"}, {'*', "(2)", "(1024)", "limit"}, {'+', "((1 2))", "('x)", "domain"}, {'∧', "(1r2)", "(2)", "domain"}, {'*', "('x)", "(1r2)", "domain"},
		{'+', "('x)", "('x)", "domain"}, {'-', "('x)", "('x)", "domain"}, {'×', "('x)", "('x)", "domain"}, {'÷', "('x)", "('x)", "domain"}, {'⌈', "('x)", "('x)", "domain"}, {'⌊', "('x)", "('x)", "domain"}, {'|', "('x)", "('x)", "domain"}, {'*', "('x)", "('x)", "domain"}, {'∧', "('x)", "('x)", "domain"}, {'∨', "('x)", "('x)", "domain"}, {'≤', "('x)", "('x)", "domain"}, {'≥', "('x)", "('x)", "domain"}, {'>', "('x)", "(5)", "domain"},
		// The first one counts.
		{'*', "(2 2 2)", "(1 1r2 1024)", "nonce"}, {'*', "(2 2 2)", "(1 1024 1r2)", "limit"}, {'*', "(2 0 2)", "(1 ¯1 1024)", "domain"}, {'*', "(2 'x 2)", "(1 1 1024)", "domain"}, {'*', "(2 2)", "((1 1024) 1r2)", "limit"}, {'*', "(2 2)", "((1 1r2) 'x)", "nonce"}, {'*', "(2 2)", "((1 (2 'x)) 1r2)", "domain"},
		// Arrays that do not go together: ahead of cells, and in Boxes in the cells' order.
		{'+', "('x 'y)", "(1 2 3)", "length"}, {'+', "(1 2 3)", "('x 0)", "length"}, {'÷', "(1 2)", "[1 2|0 'x]", "rank"}, {'=', "('x 'y)", "[2 1|'x 'y]", "rank"}, {'+', "()", "(1)", "length"}, {'+', "()", "[0 1|]", "rank"},
		{'+', "((1 2 3) 'x)", "((1 2) 5)", "length"}, {'+', "('x (1 2 3))", "(5 (1 2))", "domain"}, {'+', "(('x 'y 'z))", "((1 2))", "length"}, {'+', "[|('x 'y)]", "[|[1 2|1 2]]", "rank"}, {'*', "[|((2 2) 2)]", "[|((1 1024) (1r2 2))]", "limit"}, {'*', "[|((2 2) 2)]", "[|((1 1024 1) (1r2 2))]", "length"},
		// No such function: ahead of all.
		{'!', "(1 2)", "(1 2)", "nonce"}, {'~', "(1 2)", "(1 2)", "nonce"}, {'!', "(1 2)", "(1 2 3)", "nonce"}, {'~', "(1 2)", "[1 2|1 2]", "nonce"}, {'!', "()", "()", "nonce"}, {'⍴', "('x)", "('x)", "nonce"}, {'~', "[|(1 2)]", "[|'x]", "nonce"}, {0, "()", "()", "nonce"}, {-'+', "[|1]", "[|1]", "nonce"},
	} {
		if got := told(Two(int(x.f), sample.Array(x.a), sample.Array(x.b))); got != x.want {
			t.Error(x.a, string(x.f), x.b, "is", got, "not", x.want)
		}
	}
}

// calm is an array in which each cell that is no Box is a number from 0 on, below a bound, by what it was.
func calm(a api.Array, least, bound int) api.Array {
	b := api.Array{S: a.S, Shape: a.Shape}
	for _, c := range a.Cells {
		d := api.Cell{L: c.L, Kind: c.Kind}
		if c.Kind == api.Box {
			d.In = []api.Array{calm(c.In[0], least, bound)}
		} else {
			text := sample.CellText(api.Cell{Kind: c.Kind, N: c.N, C: c.C})
			d = api.Cell{L: c.L, N: ratio.Of(least + int(text[len(text)-1])%bound)}
		}
		b.Cells = append(b.Cells, d)
	}
	return b
}

// drawnPair are two arrays, of which the second one goes with the first one more often than not.
func drawnPair(draw func(int) int) (api.Array, api.Array) {
	a := sample.Drawn(draw, 2)
	switch draw(3) {
	case 0:
		return a, sample.Drawn(draw, 2)
	case 1:
		return sample.Drawn(draw, 2), a
	}
	b := api.Array{S: uint64(draw(16)), Shape: a.Shape}
	for range a.Cells {
		c := array.Pack(sample.Drawn(draw, 1))
		c.L = uint64(draw(16))
		b.Cells = append(b.Cells, c)
	}
	return a, b
}

// oneByRule is what a function of an array tells, by the chapter's words.
func oneByRule(f int, a api.Array) (api.Array, api.Errno) {
	told := api.Array{S: a.S, Shape: a.Shape}
	for _, c := range a.Cells {
		d, e := api.Cell{L: c.L, Kind: c.Kind}, api.Domain
		if c.Kind == api.Number {
			d.N, e = Number(f, c.N)
		}
		if c.Kind == api.Box {
			d.In = make([]api.Array, 1)
			d.In[0], e = oneByRule(f, c.In[0])
		}
		if e != api.OK {
			return api.Array{}, e
		}
		told.Cells = append(told.Cells, d)
	}
	return told, api.OK
}

// twoByRule is what a function of two arrays tells, by the chapter's words.
func twoByRule(f int, a, b api.Array) (api.Array, api.Errno) {
	shape, e := Conform(a, b)
	if e != api.OK {
		return api.Array{}, e
	}
	cells := 1
	for _, n := range shape {
		cells *= n
	}
	told := api.Array{S: a.S | b.S, Shape: shape}
	for i := range cells {
		c, d := Pick(a, i), Pick(b, i)
		cell, e := twoCellsByRule(f, c, d)
		if e != api.OK {
			return api.Array{}, e
		}
		cell.L = c.L | d.L
		told.Cells = append(told.Cells, cell)
	}
	return told, api.OK
}

func twoCellsByRule(f int, c, d api.Cell) (api.Cell, api.Errno) {
	c.L, d.L = 0, 0
	if c.Kind == api.Box || d.Kind == api.Box {
		in, e := twoByRule(f, array.Unpack(c), array.Unpack(d))
		return api.Cell{Kind: api.Box, In: []api.Array{in}}, e
	}
	if c.Kind == api.Number && d.Kind == api.Number {
		n, e := Numbers(f, c.N, d.N)
		return api.Cell{N: n}, e
	}
	same := sample.CellText(c) == sample.CellText(d)
	switch {
	case f == '=' && same, f == '≠' && !same:
		return array.Int(1), api.OK
	case f == '=', f == '≠':
		return array.Int(0), api.OK
	}
	return api.Cell{}, api.Domain
}

// 10.4, 10.5: arrays of all sorts, by the rule; what is told is right.
func TestByRule(t *testing.T) {
	draw := sample.Chance(10)
	ok := map[string]int{}
	check := func(about string, a api.Array, e api.Errno, want api.Array, wantError api.Errno) {
		if got := told(a, e); got != told(want, wantError) || e == api.OK && !array.Right(a) {
			t.Error(about, "is", got, "not", told(want, wantError))
		}
		ok[e.Error()]++
	}
	for range 600 {
		a, b := drawnPair(draw)
		if draw(3) > 0 {
			a, b = calm(a, -1, 4), calm(b, -1, 4)
		}
		for _, f := range ofOne {
			got, e := One(int(f), a)
			want, wantError := oneByRule(int(f), a)
			check(string(f)+sample.Text(a), got, e, want, wantError)
		}
		for _, f := range ofTwo {
			got, e := Two(int(f), a, b)
			want, wantError := twoByRule(int(f), a, b)
			check(sample.Text(a)+string(f)+sample.Text(b), got, e, want, wantError)
		}
	}
	for e, least := range map[api.Errno]int{api.OK: 3000, api.Domain: 300, api.Length: 300, api.Rank: 300} {
		if ok[e.Error()] < least {
			t.Error("too few are", e, ok[e.Error()])
		}
	}
}

// 10.4: labels ask for nothing; where all that is handed in has a tag, all that is told has it, and is else as it was.
func TestLabels(t *testing.T) {
	draw := sample.Chance(11)
	for range 300 {
		a, b := drawnPair(draw)
		for _, f := range ofOne + ofTwo {
			for about, call := range map[string]func(a, b api.Array) (api.Array, api.Errno){
				"of one": func(a, _ api.Array) (api.Array, api.Errno) { return One(int(f), a) },
				"of two": func(a, b api.Array) (api.Array, api.Errno) { return Two(int(f), a, b) },
			} {
				got, e := call(a, b)
				bare, bareError := call(array.Erase(a), array.Erase(b))
				covered, coveredError := call(array.Cover(a, 64), array.Cover(b, 64))
				if e != bareError || !array.Same(bare, array.Erase(got)) {
					t.Error(string(f), about, sample.Text(a), sample.Text(b), "asks for labels")
				}
				if e != coveredError || e == api.OK && !array.Same(covered, array.Cover(got, 64)) {
					t.Error(string(f), about, sample.Text(a), sample.Text(b), sample.Text(covered))
				}
			}
		}
	}
}

// 10.5: what is told of arrays that are alike to an observer is alike to it, where no error is told.
func TestAlike(t *testing.T) {
	draw := sample.Chance(12)
	looks, others := 0, 0
	check := func(f rune, observer uint64, a, b api.Array, aError, bError api.Errno) {
		if aError != api.OK || bError != api.OK {
			return
		}
		looks++
		if !array.Match(a, b) {
			others++
		}
		if !view.Alike(a, b, observer) {
			t.Error(string(f), sample.Text(a), sample.Text(b), "differ to", observer)
		}
	}
	for range 600 {
		a, b := drawnPair(draw)
		observer := uint64(draw(16))
		c, d := sample.Disguised(draw, a, observer), sample.Disguised(draw, b, observer)
		if bound := 2 + draw(3); bound < 4 {
			a, b, c, d = calm(a, bound-2, 2), calm(b, bound-2, 2), calm(c, bound-2, 2), calm(d, bound-2, 2)
		}
		if !view.Alike(a, c, observer) || !view.Alike(b, d, observer) {
			t.Fatal("a slip:", sample.Text(a), sample.Text(c), sample.Text(b), sample.Text(d))
		}
		for _, f := range ofOne {
			before, aError := One(int(f), a)
			after, bError := One(int(f), c)
			check(f, observer, before, after, aError, bError)
		}
		for _, f := range ofTwo {
			before, aError := Two(int(f), a, b)
			after, bError := Two(int(f), c, d)
			check(f, observer, before, after, aError, bError)
		}
	}
	if looks < 3000 || others < 500 {
		t.Error("too few are looked at", looks, others)
	}
}

// only is what a call answers beside an error, as an array.
func only(a api.Array, e api.Errno) api.Array {
	if e != api.OK {
		return api.Array{S: uint64(e)}
	}
	return a
}

// numberCalls are the calls with numbers, each with what it answers as an array.
func numberCalls() map[string]func(a api.Array) api.Array {
	cell := func(n api.Num, e api.Errno) api.Array {
		return only(api.Array{Cells: []api.Cell{{N: n}}}, e)
	}
	l := map[string]func(a api.Array) api.Array{}
	for _, f := range ofOne + "?" {
		l["Number "+string(f)] = func(a api.Array) api.Array { return cell(Number(int(f), Pick(a, 0).N)) }
	}
	for _, f := range ofTwo + "?" {
		l["Numbers "+string(f)] = func(a api.Array) api.Array { return cell(Numbers(int(f), a.Cells[0].N, a.Cells[len(a.Cells)-1].N)) }
	}
	return l
}

// calls are the calls with arrays, each with what it answers as an array.
func calls() map[string]func(a api.Array) api.Array {
	alone, row := sample.Array("[|3@4]^8"), sample.Array("(2@1 (5 7@2)^16 4)")
	shape := func(s []int, e api.Errno) api.Array { return only(api.Array{Shape: s}, e) }
	l := map[string]func(a api.Array) api.Array{
		"Conform":           func(a api.Array) api.Array { return shape(Conform(a, a)) },
		"Conform, one way":  func(a api.Array) api.Array { return shape(Conform(a, alone)) },
		"Conform, or other": func(a api.Array) api.Array { return shape(Conform(alone, a)) },
	}
	for i := range 4 {
		l["Pick "+strconv.Itoa(i)] = func(a api.Array) api.Array { return api.Array{Cells: []api.Cell{Pick(a, i-1)}} }
	}
	for _, f := range ofOne + "?" {
		l["One "+string(f)] = func(a api.Array) api.Array { return only(One(int(f), a)) }
	}
	for _, f := range ofTwo + "?" {
		l["Two, one way "+string(f)] = func(a api.Array) api.Array { return only(Two(int(f), a, alone)) }
		l["Two, or other "+string(f)] = func(a api.Array) api.Array { return only(Two(int(f), alone, a)) }
		l["Two, rows "+string(f)] = func(a api.Array) api.Array { return only(Two(int(f), row, a)) }
		l["Two, the same "+string(f)] = func(a api.Array) api.Array { return only(Two(int(f), a, a)) }
	}
	return l
}

// checkMemory looks at R4 and R5: what is handed in stays as it is, what lies behind it is not read, answers are new memory, and come again.
func checkMemory(t *testing.T, about string, call func(api.Array) api.Array, a api.Array) {
	t.Helper()
	if fault := sample.Memory(call, a); fault != "" {
		t.Error(about, sample.Text(a), fault)
	}
}

// R4, R5: the memory of numbers.
func TestMemoryOfNumbers(t *testing.T) {
	for _, text := range []string{"[|0]", "[|1]", "(3 2)", "(¯7r2 5r3)", "(5 5)", "(0 7)", "(7 0)", "(18446744073709551617 1r18446744073709551617)", "(6 4)", "(1r2 3)"} {
		for about, call := range numberCalls() {
			checkMemory(t, about, call, sample.Array(text))
		}
	}
}

// R4, R5: the memory of arrays, also of such as share memory within.
func TestMemory(t *testing.T) {
	row := sample.Array("(1 3r2 (2 3))")
	twice := row.Cells[1]
	l := []api.Array{{Shape: []int{3}, Cells: []api.Cell{twice, {Kind: api.Box, In: []api.Array{row}}, {Kind: api.Box, In: []api.Array{row}}}}}
	l = append(l, sample.Arrays("[|5]", "()", "[0 2|]", "(1@1 2 0)^4", "('x 'y 5)", "[|(1 2@2)^4@8]", "((1 2)@4 ('x) ())", "[2 1|5r3 (1 (2 1))]", "(0 1 (0 (1)))")...)
	l = append(l, sample.ManyDrawn(13, 12, 2)...)
	for _, a := range l {
		for about, call := range calls() {
			checkMemory(t, about, call, a)
		}
	}
}

// R4: no two cells of an answer share memory, where one cell is handed in for all of them.
func TestMemoryOfOneForAll(t *testing.T) {
	in := sample.Array("(1 2 3)")
	for _, alone := range sample.Arrays("[|5r3]", "[|(1 2r3)]", "[|(1 (2r3))]") {
		for _, f := range "+⌈⌊|" {
			checkMemory(t, string(f), func(a api.Array) api.Array { return only(Two(int(f), a, alone)) }, in)
			checkMemory(t, string(f), func(a api.Array) api.Array { return only(Two(int(f), in, a)) }, alone)
		}
	}
}

// 10.4, 10.5: as many Boxes within one another as may be, and as many cells.
func TestDeepAndWide(t *testing.T) {
	deep := func(n string) api.Array {
		return sample.Array(strings.Repeat("(", 9) + n + strings.Repeat(")", 9))
	}
	if a, e := Two('+', deep("1"), deep("2")); told(a, e) != sample.Text(deep("3")) || !array.Right(a) {
		t.Error(told(a, e))
	}
	if a, e := Two('-', deep("1"), sample.Array("[|2]")); told(a, e) != sample.Text(deep("¯1")) || !array.Right(a) {
		t.Error(told(a, e))
	}
	if a, e := One('-', deep("1")); told(a, e) != sample.Text(deep("¯1")) || !array.Right(a) {
		t.Error(told(a, e))
	}
	wide := api.Array{Shape: []int{32, 64}, Cells: slices.Repeat(sample.Array("(3@1)").Cells, 2048)}
	for _, a := range []api.Array{wide, sample.Array("[|3@1]")} {
		got, e := Two('×', wide, a)
		if e != api.OK || !array.Right(got) || len(got.Cells) != 2048 || sample.CellText(got.Cells[2047]) != "9@1" {
			t.Error(len(got.Cells), e)
		}
	}
	wide.Cells[2047] = array.Chr('x')
	if got := told(Two('×', wide, wide)) + told(One('-', wide)); got != "domaindomain" {
		t.Error(got)
	}
}

// P1: arrays that are not right, too, end without a panic: without what a Box has, of other kinds, with other cells than their shape says, and deep.
func TestWrongArrays(t *testing.T) {
	odd := sample.Arrays("[|]", "[2|]", "[3|1]", "[1|1 2 3]", "[0|1]", "[|1 2]", "[-1 3|1]", "[1099511627776|]", "[1099511627776 1099511627776|5]", "(_)", "[|_]", "({2 0 /})", "[|{2 0 /}]", "({2 0 / (1) (2)})", "([|5])", "({3 0 /} {-1 0 /})", "[|{3 97 1/1 (1)}]", "({0 0 1/1 (1)} {1 97 2/1 (1)})", "({0 0 2/4} {0 0 -/1} {0 0 1/})", "({1 -1 /})", "(1 2)", "[|'x]", "((1 2) 3)")
	deep := sample.Array("(1)")
	for range 999 {
		deep = api.Array{Shape: []int{1}, Cells: []api.Cell{{Kind: api.Box, In: []api.Array{deep}}}}
	}
	odd = append(odd, deep)
	for _, a := range odd {
		for _, b := range odd {
			Conform(a, b)
			for _, f := range ofTwo + "?" {
				Two(int(f), a, b)
			}
		}
		for _, f := range ofOne + "?" {
			One(int(f), a)
		}
		for _, i := range []int{0, 1, 2, -1, math.MaxInt, math.MinInt} {
			Pick(a, i)
		}
	}
}
