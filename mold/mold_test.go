package mold

import (
	"math"
	"slices"
	"strings"
	"testing"

	"scrim/api"
	"scrim/array"
	"scrim/sample"
	"scrim/view"
)

// told is an answer as a text: the array's, or the error's name, beside which there is nothing.
func told(a api.Array, e api.Errno) string {
	text := sample.Text(a)
	switch {
	case e == api.OK:
		return text
	case text == "[|]":
		return e.Error()
	}
	return "an error beside " + text
}

// The names of errors.
const (
	domain = "DOMAIN ERROR"
	rank   = "RANK ERROR"
	limit  = "LIMIT ERROR"
)

// deep is the text of a row with what it is handed, in so many Boxes within one another.
func deep(boxes int, cells string) string {
	return strings.Repeat("(", boxes+1) + cells + strings.Repeat(")", boxes+1)
}

// wide is an array of so many cells along one axis, each the same.
func wide(n int, cell string) api.Array {
	return api.Array{Shape: []int{n}, Cells: slices.Repeat([]api.Cell{sample.Cell(cell)}, n)}
}

// 11.1: the lengths of axes, the cells along one axis, the length of the first axis.
func TestShapeRavelTally(t *testing.T) {
	for _, x := range []struct{ a, shape, ravel, tally string }{
		// Without axes, with one, with more.
		{"[|5]", "()", "(5)", "[|1]"}, {"[|'x]", "()", "('x)", "[|1]"}, {"[|(1 2)]", "()", "((1 2))", "[|1]"},
		{"(7)", "(1)", "(7)", "[|1]"}, {"(1 2r3 'x)", "(3)", "(1 2r3 'x)", "[|3]"},
		{"[2 3|1 2 3 4 5 6]", "(2 3)", "(1 2 3 4 5 6)", "[|2]"}, {"[3 2|1 2 3 4 5 6]", "(3 2)", "(1 2 3 4 5 6)", "[|3]"}, {"[1 1|'x]", "(1 1)", "('x)", "[|1]"}, {"[1 2 1 3 1 1|1 2 3 4 5 6]", "(1 2 1 3 1 1)", "(1 2 3 4 5 6)", "[|1]"},
		// No cells.
		{"()", "(0)", "()", "[|0]"}, {"[0 3|]", "(0 3)", "()", "[|0]"}, {"[3 0|]", "(3 0)", "()", "[|3]"}, {"[2048 0 2048|]", "(2048 0 2048)", "()", "[|2048]"},
		// Boxes stay as they are.
		{"(1 (2 ('x 3)) ())", "(3)", "(1 (2 ('x 3)) ())", "[|3]"}, {"[2 1|[2 2|1 2 3 4] [|(5)]]", "(2 1)", "([2 2|1 2 3 4] [|(5)])", "[|2]"}, {deep(8, "1"), "(1)", deep(8, "1"), "[|1]"},
		// Labels: the shape's is told; those of cells stay with them, new ones have none.
		{"[|5@4]^8", "()^8", "(5@4)^8", "[|1]^8"}, {"(1@1 2@2 3)^4", "(3)^4", "(1@1 2@2 3)^4", "[|3]^4"}, {"()^5", "(0)^5", "()^5", "[|0]^5"}, {"[2 1|1@1 (2@2)^4@8]^16", "(2 1)^16", "(1@1 (2@2)^4@8)^16", "[|2]^16"}, {"[|(1@1 2)^2@4]", "()", "((1@1 2)^2@4)", "[|1]"}, {"[1 2|1@* 2]^*", "(1 2)^*", "(1@* 2)^*", "[|1]^*"},
	} {
		a := sample.Array(x.a)
		if got := sample.Text(Shape(a)); got != x.shape {
			t.Error(x.a, "has the shape", got, "not", x.shape)
		}
		if got := sample.Text(Ravel(a)); got != x.ravel {
			t.Error(x.a, "raveled is", got, "not", x.ravel)
		}
		if got := sample.Text(Tally(a)); got != x.tally {
			t.Error(x.a, "has the tally", got, "not", x.tally)
		}
	}
}

// 11.1: how deep an array is, under all its labels.
func TestDepth(t *testing.T) {
	for a, want := range map[string]string{
		"[|5]": "[|0]", "[|'x]": "[|0]",
		"(5)": "[|1]", "()": "[|1]", "[1 1|5]": "[|1]", "[0 3|]": "[|1]", "(1 2 'x)": "[|1]",
		"[|(5)]": "[|2]", "[|()]": "[|2]", "(1 (2 3))": "[|2]", "((1) (2))": "[|2]", "[|[|(5)]]": "[|3]", "(1 (2 (3)) 4)": "[|3]", "((1) (2 (3 ('x))) (5))": "[|4]", "((2 (3 ('x))) (5) [1 1|6])": "[|4]",
		deep(7, "1"): "[|8]", deep(8, "1"): "[|9]", deep(8, ""): "[|9]",
		// All labels are told, that of the number is none.
		"[|5@4]^8": "[|0]^12", "[|5@4]": "[|0]^4", "(5@4 6@1)^8": "[|1]^13", "()^5": "[|1]^5", "((1@1 'x)^2@4 2@8)^16": "[|2]^31", "(1 (2 (3@64)))": "[|3]^64", "(1 (2 (3)^64))": "[|3]^64", "(1 (2 (3)@64))": "[|3]^64", "[|5]^*": "[|0]^*",
	} {
		if got := sample.Text(Depth(sample.Array(a))); got != want {
			t.Error(a, "has the depth", got, "not", want)
		}
	}
}

// 11.1: whether two arrays match, each way, and whether they don't, under all labels of both.
func TestMatch(t *testing.T) {
	for _, x := range []struct {
		a, b  string
		match bool
		s     uint64
	}{
		{"[|5]", "[|5]", true, 0}, {"(1 'x)", "(1 'x)", true, 0}, {"()", "()", true, 0}, {"[0 3|]", "[0 3|]", true, 0}, {"((1 (2 'x)) [1 1|5r2])", "((1 (2 'x)) [1 1|5r2])", true, 0}, {"[2 2|1 2 3 4]", "[2 2|1 2 3 4]", true, 0}, {deep(8, "1"), deep(8, "1"), true, 0},
		// Another shape.
		{"[|5]", "(5)", false, 0}, {"(5)", "[1 1|5]", false, 0}, {"()", "[0 3|]", false, 0}, {"[0 3|]", "[0 2|]", false, 0}, {"[0 3|]", "[3 0|]", false, 0}, {"[2 3|1 2 3 4 5 6]", "[3 2|1 2 3 4 5 6]", false, 0}, {"(1 2)", "(1 2 2)", false, 0}, {"()", "(0)", false, 0}, {"((1))", "([1 1|1])", false, 0},
		// Another cell: its number, its character, its kind, what is in it.
		{"[|5]", "[|¯5]", false, 0}, {"(1 2)", "(1 3)", false, 0}, {"(1 2)", "(2 1)", false, 0}, {"(1r2)", "(2r1)", false, 0}, {"('x)", "('X)", false, 0}, {"(65)", "('A)", false, 0}, {"(0)", "(' )", false, 0}, {"((1 2) 3)", "((1 4) 3)", false, 0}, {"[|(1)]", "(1)", false, 0}, {"[|(1)]", "[|[|(1)]]", false, 0}, {"(())", "([0 3|])", false, 0}, {deep(8, "1"), deep(8, "2"), false, 0},
		// Labels don't count, but are told, all of both.
		{"(1@1 2)^2", "(1 2@4)^8", true, 15}, {"(1@1 2)^2", "(1@1 2)^2", true, 3}, {"[|5@*]", "[|5]", true, math.MaxUint64}, {"((1@1 'x)^2@4 3@8)^16", "((1@32 'x)^64@128 3@256)^512", true, 1023}, {"()^1", "()^2", true, 3},
		{"(1@1 2)^2", "(1 3@4)^8", false, 15}, {"((1@1 'x)^2@4 3@8)^16", "[|5]", false, 31}, {"()^1", "[0 3|]^2", false, 3}, {"[|5]^4", "[|6]^4", false, 4},
	} {
		yes, no := array.Raise(sample.Array("[|1]"), x.s), array.Raise(sample.Array("[|0]"), x.s)
		if !x.match {
			yes, no = no, yes
		}
		for _, pair := range [][2]string{{x.a, x.b}, {x.b, x.a}} {
			a, b := sample.Array(pair[0]), sample.Array(pair[1])
			if got := Match(a, b, true); !array.Same(got, yes) {
				t.Error(pair, "match:", sample.Text(got), "not", sample.Text(yes))
			}
			if got := Match(a, b, false); !array.Same(got, no) {
				t.Error(pair, "don't match:", sample.Text(got), "not", sample.Text(no))
			}
		}
	}
}

// 11.2: cells in another shape, or the error.
func TestReshape(t *testing.T) {
	for _, x := range []struct{ n, a, want string }{
		// The document's example; more cells than there are, from the first one on again.
		{"(2 3)", "(1 2 3 4)", "[2 3|1 2 3 4 1 2]"}, {"(5)", "(1 2)", "(1 2 1 2 1)"}, {"(3)", "[|7]", "(7 7 7)"}, {"(2 2)", "[|(1 2)]", "[2 2|(1 2) (1 2) (1 2) (1 2)]"}, {"(7)", "[2 1|'x (3)]", "('x (3) 'x (3) 'x (3) 'x)"}, {"(1 3)", "(1 2)", "[1 3|1 2 1]"},
		// As many, and fewer.
		{"(4)", "[2 2|1 2 3 4]", "(1 2 3 4)"}, {"(3 2)", "[2 3|1 2 3 4 5 6]", "[3 2|1 2 3 4 5 6]"}, {"(2)", "(1 2 3)", "(1 2)"}, {"(2 1)", "[2 2|1 2 3 4]", "[2 1|1 2]"}, {"(1)", "[|5]", "(5)"}, {"(1 1 1 1 1 1)", "(5 6)", "[1 1 1 1 1 1|5]"},
		// The numbers alone, without an axis, and none of them.
		{"[|3]", "(1 2)", "(1 2 1)"}, {"[|0]", "(1 2)", "()"}, {"()", "(5 6)", "[|5]"}, {"()", "[|5]", "[|5]"}, {"()", "((1 2) 3)", "[|(1 2)]"}, {"()", "()", "[|0]"},
		// To no cells.
		{"(0)", "(1 2)", "()"}, {"(0 3)", "(1 2)", "[0 3|]"}, {"(3 0)", "()", "[3 0|]"}, {"(2048 2048 0)", "(1)", "[2048 2048 0|]"}, {"(0)", "[|'x]", "()"},
		// Of no cells.
		{"(2)", "()", "(0 0)"}, {"(2 2)", "[0 3|]", "[2 2|0 0 0 0]"}, {"[|1]", "[3 0|]", "(0)"},
		// Labels: of cells they stay, as often as they come; the fill has none; all of the numbers are told, of the array the shape's alone.
		{"(5)", "(1@1 2@2)^4", "(1@1 2@2 1@1 2@2 1@1)^4"}, {"(2@1 2@2)^4", "(1@16 2@32 3@64)^8", "[2 2|1@16 2@32 3@64 1@16]^15"}, {"[|1@1]^2", "[|5@4]^8", "(5@4)^11"}, {"()^2", "(5@4 6@16)^8", "[|5@4]^10"}, {"(0@1)^2", "(5@4)^8", "()^11"}, {"(2@1)^2", "()^8", "(0 0)^11"}, {"()", "((1@1 2)^2@4 3@8)^16", "[|(1@1 2)^2@4]^16"}, {"(2)", "[|(1@1 2)^2@4]^8", "((1@1 2)^2@4 (1@1 2)^2@4)^8"}, {"(1@*)", "(1)", "(1)^*"}, {"(1)", "(1@*)", "(1@*)"}, {"(1)", "(1)^*", "(1)^*"},
		// Errors of the numbers: more than one axis, ahead of cells that are no ints.
		{"[1 1|2]", "(1 2)", rank}, {"[2 1|2 'x]", "(1 2)", rank}, {"[0 3|]", "(1 2)", rank}, {"[1 1 1|9000]^4", "()", rank},
		{"('x)", "(1 2)", domain}, {"(1r2)", "(1 2)", domain}, {"[|'x]", "(1 2)", domain}, {"(2 (2 2))", "(1 2)", domain}, {"[|(2 2)]", "(1 2)", domain}, {"(9223372036854775808)", "(1 2)", domain}, {"(1 1 1 1 1 1 1 'x)", "(1 2)", domain}, {"(2049 'x)", "(1 2)", domain}, {"(2@4 'x@8)^16", "(1@1)^2", domain},
		// Shapes that may not be: below 0, too many axes or cells.
		{"(¯1)", "(1 2)", domain}, {"[|¯1]", "(1 2)", domain}, {"(2 ¯1)", "()", domain}, {"(0 ¯1)", "(1)", domain}, {"(2049 ¯1)", "(1)", domain}, {"(¯9223372036854775808)", "(1)", domain}, {"(¯1@4)^8", "(1@2)^1", domain},
		{"(2049)", "(1 2)", limit}, {"[|2049]", "()", limit}, {"(64 33)", "(1 2)", limit}, {"(2049 0)", "(1 2)", limit}, {"(1 1 1 1 1 1 1)", "(1 2)", limit}, {"(0 0 0 0 0 0 0)", "(1 2)", limit}, {"(1 1 1 1 1 1 ¯1)", "(1 2)", limit}, {"(9223372036854775807)", "(1)", limit}, {"(4294967296 4294967296)", "(1)", limit}, {"(64@4 33)^8", "(1@2)^1", limit},
	} {
		if got := told(Reshape(sample.Array(x.n), sample.Array(x.a))); got != x.want {
			t.Error(x.n, "reshaped of", x.a, "is", got, "not", x.want)
		}
	}
}

// 11.2: as many cells as may be.
func TestReshapeWide(t *testing.T) {
	for _, n := range sample.Arrays("(2048)", "(32 64)", "(2 2 2 2 2 64)") {
		a, e := Reshape(n, sample.Array("(1@1 2@2 (3@4))^8"))
		if e != api.OK || !array.Right(a) || len(a.Cells) != 2048 || a.S != 8 {
			t.Fatal(sample.Text(n), e, len(a.Cells))
		}
		for i, c := range a.Cells {
			if want := []string{"1@1", "2@2", "(3@4)"}[i%3]; sample.CellText(c) != want {
				t.Error(i, sample.CellText(c), "not", want)
			}
		}
	}
}

// 11.3: an array in a Box, but not if it is simple; the error, if it is too deep.
func TestEnclose(t *testing.T) {
	for _, x := range []struct{ a, want string }{
		// Simple: it stays what it is, with its labels.
		{"[|5]", "[|5]"}, {"[|'x]", "[|'x]"}, {"[|¯1r2@4]^8", "[|¯1r2@4]^8"}, {"[|'x@*]^*", "[|'x@*]^*"},
		// Not simple: one axis, more, no cells, one cell.
		{"(1 2)", "[|(1 2)]"}, {"(5)", "[|(5)]"}, {"()", "[|()]"}, {"[1 1|5]", "[|[1 1|5]]"}, {"[0 3|]", "[|[0 3|]]"}, {"[2 2|1 'x 3 4]", "[|[2 2|1 'x 3 4]]"}, {"(1 (2 ('x)))", "[|(1 (2 ('x)))]"},
		// A Box alone gets one more around it.
		{"[|(1 2)]", "[|[|(1 2)]]"}, {"[|[|(1)]]", "[|[|[|(1)]]]"}, {"[|()]", "[|[|()]]"},
		// The Box has the label of the cell of an array without axes, else none; the shape's is told.
		{"(1@1 2@2)^4", "[|(1@1 2@2)^4]^4"}, {"()^4", "[|()^4]^4"}, {"(5@1)", "[|(5@1)]"}, {"[1 1|5@1]^4", "[|[1 1|5@1]^4]^4"}, {"((1@1)^2@4)^8", "[|((1@1)^2@4)^8]^8"}, {"[|(1@1 2)^2@4]^8", "[|[|(1@1 2)^2@4]^8@4]^8"}, {"[|(1)@4]", "[|[|(1)@4]@4]"}, {"[|(1)]^4", "[|[|(1)]^4]^4"}, {"[|[|(1)@1]^2@4]^8", "[|[|[|(1)@1]^2@4]^8@4]^8"}, {"[|(1)@*]", "[|[|(1)@*]@*]"},
		// As deep as may be, and above.
		{deep(7, "1"), "[|" + deep(7, "1") + "]"}, {deep(7, "") + "^4", "[|" + deep(7, "") + "^4]^4"}, {"(1 " + deep(6, "1 2") + ")", "[|(1 " + deep(6, "1 2") + ")]"}, {"[|" + deep(6, "1") + "@2]^4", "[|[|" + deep(6, "1") + "@2]^4@2]^4"},
		{deep(8, "1"), limit}, {deep(8, ""), limit}, {"(1@1 " + deep(7, "1@2") + "@4)^8", limit}, {"[|" + deep(7, "1") + "@2]^4", limit},
	} {
		a, e := Enclose(sample.Array(x.a))
		if got := told(a, e); got != x.want {
			t.Error(x.a, "enclosed is", got, "not", x.want)
		}
		if e == api.OK && !array.Right(a) {
			t.Error(x.a, "enclosed is not right")
		}
	}
}

// 11.3: what is in the first cell, or that alone, or the fill.
func TestFirst(t *testing.T) {
	for _, x := range []struct{ a, want string }{
		// The first cell is no Box.
		{"[|5]", "[|5]"}, {"(5 6 7)", "[|5]"}, {"('x 6)", "[|'x]"}, {"[2 2|¯1r2 2 3 4]", "[|¯1r2]"}, {"(5 (6 7))", "[|5]"},
		// It is one.
		{"((1 2) 3)", "(1 2)"}, {"[|(1 2)]", "(1 2)"}, {"(() 3)", "()"}, {"([2 2|1 2 3 4] (5))", "[2 2|1 2 3 4]"}, {"[|[|(1)]]", "[|(1)]"}, {"(((1 2) 3) 4)", "((1 2) 3)"}, {deep(8, "1"), deep(7, "1")},
		// There is none.
		{"()", "[|0]"}, {"[0 3|]", "[|0]"}, {"[3 0|]", "[|0]"},
		// Labels: the first cell's, that of what is in it, and that of the shape go together; the fill has none.
		{"[|5@4]^8", "[|5@4]^12"}, {"(5@1 6@2)^4", "[|5@1]^5"}, {"('x 6@2)^4", "[|'x]^4"}, {"((1@1 2)^2@4 3@8)^16", "(1@1 2)^22"}, {"((1@1 2)^2 3@8)", "(1@1 2)^2"}, {"((1 2)@4 3)", "(1 2)^4"}, {"[|(1@1)^2@4]^8", "(1@1)^14"}, {"[|[|(1)^1@2]^4@8]^16", "[|(1)^1@2]^28"}, {"()^4", "[|0]^4"}, {"[0 3|]^*", "[|0]^*"},
	} {
		a := First(sample.Array(x.a))
		if got := sample.Text(a); got != x.want || !array.Right(a) {
			t.Error("the first of", x.a, "is", got, "not", x.want)
		}
	}
}

// 11.4: all cells that are no Boxes, under all labels.
func TestEnlist(t *testing.T) {
	for _, x := range []struct{ a, want string }{
		{"[|5]", "(5)"}, {"(1 'x 2r3)", "(1 'x 2r3)"}, {"[2 2|1 2 3 4]", "(1 2 3 4)"}, {"[1 1 1|'x]", "('x)"},
		// No cells; Boxes with no cells in them.
		{"()", "()"}, {"[0 3|]", "()"}, {"[|()]", "()"}, {"(() [3 0|] [|()])", "()"}, {"(1 () 2 (() 3))", "(1 2 3)"},
		// Boxes within one another, in order.
		{"((1 2) 3)", "(1 2 3)"}, {"(1 (2 (3 ('x 5)) 6) [2 1|7 (8 9)] 10)", "(1 2 3 'x 5 6 7 8 9 10)"}, {"[|[|(1 2)]]", "(1 2)"}, {"[2 2|1 (2) [|(3)] [2 2|4 5 6 7]]", "(1 2 3 4 5 6 7)"}, {deep(8, "1 2"), "(1 2)"}, {"((1) " + deep(7, "2") + " 3)", "(1 2 3)"},
		// Cells keep their labels; those of Boxes and of shapes are told with all others.
		{"[|5@4]^8", "(5@4)^12"}, {"(1@1 2)^2", "(1@1 2)^3"}, {"()^4", "()^4"}, {"(()^1@2)^4", "()^7"}, {"((1@1 'x)^2@4 3@8)^16", "(1@1 'x 3@8)^31"}, {"(1 (2 (3@64)))", "(1 2 3@64)^64"}, {"(1 (2 (3)^64))", "(1 2 3)^64"}, {"(1 (2 (3)@64))", "(1 2 3)^64"}, {"(1@*)", "(1@*)^*"},
	} {
		a, e := Enlist(sample.Array(x.a))
		if got := told(a, e); got != x.want || !array.Right(a) {
			t.Error(x.a, "enlisted is", got, "not", x.want)
		}
	}
}

// 11.4: as many cells as may be, and one more; Boxes are none of them.
func TestEnlistWide(t *testing.T) {
	row := func(l ...api.Array) api.Array {
		var cells []api.Cell
		for _, a := range l {
			cells = append(cells, array.Pack(a))
		}
		return array.Vector(cells)
	}
	one, none, most := sample.Array("[|2@4]"), sample.Array("()^8"), wide(2048, "1@1")
	lesser := wide(2047, "1@1")
	for i, a := range []api.Array{most, row(most), row(lesser, one), row(one, lesser), row(wide(1024, "1@1"), none, wide(1024, "'x")), row(none, row(none, most), none), row(row(row(lesser)), none, row(none, one)), {Shape: []int{32, 64}, Cells: most.Cells}} {
		got, e := Enlist(a)
		if e != api.OK || !array.Right(got) || len(got.Cells) != 2048 || len(got.Shape) != 1 || got.S != array.Total(a) {
			t.Error(i, len(got.Cells), e)
		}
	}
	for i, a := range []api.Array{row(most, one), row(one, most), row(most, row(none, row(one))), row(lesser, one, one), row(wide(1024, "1@1"), wide(1025, "'x")), row(most, most), wide(2048, "(1 2)"), wide(2048, deep(7, "1 2"))} {
		if got := told(Enlist(a)); got != limit {
			t.Error(i, got)
		}
	}
}

// lengths are some few numbers that may be a shape's, with labels.
func lengths(draw func(int) int) api.Array {
	n := api.Array{S: uint64(draw(16))}
	cells := draw(5)
	if cells == 4 {
		cells = 1
	} else {
		n.Shape = []int{cells}
	}
	for range cells {
		c := array.Int(draw(4))
		c.L = uint64(draw(16))
		n.Cells = append(n.Cells, c)
	}
	return n
}

// otherLengths are such numbers, alike to an observer.
func otherLengths(draw func(int) int, n api.Array, observer uint64) api.Array {
	if n.S&^observer != 0 {
		other := lengths(draw)
		other.S |= n.S
		return other
	}
	other := api.Array{S: n.S, Shape: n.Shape}
	for _, c := range n.Cells {
		if c.L&^observer != 0 {
			c.N = array.Int(draw(4)).N
		}
		other.Cells = append(other.Cells, c)
	}
	return other
}

// function is one of the functions, as if all were of two arrays, and its rule; reshape: the first array is a shape's lengths.
type function struct {
	name    string
	reshape bool
	of      func(a, b api.Array) (api.Array, api.Errno)
	rule    func(a, b api.Array) (api.Array, api.Errno)
}

func ofOne(name string, of, rule func(a api.Array) api.Array) function {
	no := func(f func(api.Array) api.Array) func(a, b api.Array) (api.Array, api.Errno) {
		return func(a, _ api.Array) (api.Array, api.Errno) { return f(a), api.OK }
	}
	return function{name: name, of: no(of), rule: no(rule)}
}

// numberAlone is a number without axes and labels but that of its shape.
func numberAlone(s uint64, n int) api.Array {
	return api.Array{S: s, Cells: []api.Cell{{N: array.Int(n).N}}}
}

func shapeByRule(a api.Array) api.Array {
	told := api.Array{S: a.S, Shape: []int{len(a.Shape)}}
	for _, n := range a.Shape {
		told.Cells = append(told.Cells, numberAlone(0, n).Cells...)
	}
	return told
}

func tallyByRule(a api.Array) api.Array {
	for _, n := range a.Shape {
		return numberAlone(a.S, n)
	}
	return numberAlone(a.S, 1)
}

// totalByRule goes through the labels of an array as its text shows them.
func totalByRule(a api.Array) uint64 {
	total := a.S
	for _, c := range a.Cells {
		total |= c.L
		if c.Kind == api.Box {
			total |= totalByRule(c.In[0])
		}
	}
	return total
}

func depthByRule(a api.Array) int {
	if len(a.Shape) == 0 && a.Cells[0].Kind != api.Box {
		return 0
	}
	within := 0
	for _, c := range a.Cells {
		if c.Kind == api.Box {
			within = max(within, depthByRule(c.In[0]))
		}
	}
	return 1 + within
}

func matchByRule(same bool) func(a, b api.Array) (api.Array, api.Errno) {
	return func(a, b api.Array) (api.Array, api.Errno) {
		s := totalByRule(a) | totalByRule(b)
		if (sample.Text(array.Erase(a)) == sample.Text(array.Erase(b))) == same {
			return numberAlone(s, 1), api.OK
		}
		return numberAlone(s, 0), api.OK
	}
}

func reshapeByRule(n, a api.Array) (api.Array, api.Errno) {
	if len(n.Shape) > 1 {
		return api.Array{}, api.Rank
	}
	told, count := api.Array{S: a.S | totalByRule(n)}, 1
	for _, c := range n.Cells {
		c.L = 0
		length := slices.Index([]string{"0", "1", "2", "3"}, sample.CellText(c))
		if length < 0 {
			return api.Array{}, api.Domain
		}
		told.Shape = append(told.Shape, length)
		count *= length
	}
	from := a.Cells
	if len(from) == 0 {
		from = numberAlone(0, 0).Cells
	}
	for len(told.Cells) < count {
		told.Cells = append(told.Cells, from...)
	}
	told.Cells = told.Cells[:count]
	return told, api.OK
}

func encloseByRule(a, _ api.Array) (api.Array, api.Errno) {
	if depthByRule(a) == 0 {
		return a, api.OK
	}
	box := api.Cell{Kind: api.Box, In: []api.Array{a}}
	if len(a.Shape) == 0 {
		box.L = a.Cells[0].L
	}
	return api.Array{S: a.S, Cells: []api.Cell{box}}, api.OK
}

func firstByRule(a api.Array) api.Array {
	for _, c := range a.Cells {
		first := api.Array{Cells: []api.Cell{c}}
		if c.Kind == api.Box {
			first = c.In[0]
		}
		first.S |= a.S | c.L
		return first
	}
	return numberAlone(a.S, 0)
}

func enlistByRule(a, _ api.Array) (api.Array, api.Errno) {
	told := api.Array{S: totalByRule(a)}
	for _, c := range a.Cells {
		if c.Kind != api.Box {
			told.Cells = append(told.Cells, c)
			continue
		}
		in, _ := enlistByRule(c.In[0], a)
		told.Cells = append(told.Cells, in.Cells...)
	}
	told.Shape = []int{len(told.Cells)}
	return told, api.OK
}

// functions are all functions, each with what it tells by the chapter's words of arrays that are far from the bounds.
func functions() []function {
	match := func(same bool) func(a, b api.Array) (api.Array, api.Errno) {
		return func(a, b api.Array) (api.Array, api.Errno) { return Match(a, b, same), api.OK }
	}
	enclose := func(a, _ api.Array) (api.Array, api.Errno) { return Enclose(a) }
	enlist := func(a, _ api.Array) (api.Array, api.Errno) { return Enlist(a) }
	return []function{
		ofOne("Shape", Shape, shapeByRule),
		ofOne("Ravel", Ravel, func(a api.Array) api.Array {
			return api.Array{S: a.S, Shape: []int{len(a.Cells)}, Cells: a.Cells}
		}),
		ofOne("Tally", Tally, tallyByRule),
		ofOne("Depth", Depth, func(a api.Array) api.Array { return numberAlone(totalByRule(a), depthByRule(a)) }),
		ofOne("First", First, firstByRule),
		{name: "Match", of: match(true), rule: matchByRule(true)},
		{name: "Match, not the same", of: match(false), rule: matchByRule(false)},
		{name: "Reshape", reshape: true, of: Reshape, rule: reshapeByRule},
		{name: "Enclose", of: enclose, rule: encloseByRule},
		{name: "Enlist", of: enlist, rule: enlistByRule},
	}
}

// drawnPair are two arrays, of which the second one matches the first one more often than by chance.
func drawnPair(draw func(int) int) (api.Array, api.Array) {
	a, b := sample.Drawn(draw, 3), sample.Drawn(draw, 2)
	if draw(3) == 0 {
		b = array.Cover(array.Erase(a), uint64(draw(16)))
	}
	return a, b
}

// 11.1 to 11.5: arrays of all sorts, by the rule; what is told is right.
func TestByRule(t *testing.T) {
	draw := sample.Chance(20)
	for range 1500 {
		a, b := drawnPair(draw)
		n := lengths(draw)
		for _, f := range functions() {
			pairs := [][2]api.Array{{a, b}}
			if f.reshape {
				pairs = append(pairs, [2]api.Array{n, b}, [2]api.Array{Shape(a), b})
			}
			for _, pair := range pairs {
				got, e := f.of(pair[0], pair[1])
				if want := told(f.rule(pair[0], pair[1])); told(got, e) != want {
					t.Error(f.name, sample.Text(pair[0]), sample.Text(pair[1]), "is", told(got, e), "not", want)
				}
				if e == api.OK && !array.Right(got) {
					t.Error(f.name, sample.Text(pair[0]), sample.Text(pair[1]), "is not right")
				}
			}
		}
	}
}

// Labels ask for nothing; where all that is handed in has a tag, the shape that is told has it, no label has another one, and all else is as it was.
func TestLabels(t *testing.T) {
	draw := sample.Chance(21)
	for range 500 {
		a, b := drawnPair(draw)
		n := lengths(draw)
		for _, f := range functions() {
			first := a
			if f.reshape {
				first = n
			}
			got, e := f.of(first, b)
			plain, plainError := f.of(array.Erase(first), array.Erase(b))
			if e != plainError || !array.Match(plain, got) || array.Total(plain) != 0 {
				t.Error(f.name, sample.Text(first), sample.Text(b), "asks for labels")
			}
			covered, coveredError := f.of(array.Cover(first, 64), array.Cover(b, 64))
			if e != coveredError || !array.Same(array.Cover(got, 64), array.Cover(covered, 64)) || e == api.OK && covered.S != got.S|64 {
				t.Error(f.name, sample.Text(first), sample.Text(b), sample.Text(covered))
			}
		}
	}
}

// 11.5: what is told of arrays that are alike to an observer is alike to it, where no error is told.
func TestAlike(t *testing.T) {
	draw := sample.Chance(22)
	others := map[string]int{}
	for range 3000 {
		a, b := drawnPair(draw)
		n := lengths(draw)
		observer := uint64(draw(16))
		c, d, m := sample.Disguised(draw, a, observer), sample.Disguised(draw, b, observer), otherLengths(draw, n, observer)
		if !view.Alike(a, c, observer) || !view.Alike(b, d, observer) || !view.Alike(n, m, observer) {
			t.Fatal("a slip:", sample.Text(a), sample.Text(c), sample.Text(b), sample.Text(d), sample.Text(n), sample.Text(m))
		}
		for _, f := range functions() {
			one, other := a, c
			if f.reshape {
				one, other = n, m
			}
			x, xError := f.of(one, b)
			y, yError := f.of(other, d)
			if xError != api.OK || yError != api.OK {
				continue
			}
			if !array.Match(x, y) {
				others[f.name]++
			}
			if !view.Alike(x, y, observer) {
				t.Error(f.name, sample.Text(one), sample.Text(other), sample.Text(b), sample.Text(d), "is, to", observer, sample.Text(x), "or", sample.Text(y))
			}
		}
	}
	for _, f := range functions() {
		if others[f.name] < 200 {
			t.Error("too few are others of", f.name, others[f.name])
		}
	}
}

// 11.5: an observer that does not see a cell alone does not see whether it is a Box, in what is enclosed, first or enlisted.
func TestAlikeAlone(t *testing.T) {
	l := sample.Arrays("[|5@4]^1", "[|'x@4]^1", "[|(1 2)@4]^1", "[|(1@8)^2@4]^1", "[|[|()]@4]^1", "[|"+deep(6, "1")+"@4]^1")
	for _, a := range l {
		for _, b := range l {
			x, e := Enclose(a)
			y, f := Enclose(b)
			if e != api.OK || f != api.OK || !view.Alike(x, y, 3) || !view.Alike(First(a), First(b), 3) || !view.Alike(First(x), First(y), 3) || !view.Alike(Depth(a), Depth(b), 3) {
				t.Error(sample.Text(a), sample.Text(b), sample.Text(x), sample.Text(y))
			}
		}
	}
}

// 11.5: the first of what was enclosed is the array again, whose S perhaps is raised; no other label is.
func TestFirstOfEnclosed(t *testing.T) {
	l := append(sample.ManyDrawn(23, 500, 3), sample.Arrays("[|5@4]^8", "[|'x]", "()", "()^4", "[|(1@1)^2@4]^8", deep(7, "1@2")+"^4", "[|[0 3|]@*]")...)
	for _, a := range l {
		box, e := Enclose(a)
		if e != api.OK {
			t.Error(sample.Text(a), e)
		}
		again, raised := First(box), a.S
		if len(a.Shape) == 0 {
			raised |= a.Cells[0].L
		}
		want := a
		want.S = raised
		if !array.Same(again, want) {
			t.Error(sample.Text(a), "becomes", sample.Text(again), "not", sample.Text(want))
		}
	}
}

// 11.5: an array in its own shape is itself; in any shape it has that shape, and of a shape there is one axis.
func TestLaws(t *testing.T) {
	draw := sample.Chance(24)
	for range 500 {
		a, n := sample.Drawn(draw, 3), lengths(draw)
		own, e := Reshape(Shape(a), a)
		if e != api.OK || !array.Same(own, a) || !array.Same(Ravel(own), Ravel(a)) || !array.Same(Ravel(Ravel(a)), Ravel(a)) {
			t.Error(sample.Text(a), "in its own shape is", sample.Text(own), e)
		}
		other, e := Reshape(n, a)
		if e != api.OK || !array.Match(Shape(other), Ravel(n)) || !array.Match(Tally(Shape(other)), numberAlone(0, len(n.Cells))) {
			t.Error(sample.Text(n), sample.Text(a), sample.Text(other), e)
		}
		list, e := Enlist(a)
		again, f := Enlist(list)
		if e != api.OK || f != api.OK || !array.Same(list, again) || list.S != Depth(a).S {
			t.Error(sample.Text(a), sample.Text(list), sample.Text(again))
		}
		if !array.Match(Match(a, list, true), Match(list, a, true)) || array.Match(Match(a, own, true), Match(a, own, false)) {
			t.Error(sample.Text(a), sample.Text(list))
		}
	}
}

// only is what a call answers beside an error, as an array.
func only(a api.Array, e api.Errno) api.Array {
	if e != api.OK {
		return api.Array{S: uint64(e)}
	}
	return a
}

// R4, R5: answers are new memory, of which nothing stands in what was handed in, and come again; what was handed in stays.
func TestMemory(t *testing.T) {
	row := sample.Array("(1 3r2 (2 3))")
	box := api.Cell{Kind: api.Box, In: []api.Array{row}}
	l := []api.Array{{Shape: []int{4}, Cells: []api.Cell{row.Cells[1], row.Cells[1], box, box}}}
	l = append(l, sample.Arrays("[|5r2]^4", "[|'x@2]", "[|3]", "(2 2)", "(2@1 3@4)^8", "(0)", "()", "()^4", "[0 2|]", "[2 1|5r3 (1 (2 'x))]", "[|(1 2@2)^4@8]", "[|[|(5r2)]]", "((1 2)@4 ('x) ())", "(¯1)", "(2049)", deep(7, "2r3"), deep(8, "2r3"))...)
	l = append(l, sample.ManyDrawn(25, 12, 2)...)
	others := slices.Concat(l[:1], sample.Arrays("[|5r2]", "(2 2)", "()", "(7 (8 9r2) 'x)", "[|(1r2 3)]"))
	for _, a := range l {
		for _, f := range functions() {
			for _, b := range others {
				for way, call := range []func(api.Array) api.Array{
					func(a api.Array) api.Array { return only(f.of(a, b)) },
					func(a api.Array) api.Array { return only(f.of(b, a)) },
					func(a api.Array) api.Array { return only(f.of(a, a)) },
				} {
					if fault := sample.Memory(call, a); fault != "" {
						t.Error(f.name, way, sample.Text(a), sample.Text(b), fault)
					}
				}
			}
		}
	}
}

// R4: numbers and shapes that are told can be written to, and what was handed in, with all that is in it, is as it was.
func TestWrittenTo(t *testing.T) {
	const text = "[2 2|5r3@1 (7r2 [1 1|9])^2@4 'x 8@8]^16"
	a, n := sample.Array(text), sample.Array("(3@1 3@2)^4")
	for _, f := range functions() {
		first := a
		if f.reshape {
			first = n
		}
		got, _ := f.of(first, a)
		writeTo(got)
		if sample.Text(a) != text || sample.Text(n) != "(3@1 3@2)^4" {
			t.Error(f.name, sample.Text(a), sample.Text(n))
		}
	}
}

func writeTo(a api.Array) {
	for i := range a.Shape {
		a.Shape[i] = -7
	}
	for i := range a.Cells {
		for _, in := range a.Cells[i].In {
			writeTo(in)
		}
		for _, limbs := range [][]uint32{a.Cells[i].N.Top, a.Cells[i].N.Bot} {
			for j := range limbs {
				limbs[j] = 77
			}
		}
		a.Cells[i] = api.Cell{L: 77, Kind: 7}
	}
}

// P1: arrays that are not right, too, end without a panic: with other cells than their shape says, without what a Box has, of other kinds, and deep.
func TestWrongArrays(t *testing.T) {
	odd := sample.Arrays("[|]", "[|]^4", "[2|]", "[3|1]", "[1|1 2 3]", "[0|1]", "[|1 2]", "[|(1) 2]", "[-1 3|1]", "[1099511627776 1099511627776|5]", "[1 1 1 1 1 1 1 1|5]", "(_)", "[|_]", "({2 0 /})", "[|{2 0 /}]", "({2 0 / (1) (2)})", "[|{2 0 / (1) (2)}]", "([|5])", "({3 0 /} {-1 0 /})", "[|{3 97 1/1 (1)}]", "({0 0 1/1 (1)} {1 97 2/1 (1)})", "({0 0 2/4} {0 0 -/1} {0 0 1/})", "({0 0 1,0/1})", "({1 -1 /})", "(1 2)", "[|'x]", "((1 2) 3)")
	thousand := sample.Array("(1)")
	for range 999 {
		thousand = api.Array{Shape: []int{1}, Cells: []api.Cell{{Kind: api.Box, In: []api.Array{thousand}}}}
	}
	odd = append(odd, thousand, wide(5000, "3"), wide(5000, "(1 2)"))
	for _, f := range functions() {
		for _, a := range odd {
			for _, b := range odd {
				if got, e := f.of(a, b); e != api.OK && sample.Text(got) != "[|]" {
					t.Error(f.name, e, "beside", sample.Text(got))
				}
			}
		}
	}
}

// P1: of wide arrays of Boxes all is told in time.
func TestWideBoxes(t *testing.T) {
	in := wide(200, "(1r2@1 'x)^2@4")
	a := api.Array{Shape: []int{200}, Cells: slices.Repeat([]api.Cell{{Kind: api.Box, In: []api.Array{in}}}, 200)}
	if got := sample.Text(Depth(a)); got != "[|3]^7" {
		t.Error(got)
	}
	if got := told(Enlist(a)); got != limit {
		t.Error(got)
	}
	if got := Match(a, Ravel(a), true); sample.Text(got) != "[|1]^7" {
		t.Error(sample.Text(got))
	}
	if got, e := Enclose(a); e != api.OK || !array.Same(First(got), a) || !array.Same(First(a), in) {
		t.Error(e)
	}
	if got, e := Reshape(sample.Array("(2 2)"), a); e != api.OK || array.Size(got) != 4*(1+200*3) {
		t.Error(array.Size(got), e)
	}
}
