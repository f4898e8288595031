package view

import (
	"fmt"
	"math"
	"slices"
	"strings"
	"testing"

	"scrim/api"
	"scrim/array"
	"scrim/sample"
)

// 9.1: Secret has all tags.
func TestSecret(t *testing.T) {
	var l uint64 = Secret
	if l != math.MaxUint64 {
		t.Error(l)
	}
}

// looks are arrays, each with an observer, and what it sees.
var looks = []struct {
	text     string
	observer uint64
	want     string
}{
	// The observer 0 sees what has the empty label alone.
	{"(1 2@1 3@2 'x 'y@*)", 0, "(1 _@* _@* 'x _@*)"},
	{"(1 2 'x)", 0, "(1 2 'x)"},
	{"(1 2)^1", 0, "[|]^*"},
	{"(1 2)^*", 0, "[|]^*"},
	{"[|5]", 0, "[|5]"},
	{"[|5@4]", 0, "[|_@*]"},
	{"[|5]^4", 0, "[|]^*"},
	{"(1@9223372036854775808 2)", 0, "(_@* 2)"},
	// The observer with all tags sees all.
	{"(1 2@1 3@2 'x 'y@* (1 2@7)^*@5)^9", Secret, "(1 2@1 3@2 'x 'y@* (1 2@7)^*@5)^9"},
	{"[|]^*", Secret, "[|]^*"},
	{"(_@* 5@*)^*", Secret, "(_@* 5@*)^*"},
	// Some tags of a label are not all of it, and more are no less.
	{"(1@3 2@1 3@2 4@4 5@7)", 1, "(_@* 2@1 _@* _@* _@*)"},
	{"(1@3 2@1 3@2 4@4 5@7)", 3, "(1@3 2@1 3@2 _@* _@*)"},
	{"(1@3 2@1 3@2 4@4 5@7)", 6, "(_@* _@* 3@2 4@4 _@*)"},
	{"(1@3 2@1 3@2 4@4 5@7)", 15, "(1@3 2@1 3@2 4@4 5@7)"},
	{"(1 2)^3", 1, "[|]^*"},
	{"(1 2)^3", 2, "[|]^*"},
	{"(1 2)^3", 3, "(1 2)^3"},
	{"(1 2)^3", 7, "(1 2)^3"},
	{"(1 2@9223372036854775808)^9223372036854775808", 1<<63 - 1, "[|]^*"},
	{"(1 2@9223372036854775808 3@*)^9223372036854775808", 1 << 63, "(1 2@9223372036854775808 _@*)^9223372036854775808"},
	// The shape's label and the cells' hang on nothing of one another.
	{"(1@8 2@4)^4", 4, "(_@* 2@4)^4"},
	{"(1@8 2@4)^4", 8, "[|]^*"},
	{"(1@8 2@8)", 4, "(_@* _@*)"},
	{"[2 2|1 2@4 3 4]^8", 8, "[2 2|1 _@* 3 4]^8"},
	{"[2 2|1 2@4 3 4]^8", 4, "[|]^*"},
	{"[|1@4]^8", 8, "[|_@*]^8"},
	{"[|1@4]^8", 4, "[|]^*"},
	// Of no cells the shape is left.
	{"()", 0, "()"},
	{"()^2", 2, "()^2"},
	{"()^2", 1, "[|]^*"},
	{"[0 3|]^2", 2, "[0 3|]^2"},
	{"[0 3|]^2", 5, "[|]^*"},
	{"[1 1 1 1 1 1|7@1]", 0, "[1 1 1 1 1 1|_@*]"},
	{"[1 2 1|7 8@1]", 2, "[1 2 1|7 _@*]"},
	// Of each kind.
	{"(¯3r2@1 5@2)", 1, "(¯3r2@1 _@*)"},
	{"('x@1 'y@2)", 1, "('x@1 _@*)"},
	{"((1 2)@1 (3 4)@2)", 1, "((1 2)@1 _@*)"},
	{"(0 '  ())", 0, "(0 '  ())"},
	// What is in a Box that is seen.
	{"((1 2)^4 5)", 0, "([|]^* 5)"},
	{"((1 2)^4@2 5)", 2, "([|]^*@2 5)"},
	{"((1 2)^4@2 5)", 6, "((1 2)^4@2 5)"},
	{"((1 2@4)^2@1 5)^8", 11, "((1 _@*)^2@1 5)^8"},
	{"([|(1 2@4)]@1 5)^8", 9, "([|(1 _@*)]@1 5)^8"},
	// What is in a Box that is not seen.
	{"((1 2)@4 5)", 0, "(_@* 5)"},
	{"((1 2)^2@4 5)", 2, "(_@* 5)"},
	{"(((1 2)@4 3)@2 5)", 2, "((_@* 3)@2 5)"},
	{"(((1 2) 3)@4 5)", 2, "(_@* 5)"},
	{"((((1@1 'x@2)^1 2@1)@1 ((1 2)^2)@1)^1@1 (('z)@2))^1", 1, "((((1@1 _@*)^1 2@1)@1 ([|]^*)@1)^1@1 (_@*))^1"},
	{"((((1@1 'x@2)^1 2@1)@1 ((1 2)^2)@1)^1@1 (('z)@2))^1", 3, "((((1@1 'x@2)^1 2@1)@1 ((1 2)^2)@1)^1@1 (('z)@2))^1"},
	{"((((1@1 'x@2)^1 2@1)@1 ((1 2)^2)@1)^1@1 (('z)@2))^1", 2, "[|]^*"},
	// What is secret already.
	{"[|]^*", 0, "[|]^*"},
	{"(_@* 5)", 0, "(_@* 5)"},
	{"(5@*)^*", 7, "[|]^*"},
	{"(5@* [|]^*)", 7, "(_@* [|]^*)"},
	// Cells that are not right, the arrays in them too, of whatever kind they are.
	{"({3 0 / (1 2@4)^1 (3)^2}@1)", 1, "({3 0 / (1 _@*)^1 [|]^*}@1)"},
	{"({0 0 1/1 (1 2@4)})", 1, "({0 0 1/1 (1 _@*)})"},
	{"({1 97 / (1 2@4) [|]^2})", 2, "({1 97 / (1 _@*) [|]^2})"},
	{"({2 97 -2,0/4 ((1)@4) (1)^4}@1)", 1, "({2 97 -2,0/4 (_@*) [|]^*}@1)"},
	{"({2 0 /} {2 0 / (5) (6@2)})", 0, "({2 0 /} {2 0 / (5) (_@*)})"},
	{"({-1 -5 1/}@4 {3 0 / (1)}@4)", 3, "(_@* _@*)"},
	{"({2 97 -2,0/4 ((1)@4) (1)^4}@1)", Secret, "({2 97 -2,0/4 ((1)@4) (1)^4}@1)"},
	// Arrays whose cells are not as many as their shape says.
	{"[|]", 0, "[|]"},
	{"[2|1 2 3@1]^1", 1, "[2|1 2 3@1]^1"},
	{"[-1 3|1 2@2]^1", 1, "[-1 3|1 _@*]^1"},
	{"[-1 3|1 2@2]^1", 2, "[|]^*"},
}

// 9.1: Hide leaves what the observer sees; of all else the label Secret alone.
func TestHide(t *testing.T) {
	for _, look := range looks {
		if got := sample.Text(Hide(sample.Array(look.text), look.observer)); got != look.want {
			t.Error(look.text, "to", look.observer, "is", got, "not", look.want)
		}
	}
}

// 9.1: Cell does so of a cell, and of arrays in it.
func TestCell(t *testing.T) {
	for _, look := range looks {
		// In a Box, whose label is handed in, each array is seen as Hide tells.
		c := api.Cell{L: 32, Kind: api.Box, In: []api.Array{sample.Array(look.text)}}
		if got, want := sample.CellText(Cell(c, look.observer|32)), sample.Text(Hide(c.In[0], look.observer|32))+"@32"; got != want {
			t.Error(look.text, "to", look.observer, "is", got, "not", want)
		}
		if got := sample.CellText(Cell(c, look.observer&^32)); got != "_@*" {
			t.Error(look.text, "to", look.observer, "is", got)
		}
	}
	for _, look := range []struct {
		text     string
		observer uint64
		want     string
	}{
		{"5", 0, "5"}, {"5@1", 0, "_@*"}, {"5@1", 1, "5@1"}, {"5@3", 1, "_@*"}, {"5@3", 3, "5@3"}, {"5@3", 7, "5@3"}, {"5@*", Secret, "5@*"}, {"5@*", 1<<63 - 1, "_@*"},
		{"'x@2", 2, "'x@2"}, {"'x@2", 1, "_@*"}, {"'x", 0, "'x"},
		{"(1 2@4)@2", 2, "(1 _@*)@2"}, {"(1 2@4)^4@2", 2, "[|]^*@2"}, {"(1 2@4)@2", 4, "_@*"}, {"(1 2@4)@2", 6, "(1 2@4)@2"},
		{"_@*", 5, "_@*"}, {"_", 0, "_"}, {"_@1", 2, "_@*"}, {"_@*", Secret, "_@*"},
		{"{0 7 1/1 (1@1)}@2", 2, "{0 7 1/1 (_@*)}@2"}, {"{0 7 1/1 (1@1)}@2", 1, "_@*"},
	} {
		if got := sample.CellText(Cell(sample.Cell(look.text), look.observer)); got != look.want {
			t.Error(look.text, "to", look.observer, "is", got, "not", look.want)
		}
	}
}

// 9.1: two are alike just where an observer sees no difference; what it does not see may be anything.
func TestAlike(t *testing.T) {
	for _, c := range []struct {
		a, b   string
		differ []uint64
		alike  []uint64
	}{
		// The document's example.
		{"(5@2)", "(6@3)", []uint64{2, 3, 6, Secret}, []uint64{0, 1, 4, 5}},
		// One label alone.
		{"(5@1)", "(5@2)", []uint64{1, 2, 3}, []uint64{0, 4}},
		{"(5@1)", "(5)", []uint64{0, 1, 2, 3}, nil},
		{"(5)^1", "(5)^2", []uint64{1, 2, 3}, []uint64{0, 4}},
		{"(5)^1", "(5)^3", []uint64{1, 3}, []uint64{0, 2}},
		{"((5)^1)", "((5)^2)", []uint64{1, 2, 3}, []uint64{0, 4}},
		{"((5)@1)", "((5)@2)", []uint64{1, 2, 3}, []uint64{0, 4}},
		{"((5)^1@8)", "((5)^2@8)", []uint64{9, 10, 11}, []uint64{0, 1, 2, 3, 8, 12}},
		// One number, or one character.
		{"(1 5)", "(1 6)", []uint64{0, 1, Secret}, nil},
		{"(1 5@4)", "(1 6@4)", []uint64{4, 5, Secret}, []uint64{0, 1, 3, 8}},
		{"(1 5)^4", "(1 6)^4", []uint64{4, 5, Secret}, []uint64{0, 1, 3, 8}},
		{"(1 1r2@4)", "(1 1r3@4)", []uint64{4}, []uint64{0}},
		{"(1 5@4)", "(1 ¯5@4)", []uint64{4}, []uint64{0}},
		{"('x@4)", "('y@4)", []uint64{4}, []uint64{0}},
		{"((1 5@4))", "((1 6@4))", []uint64{4, 5}, []uint64{0, 3}},
		{"((1 5)@4)", "((1 6)@4)", []uint64{4, 5}, []uint64{0, 3}},
		{"((1 5)@4)", "(7@4)", []uint64{4, 5}, []uint64{0, 3}},
		{"(((1 5@1))@4)", "(((1 6@1))@4)", []uint64{5, 7}, []uint64{0, 1, 4, 6}},
		{"(5@4)", "('x@8)", []uint64{4, 8, 12}, []uint64{0, 3}},
		// One length, the number of axes, or of cells.
		{"(1@4 2@4)", "(1@4)", []uint64{0, 4}, nil},
		{"(1 2)^4", "(1)^4", []uint64{4, 6}, []uint64{0, 2}},
		{"(1 2)^4", "()^8", []uint64{4, 8, 12}, []uint64{0, 2}},
		{"[2 1|1 2]^4", "[1 2|1 2]^4", []uint64{4}, []uint64{0}},
		{"[2 1|1@4 2@4]", "[1 2|1@4 2@4]", []uint64{0, 4}, nil},
		{"[0 2|]", "[0 3|]", []uint64{0, 4}, nil},
		{"[0 2|]^1", "[0 3|]^1", []uint64{1}, []uint64{0, 2}},
		{"[|1]^4", "(1)^4", []uint64{4}, []uint64{0}},
		{"((1 2)^4)", "((1)^4)", []uint64{4}, []uint64{0}},
		{"((1 2)@4)", "((1)@4)", []uint64{4}, []uint64{0}},
		// What is not seen, beside what is.
		{"(1@4)^8", "(2@4)^8", []uint64{12}, []uint64{0, 4, 8}},
		{"(1@4 2)^8", "(1@4 3)^8", []uint64{8, 12}, []uint64{0, 4}},
		{"(1 2)^4", "(1 2)", []uint64{0, 4}, nil},
		{"(1 2@4)", "[|]^4", []uint64{0, 4}, nil},
		// What is secret already.
		{"(1@*)", "(_@*)", []uint64{Secret}, []uint64{0, 1<<63 - 1}},
		{"(1 2)^*", "[|]^*", []uint64{Secret}, []uint64{0, 1<<63 - 1}},
		{"(1@4)", "(_@*)", []uint64{4, Secret}, []uint64{0, 3}},
		// The same.
		{"(1 2@4 (3)^8)^2", "(1 2@4 (3)^8)^2", nil, []uint64{0, 2, 4, 8, 14, Secret}},
		// Not right.
		{"({3 0 / (1@4)})", "({3 0 / (2@4)})", []uint64{4}, []uint64{0}},
		{"({3 0 / (1@4)})", "({4 0 / (1@4)})", []uint64{0, 4}, nil},
		{"({0 0 2/4})", "(1r2)", []uint64{0}, nil},
		{"({0 0 2/4}@1)", "(1r2@1)", []uint64{1}, []uint64{0}},
		{"[3|1 2]", "[2|1 2]", []uint64{0}, nil},
		{"[|]", "()", []uint64{0}, nil},
	} {
		a, b := sample.Array(c.a), sample.Array(c.b)
		for _, observer := range c.differ {
			if Alike(a, b, observer) || Alike(b, a, observer) {
				t.Error(c.a, c.b, "are alike to", observer)
			}
		}
		for _, observer := range c.alike {
			if !Alike(a, b, observer) || !Alike(b, a, observer) {
				t.Error(c.a, c.b, "are not alike to", observer)
			}
		}
	}
}

// facts are what an observer may tell of an array: for each place it comes to, the way there and what stands at it.
func facts(a api.Array, observer uint64) []string {
	type place struct {
		way string
		a   api.Array
	}
	var l []string
	for todo := []place{{"", a}}; len(todo) > 0; todo = todo[1:] {
		way, a := todo[0].way, todo[0].a
		if a.S&^observer != 0 {
			l = append(l, way+"hidden")
			continue
		}
		l = append(l, fmt.Sprint(way, a.S, a.Shape, len(a.Cells)))
		for i, c := range a.Cells {
			at := fmt.Sprint(way, i, ":")
			if c.L&^observer != 0 {
				l = append(l, at+"hidden")
				continue
			}
			l = append(l, fmt.Sprint(at, c.L, " ", c.Kind, " ", c.C, c.N.Neg, c.N.Top, c.N.Bot, len(c.In)))
			for j, in := range c.In {
				todo = append(todo, place{fmt.Sprint(at, j, "/"), in})
			}
		}
	}
	return l
}

// another is an array with one thing changed at a place that is drawn.
func another(a api.Array, draw func(int) int) api.Array {
	b := api.Array{S: a.S, Shape: slices.Clone(a.Shape), Cells: slices.Clone(a.Cells)}
	at := draw(len(b.Cells) + 1)
	if at == len(b.Cells) {
		if draw(2) == 0 {
			b.S ^= 1 << draw(4)
		} else {
			b.Shape = append(b.Shape, 1)
		}
		return b
	}
	c := &b.Cells[at]
	switch {
	case len(c.In) > 0 && draw(3) > 0:
		c.In = []api.Array{another(c.In[0], draw)}
	case draw(2) == 0:
		c.L ^= 1 << draw(4)
	case c.Kind == api.Char:
		c.C++
	default:
		*c = api.Cell{L: c.L, Kind: api.Number, N: api.Num{Top: []uint32{uint32(7 + draw(2))}, Bot: []uint32{1}}}
	}
	return b
}

// families are lists of arrays that were made of one another by a change or two.
func families(seed uint64, n int) [][]api.Array {
	draw := sample.Chance(seed)
	var l [][]api.Array
	for range n {
		family := []api.Array{sample.Drawn(draw, 3)}
		for range 6 {
			family = append(family, another(family[draw(len(family))], draw))
		}
		l = append(l, family)
	}
	return l
}

// 9.1: two are alike just if an observer can tell the same of both.
func TestAlikeByFacts(t *testing.T) {
	alike := 0
	for _, family := range families(9, 60) {
		for observer := range uint64(16) {
			for _, a := range family {
				for _, b := range family {
					want := slices.Equal(facts(a, observer), facts(b, observer))
					if got := Alike(a, b, observer); got != want {
						t.Error(sample.Text(a), sample.Text(b), observer, got)
					}
					if want && !array.Same(a, b) {
						alike++
					}
				}
			}
		}
	}
	if alike < 1000 {
		t.Error("too few are alike", alike)
	}
}

// 9.1: what is hidden has what the observer can tell of the array, to all who look at it with no less than its eyes.
func TestHideByFacts(t *testing.T) {
	for _, a := range sample.ManyDrawn(10, 200, 3) {
		for observer := range uint64(16) {
			hidden := Hide(a, observer)
			if !slices.Equal(facts(hidden, observer), facts(a, observer)) {
				t.Error(sample.Text(a), observer)
			}
			// Where the label Secret stands, nothing else does; nor is any other label left that is not seen.
			text := sample.Text(hidden)
			if bare := strings.NewReplacer("_@*", "", "[|]^*", "").Replace(text); strings.Contains(bare, "*") || strings.Contains(bare, "_") || array.Total(sample.Array(strings.ReplaceAll(text, "*", "0")))&^observer != 0 {
				t.Error(sample.Text(a), "to", observer, "is", text)
			}
		}
	}
}

// 9.2: to be alike is an equivalence.
func TestAlikeIsAnEquivalence(t *testing.T) {
	for _, family := range families(11, 40) {
		for observer := range uint64(16) {
			for _, a := range family {
				if !Alike(a, a, observer) {
					t.Error(sample.Text(a), "is not like itself to", observer)
				}
				for _, b := range family {
					alike := Alike(a, b, observer)
					if alike != Alike(b, a, observer) {
						t.Error(sample.Text(a), sample.Text(b), "do not turn round to", observer)
					}
					for _, c := range family {
						if alike && Alike(b, c, observer) && !Alike(a, c, observer) {
							t.Error(sample.Text(a), sample.Text(b), sample.Text(c), "do not go on to", observer)
						}
					}
				}
			}
		}
	}
}

// 9.2: who sees less sees no more differences; hidden twice, also by who sees more ahead, is hidden once.
func TestSeesLess(t *testing.T) {
	for _, family := range families(12, 40) {
		for more := range uint64(16) {
			for less := more; ; less = (less - 1) & more {
				for i, a := range family {
					if b := family[(i+1)%len(family)]; Alike(a, b, more) && !Alike(a, b, less) {
						t.Error(sample.Text(a), sample.Text(b), "differ to", less, "not to", more)
					}
					if once, twice := Hide(a, less), Hide(Hide(a, more), less); !array.Same(once, twice) {
						t.Error(sample.Text(a), less, more, sample.Text(once), sample.Text(twice))
					}
				}
				if less == 0 {
					break
				}
			}
		}
	}
}

// 9.2: hidden twice is hidden once, of arrays and cells; an array is like itself, hidden.
func TestHiddenTwice(t *testing.T) {
	l := sample.ManyDrawn(13, 200, 3)
	for _, look := range looks {
		l = append(l, sample.Array(look.text))
	}
	for _, a := range l {
		for _, observer := range []uint64{0, 1, 2, 3, 6, 15, 1 << 63, 1<<63 - 1, Secret} {
			once := Hide(a, observer)
			if twice := Hide(once, observer); !array.Same(once, twice) || !Alike(a, once, observer) || !Alike(once, a, observer) {
				t.Error(sample.Text(a), observer, sample.Text(once), sample.Text(twice))
			}
			if observer == Secret && !array.Same(once, a) {
				t.Error(sample.Text(a), "is not all seen")
			}
			for _, c := range a.Cells {
				once := Cell(c, observer)
				if twice := sample.CellText(Cell(once, observer)); twice != sample.CellText(once) {
					t.Error(sample.CellText(c), observer, twice)
				}
			}
		}
	}
}

// 9.2: covered with a label that an observer does not see, all are alike to it; with one that it sees, those that were.
func TestCovered(t *testing.T) {
	l := sample.ManyDrawn(14, 30, 2)
	l = append(l, sample.Arrays("()", "[|]", "[0 3|]", "[|5]", "((1 2)^3@4)", "({3 0 / (1)})")...)
	for _, a := range l {
		for _, b := range l {
			for _, observer := range []uint64{0, 1, 15, 16, 1<<63 - 1} {
				for _, cover := range []uint64{16, 17, 1 << 63, Secret, 1} {
					got := Alike(array.Cover(a, cover), array.Cover(b, cover), observer)
					if cover&^observer != 0 && !got || Alike(a, b, observer) && !got {
						t.Error(sample.Text(a), sample.Text(b), "differ to", observer, "under", cover)
					}
				}
			}
		}
	}
	a, b := sample.Array("(1 2)"), sample.Array("(1 3)")
	for _, observer := range []uint64{16, 17, Secret} {
		if Alike(array.Cover(a, 16), array.Cover(b, 16), observer) {
			t.Error("under what it sees, these are alike to", observer)
		}
	}
	// The one may be covered with another label than the other one.
	if !Alike(array.Cover(a, 16), array.Cover(b, 48), 15) || Alike(array.Cover(a, 16), array.Cover(a, 48), 16) {
		t.Error("two covers")
	}
}

// R4 and R5: what is handed in stays as it is, what lies behind it is not read, answers are new memory, and come again.
func TestMemory(t *testing.T) {
	l := sample.ManyDrawn(15, 60, 3)
	for _, look := range looks {
		l = append(l, sample.Array(look.text))
	}
	row := sample.Array("(1 'x (2 3))")
	twice := row.Cells[0]
	l = append(l, api.Array{Shape: []int{4}, Cells: []api.Cell{twice, twice, {Kind: api.Box, In: []api.Array{row}}, {Kind: api.Box, In: []api.Array{row, row}}}})
	for _, a := range l {
		for _, observer := range []uint64{0, 1, 3, 15, Secret} {
			hide := func(a api.Array) api.Array { return Hide(a, observer) }
			cell := func(a api.Array) api.Array {
				return api.Array{Cells: []api.Cell{Cell(api.Cell{Kind: api.Box, In: []api.Array{a}}, observer)}}
			}
			alike := func(a api.Array) api.Array {
				if Alike(a, row, observer) {
					return api.Array{S: 1}
				}
				return api.Array{}
			}
			for i, call := range []func(api.Array) api.Array{hide, cell, alike} {
				if fault := sample.Memory(call, a); fault != "" {
					t.Error(i, sample.Text(a), observer, fault)
				}
			}
		}
	}
}

// P1: arrays that are 1000 deep, and those of many cells, end soon.
func TestDeepAndWide(t *testing.T) {
	a, b := sample.Array("(1@4)"), sample.Array("(2@4)")
	for range 999 {
		a = api.Array{Shape: []int{1}, Cells: []api.Cell{{L: 1, Kind: api.Box, In: []api.Array{a}}}}
		b = api.Array{Shape: []int{1}, Cells: []api.Cell{{L: 1, Kind: api.Box, In: []api.Array{b}}}}
	}
	if !Alike(a, b, 0) || !Alike(a, b, 1) || Alike(a, b, 5) || array.Size(Hide(a, 1)) != 1000 || array.Size(Hide(a, 0)) != 1 || !array.Same(Hide(a, 5), a) {
		t.Error("deep arrays")
	}
	wide := api.Array{Shape: []int{300}, Cells: slices.Repeat(a.Cells, 300)}
	if !Alike(wide, wide, 1) || array.Size(Hide(wide, 0)) != 300 || array.Size(Hide(wide, 5)) != 300*1000 {
		t.Error("a wide array")
	}
}
