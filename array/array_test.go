package array

import (
	"fmt"
	"math"
	"slices"
	"strings"
	"testing"

	"scrim/api"
	"scrim/sample"
)

const all = math.MaxUint64

// whole is a whole number of one limb.
func whole(n uint32) api.Num {
	if n == 0 {
		return api.Num{Bot: []uint32{1}}
	}
	return api.Num{Top: []uint32{n}, Bot: []uint32{1}}
}

func minus(n api.Num) api.Num { return api.Num{Neg: !n.Neg, Top: n.Top, Bot: n.Bot} }

func by(top, bot []uint32) api.Num { return api.Num{Top: top, Bot: bot} }

// ones is a number of so many limbs, each 1.
func ones(n int) []uint32 { return slices.Repeat([]uint32{1}, n) }

func number(n uint32) api.Cell { return api.Cell{N: whole(n)} }

func char(c int) api.Cell { return api.Cell{Kind: 1, C: c} }

func box(in ...api.Array) api.Cell { return api.Cell{Kind: 2, In: in} }

func marked(c api.Cell, l uint64) api.Cell {
	c.L = l
	return c
}

func only(c api.Cell) api.Array { return api.Array{Cells: []api.Cell{c}} }

func row(l ...api.Cell) api.Array { return api.Array{Shape: []int{len(l)}, Cells: l} }

func under(s uint64, a api.Array) api.Array {
	a.S = s
	return a
}

// shaped is an array of this shape with so many cells, which are the numbers 0, 1, 2, 0, 1 ..
func shaped(cells int, s ...int) api.Array {
	a := api.Array{Shape: s}
	for i := range cells {
		a.Cells = append(a.Cells, number(uint32(i%3)))
	}
	return a
}

// boxed is an array within so many Boxes within one another, each alone.
func boxed(n int, a api.Array) api.Array {
	for range n {
		a = only(box(a))
	}
	return a
}

// spelt is all that an array has, as a text; of a nil list it tells the same as of an empty one.
func spelt(a api.Array, labels bool) string {
	var out strings.Builder
	spell(&out, a, labels)
	return out.String()
}

func spell(out *strings.Builder, a api.Array, labels bool) {
	fmt.Fprintf(out, "<%v", a.Shape)
	if labels {
		fmt.Fprintf(out, " S%d", a.S)
	}
	for _, c := range a.Cells {
		fmt.Fprintf(out, " %d:%v%v/%v:%d", c.Kind, c.N.Neg, c.N.Top, c.N.Bot, c.C)
		if labels {
			fmt.Fprintf(out, ":L%d", c.L)
		}
		for _, in := range c.In {
			spell(out, in, labels)
		}
	}
	out.WriteString(">")
}

// labelsOf are all labels of an array: that of its shape, then those of each cell and of what is in it.
func labelsOf(a api.Array) []uint64 {
	l := []uint64{a.S}
	for _, c := range a.Cells {
		l = append(l, c.L)
		for _, in := range c.In {
			l = append(l, labelsOf(in)...)
		}
	}
	return l
}

// labelled is an array with other labels, in the order of labelsOf.
func labelled(a api.Array, next func() uint64) api.Array {
	b := api.Array{S: next(), Shape: a.Shape}
	for _, c := range a.Cells {
		c.L = next()
		var in []api.Array
		for _, within := range c.In {
			in = append(in, labelled(within, next))
		}
		c.In = in
		b.Cells = append(b.Cells, c)
	}
	return b
}

// oneAt hands on the label l at one place, and 0 elsewhere.
func oneAt(place int, l uint64) func() uint64 {
	i := -1
	return func() uint64 {
		i++
		if i == place {
			return l
		}
		return 0
	}
}

func someDrawn() []api.Array { return sample.ManyDrawn(8, 300, 3) }

// rightOnes are arrays that may be, written by hand.
func rightOnes() []api.Array {
	list := row(number(1), char('x'))
	return []api.Array{
		// Of each kind, alone and in a row, with labels and without.
		only(number(0)), only(number(5)), only(char('a')), only(box(list)), under(all, only(marked(number(5), all))), under(1, row(marked(char('a'), 2), marked(box(under(4, row(marked(number(9), 8)))), 16))),
		list, row(box(list), number(2)), row(number(1), box(list), char('y'), box(row())),
		// Shapes.
		row(), shaped(0, 0, 3), shaped(0, 3, 0), shaped(0, 2048, 2048, 0), shaped(0, 0, 0, 0, 0, 0, 0), shaped(1, 1), shaped(6, 2, 3), shaped(1, 1, 1, 1, 1, 1, 1), shaped(64, 2, 2, 2, 2, 2, 2), shaped(2048, 2048), shaped(2048, 32, 64), {Shape: []int{}, Cells: []api.Cell{number(1)}}, {Shape: []int{0}, Cells: []api.Cell{}},
		// Numbers.
		row(api.Cell{N: by([]uint32{1}, []uint32{2})}, api.Cell{N: minus(whole(7))}, api.Cell{N: by(ones(32), []uint32{2})}, api.Cell{N: by([]uint32{2}, ones(32))}, api.Cell{N: api.Num{Top: []uint32{}, Bot: []uint32{1}}}),
		// Characters.
		row(char(0), char(0xD7FF), char(0xE000), char(0x10FFFF), char(' ')),
		// Lists that are empty, not nil.
		only(api.Cell{N: whole(3), In: []api.Array{}}), only(api.Cell{Kind: 1, C: 'b', N: by([]uint32{}, []uint32{}), In: []api.Array{}}), only(api.Cell{Kind: 2, N: by([]uint32{}, []uint32{}), In: []api.Array{list}}),
		// Boxes within one another, and arrays that are no cell alone in them.
		boxed(1, row()), boxed(1, shaped(1, 1)), boxed(1, shaped(1, 1, 1)), boxed(2, list), boxed(7, list), boxed(8, list), boxed(8, row()), row(box(boxed(7, list)), number(1), box(boxed(7, row(char('z')))), box(list)),
	}
}

// wrongCells are cells that may not be.
func wrongCells() map[string]api.Cell {
	list := row(number(1), char('x'))
	l := map[string]api.Cell{
		"a zero value":          {},
		"a number by 0":         {N: by([]uint32{3}, nil)},
		"a number by a nought":  {N: by([]uint32{3}, []uint32{0})},
		"2 by 4":                {N: by([]uint32{2}, []uint32{4})},
		"4 by 2":                {N: by([]uint32{4}, []uint32{2})},
		"0 by 2":                {N: by(nil, []uint32{2})},
		"0 with a sign":         {N: minus(whole(0))},
		"a nought on top":       {N: by([]uint32{1, 0}, []uint32{1})},
		"a nought below":        {N: by([]uint32{1}, []uint32{1, 0})},
		"0 as a limb":           {N: by([]uint32{0}, []uint32{1})},
		"33 limbs":              {N: by(ones(33), []uint32{1})},
		"33 limbs below":        {N: by([]uint32{1}, ones(33))},
		"a number with a C":     {N: whole(1), C: 'a'},
		"a number with a C < 0": {N: whole(1), C: -1},
		"a number with an In":   {N: whole(1), In: []api.Array{list}},
		"a number with two":     {N: whole(1), In: []api.Array{list, list}},
		"a char with a number":  {Kind: 1, C: 'a', N: whole(1)},
		"a char with the 0":     {Kind: 1, C: 'a', N: whole(0)},
		"a char with a sign":    {Kind: 1, C: 'a', N: api.Num{Neg: true}},
		"a char with a Top":     {Kind: 1, C: 'a', N: by([]uint32{0}, nil)},
		"a char with a Bot":     {Kind: 1, C: 'a', N: by(nil, []uint32{0})},
		"a char with an In":     {Kind: 1, C: 'a', In: []api.Array{list}},
		"a Box with nothing":    box(),
		"a Box with an empty":   box([]api.Array{}...),
		"a Box with two":        box(list, list),
		"a Box with three":      box(list, row(), list),
		"a Box of a number":     box(only(number(1))),
		"a Box of a char":       box(only(char('a'))),
		"a Box of no kind":      box(only(api.Cell{Kind: 3})),
		"a Box with a number":   {Kind: 2, N: whole(1), In: []api.Array{list}},
		"a Box with the 0":      {Kind: 2, N: whole(0), In: []api.Array{list}},
		"a Box with a sign":     {Kind: 2, N: api.Num{Neg: true}, In: []api.Array{list}},
		"a Box with a C":        {Kind: 2, C: 'a', In: []api.Array{list}},
		"a Box with no cells":   box(api.Array{}),
		"a Box with a part":     box(shaped(1, 2)),
		"a Box of a wrong one":  box(row(number(1), api.Cell{})),
		"a wrong one further":   box(boxed(3, row(number(1), char(-1)))),
	}
	for _, c := range []int{-1, math.MinInt, 0xD800, 0xDBFF, 0xDC00, 0xDFFF, 0x110000, 1<<32 + 65, math.MaxInt} {
		l[fmt.Sprint("the char ", c)] = char(c)
	}
	for _, kind := range []int{-1, 3, 4, 256, 257, 258, 1 << 32, 1<<32 + 1, math.MinInt, math.MaxInt} {
		l[fmt.Sprint("a number of the kind ", kind)] = api.Cell{Kind: kind, N: whole(1)}
		l[fmt.Sprint("a char of the kind ", kind)] = api.Cell{Kind: kind, C: 'a'}
		l[fmt.Sprint("a Box of the kind ", kind)] = api.Cell{Kind: kind, In: []api.Array{list}}
		l[fmt.Sprint("nothing of the kind ", kind)] = api.Cell{Kind: kind}
	}
	return l
}

// wrongShapes are arrays whose cells are right, but not as many as the shape says, or whose shape may not be.
func wrongShapes() []api.Array {
	return []api.Array{
		{}, {S: 5}, shaped(2), shaped(3), shaped(0, 1), shaped(2, 1), shaped(1, 2), shaped(3, 2), shaped(1, 0), shaped(5, 2, 3), shaped(7, 2, 3), shaped(1, 0, 3), shaped(63, 2, 2, 2, 2, 2, 2), shaped(2047, 2048), shaped(2049, 2048), shaped(0, 2048),
		shaped(1, 1, 1, 1, 1, 1, 1, 1), shaped(0, 0, 0, 0, 0, 0, 0, 0), shaped(0, 1, 1, 1, 1, 1, 1, 1), shaped(0, -1), shaped(1, -1), shaped(1, -1, -1), shaped(6, -2, -3), shaped(0, -1, 0), shaped(0, math.MinInt), shaped(2049, 2049), shaped(0, 2049), shaped(2112, 64, 33), shaped(0, 64, 33), shaped(0, 2049, 0), shaped(0, 1<<32, 1<<32), shaped(0, math.MaxInt), shaped(0, 2048, 2048, 2048, 2048, 2048, 2048),
	}
}

// wrongOnes are arrays that may not be.
func wrongOnes() []api.Array {
	l := append(wrongShapes(), boxed(9, row(number(1))), boxed(9, row()), row(box(row()), box(boxed(8, row()))))
	for _, c := range wrongCells() {
		l = append(l, only(c), row(c), row(number(1), marked(c, 6)))
	}
	return l
}

// every is each array that is gone through one by one.
func every() []api.Array {
	return slices.Concat(rightOnes(), wrongOnes(), someDrawn())
}

func sameArrays(a, b api.Array) bool { return spelt(a, true) == spelt(b, true) }

func sameCells(c, d api.Cell) bool { return sameArrays(only(c), only(d)) }

// 8.1: a cell is of its kind, has what was handed in, and no label.
func TestCells(t *testing.T) {
	for _, n := range []api.Num{whole(0), whole(7), minus(whole(7)), by([]uint32{1}, []uint32{2}), by(ones(32), []uint32{2, 5}), minus(by([]uint32{3}, ones(32)))} {
		if c := Num(n); !sameCells(c, api.Cell{Kind: 0, N: n}) {
			t.Error(n, c)
		}
	}
	for n, want := range map[int]api.Num{0: whole(0), 1: whole(1), -1: minus(whole(1)), 2048: whole(2048), math.MaxUint32: whole(math.MaxUint32), 1 << 32: by([]uint32{0, 1}, []uint32{1}), math.MaxInt: by([]uint32{math.MaxUint32, math.MaxInt32}, []uint32{1}), math.MinInt: minus(by([]uint32{0, 1 << 31}, []uint32{1}))} {
		if c := Int(n); !sameCells(c, api.Cell{Kind: 0, N: want}) {
			t.Error(n, c)
		}
	}
	for _, n := range []int{0, 'a', ' ', 0x2374, 0x10FFFF} {
		if c := Chr(n); !sameCells(c, api.Cell{Kind: 1, C: n}) {
			t.Error(n, c)
		}
	}
}

// 8.1: a cell alone has no axes, a row of cells one, the shape no label; the cells keep theirs.
func TestScalarAndVector(t *testing.T) {
	cells := []api.Cell{number(1), marked(number(2), 3), marked(char('x'), all), box(row(number(1))), marked(box(under(4, row(marked(char('y'), 8)))), 16)}
	for _, c := range cells {
		if a := Scalar(c); len(a.Shape) != 0 || len(a.Cells) != 1 || !sameArrays(a, only(c)) {
			t.Error(c, a)
		}
	}
	for _, l := range [][]api.Cell{nil, {}, cells[:1], cells[1:3], cells, shaped(2048).Cells, shaped(2049).Cells} {
		if a := Vector(l); len(a.Shape) != 1 || a.Shape[0] != len(l) || !sameArrays(a, row(l...)) {
			t.Error(len(l), a.Shape)
		}
	}
}

// 8.1: simple is one cell without axes that is no Box, right or not.
func TestSimple(t *testing.T) {
	list := row(number(1), number(2))
	for _, a := range []api.Array{only(number(0)), only(char('a')), under(7, only(marked(number(1), 9))), {Shape: []int{}, Cells: []api.Cell{number(1)}}, only(api.Cell{}), only(api.Cell{Kind: 3}), only(api.Cell{Kind: -1, In: []api.Array{list}}), only(api.Cell{N: whole(1), In: []api.Array{list}}), only(api.Cell{Kind: 1, In: []api.Array{list}})} {
		if !Simple(a) {
			t.Error(a, "is not simple")
		}
	}
	for _, a := range []api.Array{{}, row(), row(number(1)), list, shaped(1, 1, 1), shaped(2), only(box(list)), boxed(3, list), only(box()), only(box(list, list)), only(box(only(number(1)))), shaped(0, 0, 0)} {
		if Simple(a) {
			t.Error(a, "is simple")
		}
	}
}

// 8.1: what may be, at each edge; so too within a Box, where there may be one more.
func TestRight(t *testing.T) {
	for i, a := range append(rightOnes(), someDrawn()...) {
		if !Right(a) {
			t.Error(i, a, "is not right")
		}
		if b := row(char('a'), box(a)); len(a.Shape) > 0 && Depth(a) <= 8 && !Right(b) {
			t.Error(i, b, "is not right")
		}
	}
}

// 8.1: shapes that may not be, and cells that are not as many as they say.
func TestRightRefusesShapes(t *testing.T) {
	for i, a := range wrongShapes() {
		for _, b := range []api.Array{a, only(box(a)), row(number(1), box(a)), row(number(1), box(row(box(a))))} {
			if Right(b) {
				t.Error(i, a.Shape, len(a.Cells), "is right")
			}
		}
	}
}

// 8.1: cells that may not be: alone, in a row, at its end, and in Boxes.
func TestRightRefusesCells(t *testing.T) {
	for name, c := range wrongCells() {
		long := shaped(2048, 2048)
		long.Cells[2047] = c
		for _, a := range []api.Array{only(c), row(c), row(c, number(1)), row(number(1), c), long, only(box(row(c))), boxed(7, row(number(1), c)), row(box(row(number(1))), box(row(c)))} {
			if Right(a) {
				t.Error(name, "is right in an array of the shape", a.Shape)
			}
		}
	}
}

// 8.1: no more than 8 Boxes are within one another, whichever cells they are in.
func TestRightRefusesDeepBoxes(t *testing.T) {
	list := row(number(1), char('x'))
	for n := range 12 {
		for _, in := range []api.Array{list, row(), shaped(6, 2, 3)} {
			a := boxed(n, in)
			if Right(a) != (n <= 8) || Right(row(number(1), box(a))) != (n <= 7) || Right(row(box(list), box(row(box(a), number(1))), box(list))) != (n <= 6) {
				t.Error(n, "Boxes")
			}
		}
	}
	if Right(boxed(1000, list)) {
		t.Error("1000 Boxes")
	}
}

// sizes are arrays with how many cells they have, and how deep they are, written by hand.
var sizes = []struct {
	a           api.Array
	size, depth int
}{
	{only(number(1)), 1, 0}, {only(char('a')), 1, 0}, {row(), 0, 1}, {row(number(1)), 1, 1}, {row(number(1), char('x')), 2, 1}, {shaped(6, 2, 3), 6, 1}, {shaped(1, 1, 1), 1, 1}, {shaped(0, 0, 3), 0, 1}, {shaped(2048, 2048), 2048, 1},
	{boxed(1, row(number(1), char('x'))), 3, 2}, {boxed(1, row()), 1, 2}, {boxed(8, row(number(1))), 9, 9}, {boxed(9, row(number(1))), 10, 10}, {row(box(row(number(1), char('x'))), number(2)), 4, 2}, {row(number(2), box(row(number(1), char('x')))), 4, 2},
	{row(box(row()), box(boxed(1, row(number(1)))), box(row(number(1), number(2)))), 7, 3}, {row(box(boxed(2, row())), box(row())), 4, 4}, {row(box(row(number(1), box(row(number(1), number(2), number(3))))), box(row(number(1)))), 8, 3},
	// Arrays that are not right.
	{api.Array{}, 0, 1}, {shaped(2), 2, 1}, {shaped(1, 7), 1, 1}, {shaped(0, -1), 0, 1}, {only(api.Cell{}), 1, 0}, {only(api.Cell{Kind: 3}), 1, 0}, {only(box()), 1, 1}, {row(box()), 1, 1}, {only(box(only(number(1)))), 2, 1}, {row(box(only(number(1)), row())), 2, 2}, {row(box(row(), boxed(1, row()))), 2, 3}, {row(box(boxed(1, row()), row())), 2, 3},
	{only(api.Cell{N: whole(1), In: []api.Array{row(number(1), number(2))}}), 3, 0}, {only(api.Cell{Kind: 3, In: []api.Array{boxed(2, row())}}), 3, 0}, {row(api.Cell{N: whole(1), In: []api.Array{row(number(1), number(2))}}), 3, 2}, {row(api.Cell{Kind: 1, In: []api.Array{only(number(1))}}), 2, 1}, {row(api.Cell{Kind: -1, In: []api.Array{row(), boxed(1, row(number(1)))}}, number(1)), 4, 3},
}

// 8.1: Size counts all cells, Depth the Boxes, also where cells are no Boxes, but have arrays.
func TestSizeAndDepth(t *testing.T) {
	for i, s := range sizes {
		if Size(s.a) != s.size || Depth(s.a) != s.depth {
			t.Error(i, s.a, Size(s.a), Depth(s.a))
		}
	}
	for _, a := range every() {
		text := spelt(a, false)
		if Size(a) != strings.Count(text, "/") {
			t.Error(a, Size(a))
		}
	}
}

// 8.1: of right arrays the Depth is how many arrays at most stand within one another; of one cell alone, that is no Box, 0.
func TestDepthByText(t *testing.T) {
	for _, a := range append(rightOnes(), someDrawn()...) {
		within, most := 0, 0
		for _, c := range spelt(a, false) {
			switch c {
			case '<':
				within++
				most = max(most, within)
			case '>':
				within--
			}
		}
		if len(a.Shape) == 0 && a.Cells[0].Kind != 2 {
			most = 0
		}
		if Depth(a) != most {
			t.Error(a, Depth(a), most)
		}
	}
}

// 8.2: Total is the join of all labels: each one alone, wherever it stands, and all together.
func TestTotal(t *testing.T) {
	for _, a := range every() {
		places := len(labelsOf(a))
		if places > 100 {
			continue
		}
		for i := range places {
			if got := Total(labelled(a, oneAt(i, 1<<63|1<<i))); got != 1<<63|1<<i {
				t.Error(a, "the label at", i, "makes", got)
			}
		}
		want := uint64(0)
		for _, l := range labelsOf(a) {
			want |= l
		}
		if Total(a) != want {
			t.Error(a, Total(a))
		}
	}
	if got := Total(under(1, row(marked(number(1), 2), marked(box(under(4, row(marked(char('a'), 8)))), 16)))); got != 31 {
		t.Error(got)
	}
}

// relabelled holds an answer against the labels that it should have, all else being as it was.
func relabelled(t *testing.T, name string, a, got api.Array, want []uint64) {
	t.Helper()
	if !slices.Equal(labelsOf(got), want) || spelt(got, false) != spelt(a, false) {
		t.Error(name, spelt(a, true), spelt(got, true))
	}
}

// 8.2: Erase empties each label, Cover joins each with another one, Raise that of the shape alone; all else stays.
func TestEraseCoverRaise(t *testing.T) {
	for i, a := range every() {
		if len(labelsOf(a)) < 100 {
			bit := uint64(1)
			a = labelled(a, func() uint64 { bit = bit<<5 | bit>>59; return bit })
		}
		old := labelsOf(a)
		relabelled(t, "Erase", a, Erase(a), make([]uint64, len(old)))
		for _, l := range []uint64{0, 1, 6, a.S, old[i%len(old)], 1 << 63, all} {
			covered := make([]uint64, len(old))
			for j := range old {
				covered[j] = old[j] | l
			}
			relabelled(t, "Cover", a, Cover(a, l), covered)
			relabelled(t, "Raise", a, Raise(a, l), append([]uint64{old[0] | l}, old[1:]...))
		}
	}
}

// varied are arrays that differ in little.
func varied() []api.Array {
	list := []api.Cell{number(1), char('x')}
	half := by([]uint32{1}, []uint32{2})
	l := []api.Array{
		row(list...), under(1, row(list...)), row(marked(number(1), 1), char('x')), row(number(1), marked(char('x'), 1)), row(number(2), char('x')), row(api.Cell{N: minus(whole(1))}, char('x')), row(api.Cell{N: half}, char('x')), row(api.Cell{N: minus(half)}, char('x')), row(api.Cell{N: by([]uint32{1, 1}, []uint32{1})}, char('x')), row(api.Cell{N: by([]uint32{1}, []uint32{1, 1})}, char('x')),
		row(number(1), char('y')), row(number(1), number('x')), row(char('x'), number(1)), row(number(1), char('x'), char('x')), row(number(1)), row(), {Shape: []int{1, 2}, Cells: list}, {Shape: []int{2, 1}, Cells: list}, {Cells: list}, {Shape: []int{3}, Cells: list}, {Shape: []int{2}, Cells: list[:1]}, {Shape: []int{2}}, {},
		only(number(1)), only(char(1)), only(box(row(list...))), row(box(row(list...))), {Shape: []int{1, 1}, Cells: []api.Cell{box(row(list...))}},
		// Values that are one, as numbers, but not by their fields.
		row(api.Cell{N: by([]uint32{2}, []uint32{2})}, char('x')), row(api.Cell{N: by([]uint32{1, 0}, []uint32{1})}, char('x')), row(api.Cell{N: by(nil, []uint32{1})}, char('x')), row(api.Cell{N: minus(whole(0))}, char('x')), row(api.Cell{}, char('x')), row(api.Cell{N: api.Num{Neg: true}}, char('x')),
		// Fields that the kind has not.
		row(api.Cell{N: whole(1), C: 1}, char('x')), row(number(1), api.Cell{Kind: 1, C: 'x', N: whole(1)}), row(number(1), api.Cell{Kind: 3, C: 'x'}),
	}
	for _, kind := range []int{0, 1, 2, 3} {
		for _, in := range [][]api.Array{{}, {row(list...)}, {under(2, row(list...))}, {row(number(1), marked(char('x'), 2))}, {row(number(1), char('y'))}, {row(list...), row(list...)}, {row(list...), row()}, {row(), row(list...)}, {only(number(1))}, {boxed(1, row(list...))}, {boxed(1, row(number(2), char('x')))}, {boxed(1, row(number(1), marked(char('x'), 4)))}} {
			l = append(l, row(api.Cell{Kind: kind, N: whole(1), In: in}, char('x')))
		}
	}
	return l
}

// 8.2: two arrays are the same just if all is the same, and match just if all but the labels is.
func TestSameAndMatch(t *testing.T) {
	l := append(varied(), someDrawn()[:60]...)
	for _, a := range l {
		for _, b := range l {
			if got, want := Same(a, b), spelt(a, true) == spelt(b, true); got != want {
				t.Error("Same", spelt(a, true), spelt(b, true), got)
			}
			if got, want := Match(a, b), spelt(a, false) == spelt(b, false); got != want {
				t.Error("Match", spelt(a, true), spelt(b, true), got)
			}
		}
	}
}

// 8.2, R1: a nil list is the same as an empty one, wherever it stands.
func TestSameOfNilAndEmpty(t *testing.T) {
	empty := []api.Array{
		{Shape: []int{}, Cells: []api.Cell{}}, {Shape: []int{0}, Cells: []api.Cell{}}, {Shape: []int{}, Cells: []api.Cell{{N: by([]uint32{}, []uint32{1}), In: []api.Array{}}}}, {Cells: []api.Cell{{Kind: 1, C: 'a', N: by([]uint32{}, []uint32{}), In: []api.Array{}}}}, {Cells: []api.Cell{{Kind: 2, In: []api.Array{{Shape: []int{0}, Cells: []api.Cell{}}}}}},
	}
	none := []api.Array{{}, {Shape: []int{0}}, only(api.Cell{N: by(nil, []uint32{1})}), only(char('a')), only(box(row()))}
	for i := range empty {
		for j := range none {
			if Same(empty[i], none[j]) != (i == j) || Same(none[j], empty[i]) != (i == j) || Match(empty[i], none[j]) != (i == j) || Match(none[j], empty[i]) != (i == j) {
				t.Error(empty[i], none[j])
			}
		}
	}
}

// 8.2: a label alone makes arrays that are not the same, but match; anything else, such as don't.
func TestSameOfOneLabel(t *testing.T) {
	for _, a := range every() {
		places := len(labelsOf(a))
		if places > 30 {
			continue
		}
		bare := labelled(a, oneAt(-1, 0))
		for i := range places {
			b := labelled(a, oneAt(i, 1<<63))
			if Same(bare, b) || Same(b, bare) || !Match(bare, b) || !Match(b, bare) || !Same(b, b) {
				t.Error(spelt(b, true))
			}
		}
	}
}

// 8.3: a cell alone stays it, its label joined with that of the shape; all else goes into a Box under that label.
func TestPack(t *testing.T) {
	list := under(3, row(marked(number(1), 8), char('x')))
	for i, p := range []struct {
		a    api.Array
		want api.Cell
	}{
		{only(number(1)), number(1)}, {under(5, only(number(1))), marked(number(1), 5)}, {under(5, only(marked(char('a'), 6))), marked(char('a'), 7)}, {only(marked(char('a'), 6)), marked(char('a'), 6)},
		{only(box(list)), box(list)}, {under(4, only(marked(box(list), 2))), marked(box(list), 6)}, {under(4, boxed(2, list)), marked(box(boxed(1, list)), 4)},
		{list, marked(box(list), 3)}, {row(), box(row())}, {under(9, row()), marked(box(under(9, row())), 9)}, {under(all, shaped(1, 1)), marked(box(under(all, shaped(1, 1))), all)}, {shaped(6, 2, 3), box(shaped(6, 2, 3))}, {shaped(1, 1, 1), box(shaped(1, 1, 1))}, {row(box(list)), box(row(box(list)))},
		{api.Array{}, box(api.Array{})}, {under(2, api.Array{}), marked(box(under(2, api.Array{})), 2)}, {shaped(2), box(shaped(2))}, {only(api.Cell{Kind: 3, C: 4}), api.Cell{Kind: 3, C: 4}}, {only(box()), box()}, {under(2, only(box(list, list))), marked(box(list, list), 2)}, {api.Array{Shape: []int{}, Cells: []api.Cell{number(4)}}, number(4)},
	} {
		if got := Pack(p.a); !sameCells(got, p.want) {
			t.Error(i, p.a, got)
		}
	}
}

// 8.3: a Box is what is in it, its shape's label joined with the Box's; else the cell stands alone, and its label is the shape's, too.
func TestUnpack(t *testing.T) {
	list := under(3, row(marked(number(1), 8), char('x')))
	odd := api.Cell{L: 4, N: whole(1), In: []api.Array{list}}
	for i, u := range []struct {
		c    api.Cell
		want api.Array
	}{
		{number(1), only(number(1))}, {marked(number(1), 5), under(5, only(marked(number(1), 5)))}, {marked(char('a'), all), under(all, only(marked(char('a'), all)))},
		{box(list), list}, {marked(box(list), 0), list}, {marked(box(list), 2), list}, {marked(box(list), 4), under(7, list)}, {box(row()), row()}, {marked(box(row()), 4), under(4, row())}, {marked(box(shaped(6, 2, 3)), 1), under(1, shaped(6, 2, 3))},
		{marked(box(only(marked(box(list), 8))), 16), under(16, only(marked(box(list), 8)))},
		{marked(box(only(marked(number(1), 8))), 16), under(16, only(marked(number(1), 8)))}, {marked(box(api.Array{}), 16), under(16, api.Array{})},
		{marked(box(), 6), under(6, only(marked(box(), 6)))}, {marked(box(list, list), 6), under(6, only(marked(box(list, list), 6)))}, {odd, under(4, only(odd))}, {api.Cell{Kind: 1, In: []api.Array{list}}, only(api.Cell{Kind: 1, In: []api.Array{list}})}, {api.Cell{Kind: 3, L: 1, In: []api.Array{list}}, under(1, only(api.Cell{Kind: 3, L: 1, In: []api.Array{list}}))}, {api.Cell{}, only(api.Cell{})},
	} {
		if got := Unpack(u.c); !sameArrays(got, u.want) {
			t.Error(i, u.c, got)
		}
	}
}

// 8.3: a blank of characters, else the number 0, by the first cell, whose label it has.
func TestFill(t *testing.T) {
	list := row(marked(number(1), 8), char('x'))
	for i, f := range []struct {
		a    api.Array
		want api.Cell
	}{
		{only(number(5)), number(0)}, {only(marked(number(5), 3)), marked(number(0), 3)}, {only(char('a')), char(' ')}, {only(marked(char('a'), 3)), marked(char(' '), 3)}, {only(box(list)), number(0)}, {only(marked(box(list), 3)), marked(number(0), 3)},
		{row(char('a'), number(1)), char(' ')}, {row(number(1), char('a')), number(0)}, {under(4, row(marked(char('a'), 1), marked(char('b'), 2))), marked(char(' '), 1)}, {under(4, row(marked(box(row(char('a'))), 1), marked(char('b'), 2))), marked(number(0), 1)}, {api.Array{Shape: []int{1, 2}, Cells: []api.Cell{char('a'), char('b')}}, char(' ')}, {only(char(' ')), char(' ')}, {only(char(0)), char(' ')},
		{row(), number(0)}, {under(all, row()), number(0)}, {under(4, shaped(0, 0, 3)), number(0)}, {api.Array{}, number(0)}, {only(marked(api.Cell{Kind: 3, C: 'a'}, 2)), marked(number(0), 2)}, {only(api.Cell{C: 'a'}), number(0)},
	} {
		if got := Fill(f.a); !sameCells(got, f.want) || !Right(Scalar(got)) {
			t.Error(i, f.a, got)
		}
	}
}

// 8.3: the ints of a row, or of a cell alone.
func TestInts(t *testing.T) {
	least, greatest := minus(by([]uint32{0, 1 << 31}, []uint32{1})), by([]uint32{math.MaxUint32, math.MaxInt32}, []uint32{1})
	for i, n := range []struct {
		a    api.Array
		want []int
	}{
		{row(), nil}, {under(all, row()), nil}, {only(number(7)), []int{7}}, {only(number(0)), []int{0}}, {row(number(7)), []int{7}}, {row(number(4), api.Cell{N: minus(whole(1))}), []int{4, -1}}, {under(1, row(marked(number(3), 2), marked(number(0), all), number(3))), []int{3, 0, 3}}, {row(api.Cell{N: least}, api.Cell{N: greatest}, api.Cell{N: by([]uint32{5, 1}, []uint32{1})}), []int{math.MinInt, math.MaxInt, 1<<32 + 5}}, {shaped(4, 4), []int{0, 1, 2, 0}},
	} {
		if got, e := Ints(n.a); e != api.OK || !slices.Equal(got, n.want) {
			t.Error(i, n.a, got, e)
		}
	}
	if got, e := Ints(shaped(2048, 2048)); e != api.OK || len(got) != 2048 || got[2047] != 1 {
		t.Error(len(got), e)
	}
}

// 8.3, R2: Rank ahead of Domain; with an error there are no numbers.
func TestIntsRefuses(t *testing.T) {
	half := api.Cell{N: by([]uint32{1}, []uint32{2})}
	beyond, below := api.Cell{N: by([]uint32{0, 1 << 31}, []uint32{1})}, api.Cell{N: minus(by([]uint32{1, 1 << 31}, []uint32{1}))}
	great := api.Cell{N: by([]uint32{1, 0, 1}, []uint32{1})}
	for i, a := range []api.Array{shaped(6, 2, 3), shaped(1, 1, 1), shaped(0, 0, 3), shaped(1, 1, 1, 1, 1, 1, 1), {Shape: []int{1, 1}, Cells: []api.Cell{char('a')}}, {Shape: []int{1, 2}, Cells: []api.Cell{half, box(row())}}} {
		if got, e := Ints(a); e != api.Rank || len(got) != 0 {
			t.Error(i, a, got, e)
		}
	}
	for i, c := range []api.Cell{char('a'), char(0), box(row(number(1))), half, {N: minus(half.N)}, beyond, below, great, {N: minus(great.N)}, {Kind: 1, C: 1, N: whole(1)}, {Kind: 2, N: whole(1), In: []api.Array{row()}}, {Kind: 3, N: whole(1)}, {Kind: -1, N: whole(1)}} {
		for _, a := range []api.Array{only(c), row(c), row(number(1), c), row(c, number(1), char('a'))} {
			if got, e := Ints(a); e != api.Domain || len(got) != 0 {
				t.Error(i, a, got, e)
			}
		}
	}
}

// 8.4: what is unpacked of what was packed matches the array (of a Box alone, what is in it), no label being lower.
func TestPackAndBack(t *testing.T) {
	for i, a := range append(rightOnes(), someDrawn()...) {
		want := a
		if len(a.Shape) == 0 && a.Cells[0].Kind == 2 {
			want = a.Cells[0].In[0]
			want.S |= a.S | a.Cells[0].L
		}
		got := Unpack(Pack(a))
		labels := labelsOf(got)
		for j, l := range labelsOf(want) {
			if l&^labels[j] != 0 {
				t.Error(i, spelt(a, true), spelt(got, true), "a label is lower")
			}
		}
		if !Match(got, want) || Total(got) != Total(a) || !Right(got) {
			t.Error(i, spelt(a, true), spelt(got, true))
		}
	}
}

// 8.4: two match just if they are the same without labels.
func TestMatchIsSameErased(t *testing.T) {
	l := append(varied(), someDrawn()[:60]...)
	for _, a := range l {
		for _, b := range l {
			if Match(a, b) != Same(Erase(a), Erase(b)) {
				t.Error(spelt(a, true), spelt(b, true))
			}
		}
	}
}

// firstCell is that of an array, or the zero one.
func firstCell(a api.Array) api.Cell {
	if len(a.Cells) == 0 {
		return api.Cell{}
	}
	return a.Cells[0]
}

// told is a yes or no as an array.
func told(ok bool) api.Array {
	if ok {
		return api.Array{S: 1}
	}
	return api.Array{}
}

// calls are all calls, each with what it answers as an array.
func calls() map[string]func(a api.Array) api.Array {
	return map[string]func(a api.Array) api.Array{
		"Num":    func(a api.Array) api.Array { return only(Num(firstCell(a).N)) },
		"Int":    func(a api.Array) api.Array { return only(Int(firstCell(a).C)) },
		"Chr":    func(a api.Array) api.Array { return only(Chr(firstCell(a).C)) },
		"Scalar": func(a api.Array) api.Array { return Scalar(firstCell(a)) },
		"Vector": func(a api.Array) api.Array { return Vector(a.Cells) },
		"Simple": func(a api.Array) api.Array { return told(Simple(a)) },
		"Right":  func(a api.Array) api.Array { return told(Right(a)) },
		"Size":   func(a api.Array) api.Array { return api.Array{S: uint64(Size(a))} },
		"Depth":  func(a api.Array) api.Array { return api.Array{S: uint64(Depth(a))} },
		"Total":  func(a api.Array) api.Array { return api.Array{S: Total(a)} },
		"Erase":  Erase,
		"Cover":  func(a api.Array) api.Array { return Cover(a, 1<<40) },
		"Raise":  func(a api.Array) api.Array { return Raise(a, 1<<40) },
		"Same":   func(a api.Array) api.Array { return told(Same(a, row(number(1), char('x')))) },
		"Match":  func(a api.Array) api.Array { return told(Match(row(number(1), char('x')), a)) },
		"Pack":   func(a api.Array) api.Array { return only(Pack(a)) },
		"Unpack": func(a api.Array) api.Array { return Unpack(firstCell(a)) },
		"Fill":   func(a api.Array) api.Array { return only(Fill(a)) },
		"Ints": func(a api.Array) api.Array {
			l, e := Ints(a)
			return api.Array{S: uint64(e), Shape: l}
		},
	}
}

// R4 and R5: what is handed in stays as it is, what lies behind it is not read, answers are new memory, and come again.
func TestMemory(t *testing.T) {
	limbs := []uint32{1}
	twice := api.Cell{N: api.Num{Top: limbs, Bot: limbs}}
	shared := row(twice, twice, box(row(twice)))
	l := append(every(), shared, row(box(shared), box(shared)), only(box(shared, shared)), only(box(shared)))
	for _, a := range l {
		if len(a.Cells) > 100 {
			continue
		}
		for name, call := range calls() {
			in := sample.Roomy(a)
			want := spelt(call(a), true)
			if got := spelt(call(in), true); got != want {
				t.Error(name, a, "what lies behind is read", got)
			}
			if fault := sample.Sharing(call, in); fault != "" {
				t.Error(name, a, fault)
			}
			if fault := sample.Sharing(call, a); fault != "" {
				t.Error(name, a, fault)
			}
			if got := spelt(call(in), true); got != want {
				t.Error(name, a, "another answer", got)
			}
		}
	}
}

// P1: arrays that are 1000 deep, right or not, end without a panic.
func TestDeep(t *testing.T) {
	odd := row(number(1))
	for range 999 {
		odd = row(api.Cell{Kind: 3, L: 2, N: whole(1), In: []api.Array{odd}})
	}
	for _, a := range []api.Array{boxed(999, row(number(1))), boxed(1000, row(number(1))), odd} {
		for _, call := range calls() {
			call(a)
		}
		if !Same(a, a) || !Match(a, Cover(a, 4)) || Same(a, Cover(a, 4)) || Total(Cover(a, 4))&4 == 0 || Total(Erase(a)) != 0 || Right(a) {
			t.Error("a deep array")
		}
	}
	if Depth(odd) != 1000 || Size(odd) != 1000 || Depth(boxed(999, row(number(1)))) != 1000 {
		t.Error(Depth(odd), Size(odd))
	}
}

// P1: arrays of many cells end soon; so does one that is within itself, of which Right alone is asked.
func TestWide(t *testing.T) {
	wide := shaped(1<<16, 1<<16)
	a := row(box(wide), box(wide), box(wide))
	if Right(a) || Size(a) != 3<<16+3 || Depth(a) != 2 || !Same(Erase(Cover(a, 8)), a) || Total(Raise(a, 2)) != 2 {
		t.Error("a wide array")
	}
	round := only(box(row()))
	round.Cells[0].In[0] = round
	if Right(round) {
		t.Error("an array within itself")
	}
}
