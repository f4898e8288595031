package sample

import (
	"math"
	"slices"
	"strings"
	"testing"

	"scrim/api"
	"scrim/array"
	"scrim/view"
)

func number(n uint32) api.Cell { return api.Cell{N: api.Num{Top: []uint32{n}, Bot: []uint32{1}}} }

func equal(a, b api.Array) bool {
	cells := func(c, d api.Cell) bool {
		return c.L == d.L && c.Kind == d.Kind && c.C == d.C && c.N.Neg == d.N.Neg && slices.Equal(c.N.Top, d.N.Top) && slices.Equal(c.N.Bot, d.N.Bot) && slices.EqualFunc(c.In, d.In, equal)
	}
	return a.S == b.S && slices.Equal(a.Shape, b.Shape) && slices.EqualFunc(a.Cells, b.Cells, cells)
}

// Texts and arrays lead to one another.
func TestText(t *testing.T) {
	row := api.Array{Shape: []int{2}, Cells: []api.Cell{number(1), {L: 3, Kind: 1, C: 'x'}}}
	for text, a := range map[string]api.Array{
		"()":                     {Shape: []int{0}},
		"(1 'x@3)":               row,
		"(1 'x@3)^5":             {S: 5, Shape: row.Shape, Cells: row.Cells},
		"[|1]":                   {Cells: []api.Cell{number(1)}},
		"[|]":                    {},
		"[|]^*":                  {S: math.MaxUint64},
		"[|_@*]":                 {Cells: []api.Cell{{L: math.MaxUint64}}},
		"[2 0|]":                 {Shape: []int{2, 0}},
		"[-1|1]":                 {Shape: []int{-1}, Cells: []api.Cell{number(1)}},
		"[1 1|((1 'x@3))]":       {Shape: []int{1, 1}, Cells: []api.Cell{{Kind: 2, In: []api.Array{{Shape: []int{1}, Cells: []api.Cell{{Kind: 2, In: []api.Array{row}}}}}}}},
		"[|(1 'x@3)^4@16]":       {Cells: []api.Cell{{L: 16, Kind: 2, In: []api.Array{{S: 4, Shape: row.Shape, Cells: row.Cells}}}}},
		"('  '' ') '[ '⍴ '_)":    {Shape: []int{6}, Cells: []api.Cell{{Kind: 1, C: ' '}, {Kind: 1, C: '\''}, {Kind: 1, C: ')'}, {Kind: 1, C: '['}, {Kind: 1, C: 0x2374}, {Kind: 1, C: '_'}}},
		"(¯3r2)":                 {Shape: []int{1}, Cells: []api.Cell{{N: api.Num{Neg: true, Top: []uint32{3}, Bot: []uint32{2}}}}},
		"(4294967296)":           {Shape: []int{1}, Cells: []api.Cell{{N: api.Num{Top: []uint32{0, 1}, Bot: []uint32{1}}}}},
		"({0 0 2/4})":            {Shape: []int{1}, Cells: []api.Cell{{N: api.Num{Top: []uint32{2}, Bot: []uint32{4}}}}},
		"({3 0 /}@2)":            {Shape: []int{1}, Cells: []api.Cell{{L: 2, Kind: 3}}},
		"({1 97 -5,1/ ()})":      {Shape: []int{1}, Cells: []api.Cell{{Kind: 1, C: 97, N: api.Num{Neg: true, Top: []uint32{5, 1}}, In: []api.Array{{Shape: []int{0}}}}}},
		"({2 0 / (1 'x@3) [|]})": {Shape: []int{1}, Cells: []api.Cell{{Kind: 2, In: []api.Array{row, {}}}}},
		"({2 0 /})":              {Shape: []int{1}, Cells: []api.Cell{{Kind: 2}}},
		"({1 55296 /})":          {Shape: []int{1}, Cells: []api.Cell{{Kind: 1, C: 0xD800}}},
	} {
		if got := Text(a); got != text {
			t.Error("the text of", a, "is", got)
		}
		if got := Array(text); !equal(got, a) {
			t.Error(text, "is", got)
		}
	}
	if a := Array(" ( 1\n\t'x @ 3 ) "); !equal(a, row) || !equal(Arrays("()", "(1 'x@3)")[1], row) || Text(api.Array{Cells: []api.Cell{Cell("5@8")}}) != "[|5@8]" {
		t.Error("blanks", a)
	}
}

// A text that is no array's is a panic.
func TestSlip(t *testing.T) {
	for _, text := range []string{"", "1", "(", ")", "[", "[1", "[|", "[1 2)", "(1", "(1))", "(1) 2", "(x)", "(')", "('", "(1^2)", "(1@)", "(1@x)", "()^", "()@1", "()^-1", "({", "({1", "({1 2", "({1 2 3})", "({1 2 /", "({x 0 /})", "({0 0 x/})", "({0 0 1/ 5})", "(1r0)", "[x|]", "()^18446744073709551616"} {
		func() {
			defer func() {
				if recover() == nil {
					t.Error(text, "is an array")
				}
			}()
			Array(text)
		}()
	}
}

// What is drawn has all kinds, shapes, labels, depths; it comes again, and is not all the same.
func TestDrawn(t *testing.T) {
	texts := map[string]int{}
	joined := ""
	for i, a := range ManyDrawn(3, 300, 2) {
		text := Text(a)
		if again := ManyDrawn(3, 300, 2)[i]; i < 20 && Text(again) != text {
			t.Error("another one", text, Text(again))
		}
		if !equal(Array(text), a) || strings.Contains(text, "{") || strings.Contains(text, "_") {
			t.Error(text)
		}
		texts[text]++
		joined += text
	}
	for _, part := range []string{"()", "'A", "'C", "¯", "r", "[2 2|", "[0 2|]", "^15", "@15", "[|", "(("} {
		if !strings.Contains(joined, part) {
			t.Error("no", part)
		}
	}
	if len(texts) < 200 {
		t.Error(len(texts))
	}
}

// What is disguised is right, and alike to the observer; all that it does not see may be another thing, nothing else is.
func TestDisguised(t *testing.T) {
	draw := Chance(4)
	others := 0
	l := append(ManyDrawn(5, 200, 3), Arrays("[|[|(1 2)@4]]", "[|[|(1 2)]^4]", "([|(1 2)@4]@2)^1", "[|((1 2)@4)]")...)
	for _, a := range l {
		for observer := range uint64(16) {
			b := Disguised(draw, a, observer)
			if !array.Right(b) || !view.Alike(a, b, observer) {
				t.Error(Text(a), "is, disguised to", observer, Text(b))
			}
			if !array.Match(a, b) {
				others++
			}
			if observer == 15 && !equal(a, b) {
				t.Error(Text(a), "is all seen, but becomes", Text(b))
			}
		}
	}
	if others < 1000 {
		t.Error("too few are others", others)
	}
}

// Calls whose answers share memory are told.
func TestSharing(t *testing.T) {
	in := Array("(1 ((2 'x) 3) {0 0 1/1})")
	cells := func(a api.Array) api.Array { return api.Array{Shape: []int{3}, Cells: a.Cells} }
	limbs := func(a api.Array) api.Array {
		b := Roomy(a)
		b.Cells[0].N.Top = b.Cells[2].N.Top
		return b
	}
	deep := func(a api.Array) api.Array {
		b := Roomy(a)
		b.Cells[1].In[0].Cells[0].In = a.Cells[1].In[0].Cells[0].In
		return b
	}
	changed := func(a api.Array) api.Array {
		a.Cells[1].In[0].Cells[1].N.Top[0]++
		return api.Array{}
	}
	behind := func(a api.Array) api.Array {
		for l := a.Cells[:cap(a.Cells)]; len(l) > len(a.Cells); l = l[:len(l)-1] {
			l[len(l)-1].L++
		}
		return api.Array{}
	}
	for i, call := range []func(api.Array) api.Array{cells, limbs, deep, changed, behind} {
		if Sharing(call, Roomy(in)) == "" {
			t.Error("nothing is shared", i)
		}
	}
	if fault := Sharing(Roomy, in); fault != "" || Text(Roomy(in)) != Text(in) {
		t.Error(fault)
	}
}

// Calls that look behind a list's length, share memory, or don't tell the same again, are told.
func TestMemory(t *testing.T) {
	in := Array("(1 ((2 'x) 3) {0 0 1/1})")
	behind := func(a api.Array) api.Array { return api.Array{Shape: []int{cap(a.Cells)}} }
	shared := func(a api.Array) api.Array { return api.Array{Shape: a.Shape} }
	calls := 0
	counted := func(api.Array) api.Array {
		calls++
		return api.Array{S: uint64(calls)}
	}
	var told api.Array
	kept := func(a api.Array) api.Array {
		if told.Shape == nil {
			told = Roomy(a)
		}
		return told
	}
	for i, call := range []func(api.Array) api.Array{behind, shared, counted, kept} {
		if Memory(call, in) == "" {
			t.Error("nothing is wrong", i)
		}
	}
	if fault := Memory(Roomy, in); fault != "" {
		t.Error(fault)
	}
}
