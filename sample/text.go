// Package sample is what the tests of the layers on arrays share: arrays as short texts, arrays by a fixed chance, and a look at memory.
//
// The text of an array is its cells in ( and ), if they stand along one axis, else its shape, | and its cells in [ and ]:
// (1 2r3 'x), [2 2|1 2 3 4], [|5]. An array in an array is a Box. ^ and a label behind an array are its S, @ and a label
// behind a cell are its L, * being the label of all tags: ((1 2@8)^4@16)^*. A cell without anything is _; any other that
// is not right is its Kind, its C, its N by limbs (the lowest first) and the arrays in it: {1 97 -5,1/7 (1 2)}.
package sample

import (
	"strconv"
	"strings"

	"scrim/api"
	"scrim/digits"
	"scrim/glyph"
	"scrim/ratio"
)

const all = 1<<64 - 1

// Text tells an array as a text, in which all stands that it has.
func Text(a api.Array) string {
	text := "(" + cellsText(a.Cells) + ")"
	if len(a.Shape) != 1 || a.Shape[0] != len(a.Cells) {
		text = "[" + joined(a.Shape, strconv.Itoa, " ") + "|" + cellsText(a.Cells) + "]"
	}
	return text + labelText("^", a.S)
}

func cellsText(l []api.Cell) string { return joined(l, CellText, " ") }

// CellText tells a cell as a text, in which all stands that it has.
func CellText(c api.Cell) string { return bareText(c) + labelText("@", c.L) }

// bareText tells a cell without its label.
func bareText(c api.Cell) string {
	noNum, noChar, noBox := ratio.Same(c.N, api.Num{}), c.C == 0, len(c.In) == 0
	switch {
	case c.Kind == api.Number && noChar && noBox && ratio.Right(c.N):
		return digits.Print(c.N)
	case c.Kind == api.Number && noChar && noBox && noNum:
		return "_"
	case c.Kind == api.Char && noNum && noBox && glyph.May(c.C):
		text, _ := glyph.Encode([]int{c.C})
		return "'" + text
	case c.Kind == api.Box && noNum && noChar && len(c.In) == 1:
		return Text(c.In[0])
	}
	text := "{" + strconv.Itoa(c.Kind) + " " + strconv.Itoa(c.C) + " " + limbsText(c.N)
	for _, in := range c.In {
		text += " " + Text(in)
	}
	return text + "}"
}

func limbsText(n api.Num) string {
	limb := func(n uint32) string { return strconv.FormatUint(uint64(n), 10) }
	sign := ""
	if n.Neg {
		sign = "-"
	}
	return sign + joined(n.Top, limb, ",") + "/" + joined(n.Bot, limb, ",")
}

func labelText(sign string, l uint64) string {
	switch l {
	case 0:
		return ""
	case all:
		return sign + "*"
	}
	return sign + strconv.FormatUint(l, 10)
}

// joined tells the texts of many, with a text between.
func joined[T any](l []T, text func(T) string, between string) string {
	texts := make([]string, len(l))
	for i, x := range l {
		texts[i] = text(x)
	}
	return strings.Join(texts, between)
}
