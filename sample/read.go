package sample

import (
	"strconv"
	"strings"
	"unicode/utf8"

	"scrim/api"
	"scrim/digits"
)

// Array tells the array whose text it is handed. A text that is none is a slip of a test, which shall end there: it panics.
func Array(text string) api.Array {
	r := &reader{rest: text}
	a := r.array()
	if r.skip(); r.rest != "" {
		r.slip()
	}
	return a
}

// Arrays tells the arrays of texts.
func Arrays(texts ...string) []api.Array {
	var l []api.Array
	for _, text := range texts {
		l = append(l, Array(text))
	}
	return l
}

// Cell tells the cell whose text it is handed.
func Cell(text string) api.Cell { return Array("(" + text + ")").Cells[0] }

// reader is what is left of a text.
type reader struct{ rest string }

func (r *reader) slip() { panic("sample: no array goes on with " + strconv.Quote(r.rest)) }

func (r *reader) skip() { r.rest = strings.TrimLeft(r.rest, " \n\t") }

// took tells whether a sign comes next, and goes behind it.
func (r *reader) took(sign string) bool {
	r.skip()
	rest, ok := strings.CutPrefix(r.rest, sign)
	r.rest = rest
	return ok
}

// word takes what stands ahead of the next sign or blank.
func (r *reader) word() string {
	r.skip()
	end := strings.IndexAny(r.rest, " \n\t()[]{}|^@'_")
	if end < 0 {
		end = len(r.rest)
	}
	word := r.rest[:end]
	if word == "" {
		r.slip()
	}
	r.rest = r.rest[end:]
	return word
}

func (r *reader) array() api.Array {
	var a api.Array
	switch {
	case r.took("("):
		a.Cells = r.cells(")")
		a.Shape = []int{len(a.Cells)}
	case r.took("["):
		for !r.took("|") {
			a.Shape = append(a.Shape, r.whole())
		}
		a.Cells = r.cells("]")
	default:
		r.slip()
	}
	a.S = r.label("^")
	return a
}

func (r *reader) cells(end string) []api.Cell {
	var l []api.Cell
	for !r.took(end) {
		l = append(l, r.cell())
	}
	return l
}

func (r *reader) cell() api.Cell {
	var c api.Cell
	switch {
	case r.took("_"):
	case r.took("'"):
		c = r.char()
	case r.took("{"):
		c = r.odd()
	case r.opens():
		c = api.Cell{Kind: api.Box, In: []api.Array{r.array()}}
	default:
		c = r.number()
	}
	c.L = r.label("@")
	return c
}

// opens tells whether an array comes next.
func (r *reader) opens() bool {
	r.skip()
	return strings.HasPrefix(r.rest, "(") || strings.HasPrefix(r.rest, "[")
}

func (r *reader) char() api.Cell {
	char, size := utf8.DecodeRuneInString(r.rest)
	if size == 0 {
		r.slip()
	}
	r.rest = r.rest[size:]
	return api.Cell{Kind: api.Char, C: int(char)}
}

func (r *reader) number() api.Cell {
	n, e := digits.Parse(r.word())
	if e != api.OK {
		r.slip()
	}
	return api.Cell{Kind: api.Number, N: n}
}

// odd takes a cell that is not right, behind its {.
func (r *reader) odd() api.Cell {
	c := api.Cell{Kind: r.whole(), C: r.whole()}
	c.N.Neg = r.took("-")
	top, bot, stroke := strings.Cut(r.word(), "/")
	if !stroke {
		r.slip()
	}
	c.N.Top, c.N.Bot = r.limbs(top), r.limbs(bot)
	for !r.took("}") {
		c.In = append(c.In, r.array())
	}
	return c
}

func (r *reader) limbs(text string) []uint32 {
	var l []uint32
	for limb := range strings.SplitSeq(text, ",") {
		if n, err := strconv.ParseUint(limb, 10, 32); err == nil {
			l = append(l, uint32(n))
		} else if text != "" {
			r.slip()
		}
	}
	return l
}

func (r *reader) whole() int {
	n, err := strconv.Atoi(r.word())
	if err != nil {
		r.slip()
	}
	return n
}

// label takes a label behind its sign, or none.
func (r *reader) label(sign string) uint64 {
	if !r.took(sign) {
		return 0
	}
	if r.took("*") {
		return all
	}
	l, err := strconv.ParseUint(r.word(), 10, 64)
	if err != nil {
		r.slip()
	}
	return l
}
