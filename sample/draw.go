package sample

import (
	"slices"

	"scrim/api"
	"scrim/ratio"
)

// Chance tells numbers below those that it is handed, in a fixed order that looks as if there were none.
func Chance(seed uint64) func(n int) int {
	return func(n int) int {
		seed = seed*6364136223846793005 + 1442695040888963407
		return int(seed >> 33 % uint64(n))
	}
}

// Drawn tells a right array with labels of the tags 0 to 3, in which no more Boxes are within one another than nest.
func Drawn(draw func(int) int, nest int) api.Array {
	shapes := [][]int{nil, nil, {0}, {1}, {2}, {3}, {2, 2}, {1, 3}, {0, 2}, {1, 1, 2}}
	a := api.Array{S: uint64(draw(16)), Shape: shapes[draw(len(shapes))]}
	cells := 1
	for _, n := range a.Shape {
		cells *= n
	}
	for range cells {
		c := drawnCell(draw, nest)
		c.L = uint64(draw(16))
		a.Cells = append(a.Cells, c)
	}
	return a
}

func drawnCell(draw func(int) int, nest int) api.Cell {
	whole := api.Cell{Kind: api.Number, N: ratio.Of(draw(4))}
	kind := draw(4)
	switch {
	case kind == 1:
		return api.Cell{Kind: api.Char, C: 'A' + draw(3)}
	case kind == 2:
		return api.Cell{Kind: api.Number, N: api.Num{Neg: draw(2) == 0, Top: []uint32{5, 1}, Bot: []uint32{7}}}
	case kind == 3 && nest > 0:
		in := Drawn(draw, nest-1)
		if len(in.Shape) == 0 && in.Cells[0].Kind != api.Box {
			return in.Cells[0]
		}
		return api.Cell{Kind: api.Box, In: []api.Array{in}}
	}
	return whole
}

// ManyDrawn tells so many arrays, drawn by a chance of this seed.
func ManyDrawn(seed uint64, n, nest int) []api.Array {
	draw := Chance(seed)
	l := make([]api.Array, n)
	for i := range l {
		l[i] = Drawn(draw, nest)
	}
	return l
}

// Disguised tells a right array that is alike to an observer: what it does not see is drawn anew, under a label that it does not see.
func Disguised(draw func(int) int, a api.Array, observer uint64) api.Array {
	if a.S&^observer != 0 {
		b := Drawn(draw, 1)
		b.S |= a.S
		return b
	}
	b := api.Array{S: a.S, Shape: slices.Clone(a.Shape)}
	for _, c := range a.Cells {
		b.Cells = append(b.Cells, disguisedCell(draw, c, observer))
	}
	return b
}

func disguisedCell(draw func(int) int, c api.Cell, observer uint64) api.Cell {
	if c.L&^observer != 0 {
		d := drawnCell(draw, 1)
		d.L = c.L | uint64(draw(16))
		return d
	}
	if c.Kind != api.Box {
		return c
	}
	in := Disguised(draw, c.In[0], observer)
	if len(in.Shape) == 0 && in.Cells[0].Kind != api.Box {
		// No Box may have this; as its cell is none that is seen, or in an array that is not, it may be one.
		bare := in.Cells[0]
		in.Cells[0] = api.Cell{L: bare.L, Kind: api.Box, In: []api.Array{{Shape: []int{1}, Cells: []api.Cell{bare}}}}
	}
	return api.Cell{L: c.L, Kind: api.Box, In: []api.Array{in}}
}
