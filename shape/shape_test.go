package shape

import (
	"math"
	"math/big"
	"slices"
	"testing"

	"scrim/api"
)

const (
	least    = math.MinInt
	greatest = math.MaxInt
)

// counts are shapes with what Count tells of them, written by hand.
var counts = []struct {
	s     []int
	cells int
	e     api.Errno
}{
	// Ranks 0 to 7.
	{nil, 1, api.OK}, {[]int{}, 1, api.OK}, {[]int{5}, 5, api.OK}, {[]int{2, 3}, 6, api.OK}, {[]int{2, 3, 4}, 24, api.OK},
	{[]int{1, 2, 3, 4}, 24, api.OK}, {[]int{2, 1, 3, 1, 4}, 24, api.OK}, {[]int{2, 2, 2, 2, 2, 2}, 64, api.OK},
	{[]int{1, 1, 1, 1, 1, 1}, 1, api.OK}, {[]int{1, 1, 1, 1, 1, 1, 1}, 0, api.Limit}, {[]int{0, 0, 0, 0, 0, 0}, 0, api.OK},
	{[]int{0, 0, 0, 0, 0, 0, 0}, 0, api.Limit}, {make([]int, 1000), 0, api.Limit},
	// One length.
	{[]int{0}, 0, api.OK}, {[]int{1}, 1, api.OK}, {[]int{2047}, 2047, api.OK}, {[]int{2048}, 2048, api.OK},
	{[]int{2049}, 0, api.Limit}, {[]int{4096}, 0, api.Limit}, {[]int{greatest}, 0, api.Limit},
	{[]int{-1}, 0, api.Domain}, {[]int{-2048}, 0, api.Domain}, {[]int{-2049}, 0, api.Domain}, {[]int{least}, 0, api.Domain},
	// Products at MaxCells and just above it.
	{[]int{32, 64}, 2048, api.OK}, {[]int{64, 32}, 2048, api.OK}, {[]int{2048, 1}, 2048, api.OK}, {[]int{1, 1, 2048}, 2048, api.OK},
	{[]int{2, 4, 4, 4, 4, 4}, 2048, api.OK}, {[]int{89, 23}, 2047, api.OK}, {[]int{3, 683}, 0, api.Limit}, {[]int{683, 3}, 0, api.Limit},
	{[]int{64, 33}, 0, api.Limit}, {[]int{2048, 2}, 0, api.Limit}, {[]int{2, 2048}, 0, api.Limit}, {[]int{2, 2, 2, 2, 2, 65}, 0, api.Limit},
	{[]int{64, 33, 1}, 0, api.Limit}, {[]int{1, 1025, 2, 1}, 0, api.Limit},
	// Products that an int would not hold, among them those whose lowest bits are few.
	{[]int{2048, 2048}, 0, api.Limit}, {[]int{2048, 2048, 2048, 2048, 2048, 2048}, 0, api.Limit}, {[]int{1 << 11, 1 << 11, 1 << 10}, 0, api.Limit},
	{[]int{1 << 11, 1 << 11, 1 << 11, 1 << 11, 1 << 11, 1 << 9}, 0, api.Limit}, {[]int{1 << 11, 1 << 11, 1 << 11, 1 << 11, 1 << 11, 1 << 8}, 0, api.Limit},
	{[]int{1 << 32, 1 << 32}, 0, api.Limit}, {[]int{1 << 62, 4}, 0, api.Limit}, {[]int{greatest, greatest}, 0, api.Limit},
	{[]int{1<<32 + 1, 2}, 0, api.Limit}, {[]int{2, 1<<62 + 1, 2}, 0, api.Limit},
	// A length of 0 beside great ones, and beside one above MaxCells.
	{[]int{0, 2048}, 0, api.OK}, {[]int{2048, 0}, 0, api.OK}, {[]int{2048, 2048, 0}, 0, api.OK}, {[]int{0, 2048, 2048}, 0, api.OK},
	{[]int{2048, 2048, 2048, 2048, 2048, 0}, 0, api.OK}, {[]int{2048, 2048, 0, 2048, 2048, 2048}, 0, api.OK}, {[]int{64, 33, 0}, 0, api.OK},
	{[]int{0, 2049}, 0, api.Limit}, {[]int{2049, 0}, 0, api.Limit}, {[]int{0, greatest}, 0, api.Limit}, {[]int{greatest, 0}, 0, api.Limit},
	{[]int{1 << 32, 1 << 32, 0}, 0, api.Limit}, {[]int{0, 4096}, 0, api.Limit},
	// A length below 0 beside others: Domain ahead of Limit, but for the rank's.
	{[]int{0, -1}, 0, api.Domain}, {[]int{-1, 0}, 0, api.Domain}, {[]int{-1, -1}, 0, api.Domain}, {[]int{-2, -3}, 0, api.Domain},
	{[]int{2049, -1}, 0, api.Domain}, {[]int{-1, 2049}, 0, api.Domain}, {[]int{greatest, least}, 0, api.Domain}, {[]int{least, greatest}, 0, api.Domain},
	{[]int{2048, 2048, -1}, 0, api.Domain}, {[]int{-1, 2048, 2048}, 0, api.Domain}, {[]int{0, 2049, -1}, 0, api.Domain},
	{[]int{1 << 62, -1}, 0, api.Domain}, {[]int{1, 1, 1, 1, 1, -1}, 0, api.Domain}, {[]int{2, 3, least}, 0, api.Domain},
	{[]int{-1, 1, 1, 1, 1, 1, 1}, 0, api.Limit}, {[]int{1, 1, 1, 1, 1, 1, -1}, 0, api.Limit}, {[]int{2, 2, 2, 2, 2, 2, 2}, 0, api.Limit},
	{[]int{0, 2049, -1, least, greatest, 1, 1, 1}, 0, api.Limit},
}

// someLengths are those of which shapes are made that are gone through one by one.
var someLengths = []int{0, 1, 2, 3, 45, 46, 683, 2048, 2049, -1, greatest, least}

// everyShape hands on each shape of at most this rank, made of these lengths.
func everyShape(rank int, lengths []int, do func([]int)) {
	var further func(s []int)
	further = func(s []int) {
		do(s)
		if len(s) < rank {
			for _, n := range lengths {
				further(append(slices.Clip(slices.Clone(s)), n))
			}
		}
	}
	further(nil)
}

// inFull is a product, however great.
func inFull(s []int) *big.Int {
	p := big.NewInt(1)
	for _, n := range s {
		p.Mul(p, big.NewInt(int64(n)))
	}
	return p
}

// wanted is what the chapter says of Count, by numbers however great.
func wanted(s []int) (int, api.Errno) {
	most := big.NewInt(2048)
	switch {
	case len(s) > 6:
		return 0, api.Limit
	case len(s) > 0 && slices.Min(s) < 0:
		return 0, api.Domain
	case len(s) > 0 && slices.Max(s) > 2048, inFull(s).Cmp(most) > 0:
		return 0, api.Limit
	}
	return int(inFull(s).Int64()), api.OK
}

// capped is what Around tells of the lengths on the one side of an axis.
func capped(s []int) int {
	p := inFull(s)
	if p.Cmp(big.NewInt(2048)) > 0 {
		return 0
	}
	return int(p.Int64())
}

// places are all of a shape, in the order of its cells: of each length ahead, all those of the lengths behind it.
func places(s []int) [][]int {
	if len(s) == 0 {
		return [][]int{{}}
	}
	var l [][]int
	for i := range s[0] {
		for _, rest := range places(s[1:]) {
			l = append(l, append([]int{i}, rest...))
		}
	}
	return l
}

// good are shapes of which Count tells no error.
func good() [][]int {
	var l [][]int
	for _, c := range counts {
		if c.e == api.OK {
			l = append(l, c.s)
		}
	}
	return l
}

// wrong are shapes of which Count tells one.
func wrong() [][]int {
	var l [][]int
	for _, c := range counts {
		if c.e != api.OK {
			l = append(l, c.s)
		}
	}
	return l
}

// 7.1, R2: the product, or the error that is named first, and 0 beside it.
func TestCount(t *testing.T) {
	for _, c := range counts {
		if n, e := Count(c.s); n != c.cells || e != c.e {
			t.Errorf("Count(%v) is %d, %v: want %d, %v", c.s, n, e, c.cells, c.e)
		}
	}
}

// 7.1: of all shapes of some lengths, against numbers however great.
func TestCountOfMany(t *testing.T) {
	everyShape(4, someLengths, func(s []int) {
		n, e := Count(s)
		if cells, want := wanted(s); n != cells || e != want {
			t.Fatalf("Count(%v) is %d, %v: want %d, %v", s, n, e, cells, want)
		}
	})
	everyShape(7, []int{0, 4, -1, 2048}, func(s []int) {
		n, e := Count(s)
		if cells, want := wanted(s); n != cells || e != want {
			t.Fatalf("Count(%v) is %d, %v: want %d, %v", s, n, e, cells, want)
		}
	})
}

// 7.2: cells and places, written by hand.
func TestIndexAndAt(t *testing.T) {
	for _, c := range []struct {
		s, at []int
		cell  int
	}{
		{nil, nil, 0}, {[]int{}, []int{}, 0}, {[]int{1}, []int{0}, 0}, {[]int{5}, []int{0}, 0}, {[]int{5}, []int{4}, 4},
		{[]int{2, 3}, []int{0, 0}, 0}, {[]int{2, 3}, []int{0, 2}, 2}, {[]int{2, 3}, []int{1, 0}, 3}, {[]int{2, 3}, []int{1, 2}, 5},
		{[]int{2, 3, 4}, []int{1, 2, 3}, 23}, {[]int{2, 3, 4}, []int{1, 0, 0}, 12}, {[]int{2, 3, 4}, []int{0, 1, 0}, 4}, {[]int{2, 3, 4}, []int{1, 1, 2}, 18},
		{[]int{2048}, []int{2047}, 2047}, {[]int{1, 1, 1, 1, 1, 1}, []int{0, 0, 0, 0, 0, 0}, 0}, {[]int{2, 4, 4, 4, 4, 4}, []int{1, 3, 3, 3, 3, 3}, 2047},
		{[]int{2, 4, 4, 4, 4, 4}, []int{1, 0, 2, 0, 3, 1}, 1024 + 128 + 12 + 1},
	} {
		if n, ok := Index(c.s, c.at); n != c.cell || !ok {
			t.Errorf("Index(%v, %v) is %d, %v: want %d, true", c.s, c.at, n, ok, c.cell)
		}
		if at, ok := At(c.s, c.cell); !slices.Equal(at, c.at) || !ok {
			t.Errorf("At(%v, %d) is %v, %v: want %v, true", c.s, c.cell, at, ok, c.at)
		}
	}
}

// 7.2: places that are none: too few numbers or too many, one below 0, or one that its axis has not.
func TestIndexOfNone(t *testing.T) {
	for _, c := range []struct{ s, at []int }{
		{nil, []int{0}}, {nil, []int{1}}, {[]int{1}, nil}, {[]int{5}, []int{}}, {[]int{5}, []int{0, 0}}, {[]int{5}, []int{4, 0}},
		{[]int{2, 3}, nil}, {[]int{2, 3}, []int{1}}, {[]int{2, 3}, []int{0, 0, 0}}, {[]int{2, 3}, []int{1, 2, 0, 0, 0, 0, 0}}, {[]int{2, 3}, make([]int, 1000)},
		{[]int{5}, []int{-1}}, {[]int{5}, []int{5}}, {[]int{5}, []int{6}}, {[]int{5}, []int{greatest}}, {[]int{5}, []int{least}},
		{[]int{2, 3}, []int{-1, 0}}, {[]int{2, 3}, []int{0, -1}}, {[]int{2, 3}, []int{1, -1}}, {[]int{2, 3}, []int{-1, 3}}, {[]int{2, 3}, []int{-1, -1}},
		{[]int{2, 3}, []int{2, 0}}, {[]int{2, 3}, []int{0, 3}}, {[]int{2, 3}, []int{1, 3}}, {[]int{2, 3}, []int{0, 4}}, {[]int{2, 3}, []int{2, -1}}, {[]int{2, 3}, []int{2, -3}},
		{[]int{2, 3}, []int{greatest, greatest}}, {[]int{2, 3}, []int{least, least}}, {[]int{2, 3}, []int{1, greatest}}, {[]int{2, 3}, []int{1 << 32, 0}},
		{[]int{2, 3, 4}, []int{1, 2, 4}}, {[]int{2, 3, 4}, []int{1, 3, 3}}, {[]int{2, 3, 4}, []int{0, -1, 5}}, {[]int{1, 1}, []int{0, 1}}, {[]int{1, 1}, []int{1, 0}},
		{[]int{0}, []int{0}}, {[]int{0}, nil}, {[]int{0}, []int{-1}}, {[]int{2, 0}, []int{0, 0}}, {[]int{0, 2}, []int{0, 0}}, {[]int{2048, 2048, 0}, []int{0, 0, 0}},
		{[]int{2048, 2048, 0}, []int{2047, 2047, 0}}, {[]int{2048, 0, 2048}, []int{0, 0, 0}},
	} {
		if n, ok := Index(c.s, c.at); n != 0 || ok {
			t.Errorf("Index(%v, %v) is %d, %v: want 0, false", c.s, c.at, n, ok)
		}
	}
}

// 7.2: cells that are none: below 0, behind the last one, and of shapes without cells.
func TestAtOfNone(t *testing.T) {
	for _, s := range good() {
		cells, _ := Count(s)
		for _, n := range []int{-1, -2, -cells - 1, cells, cells + 1, 2 * cells, 2048, greatest, least} {
			if n >= 0 && n < cells {
				continue
			}
			if at, ok := At(s, n); at != nil || ok {
				t.Errorf("At(%v, %d) is %v, %v: want none, false", s, n, at, ok)
			}
		}
		if _, ok := At(s, cells-1); ok != (cells > 0) {
			t.Errorf("At(%v, %d) is %v", s, cells-1, ok)
		}
		if _, ok := At(s, 0); ok != (cells > 0) {
			t.Errorf("At(%v, 0) is %v", s, ok)
		}
	}
}

// 7.2: the products around axes, written by hand: each is 0 where it is too great.
func TestAround(t *testing.T) {
	for _, c := range []struct {
		s                   []int
		axis                int
		ahead, here, behind int
	}{
		{[]int{5}, 0, 1, 5, 1}, {[]int{2048}, 0, 1, 2048, 1}, {[]int{2, 3}, 0, 1, 2, 3}, {[]int{2, 3}, 1, 2, 3, 1},
		{[]int{2, 3, 4}, 0, 1, 2, 12}, {[]int{2, 3, 4}, 1, 2, 3, 4}, {[]int{2, 3, 4}, 2, 6, 4, 1},
		{[]int{2, 4, 4, 4, 4, 4}, 0, 1, 2, 1024}, {[]int{2, 4, 4, 4, 4, 4}, 3, 32, 4, 16}, {[]int{2, 4, 4, 4, 4, 4}, 5, 512, 4, 1},
		{[]int{1, 1, 2048}, 0, 1, 1, 2048}, {[]int{2048, 1}, 1, 2048, 1, 1},
		{[]int{0}, 0, 1, 0, 1}, {[]int{0, 3}, 0, 1, 0, 3}, {[]int{0, 3}, 1, 0, 3, 1}, {[]int{3, 0}, 0, 1, 3, 0}, {[]int{3, 0}, 1, 3, 0, 1},
		{[]int{2048, 0}, 1, 2048, 0, 1}, {[]int{0, 2048}, 0, 1, 0, 2048}, {[]int{32, 64, 0}, 2, 2048, 0, 1}, {[]int{0, 32, 64}, 0, 1, 0, 2048},
		{[]int{683, 3, 0}, 2, 0, 0, 1}, {[]int{0, 683, 3}, 0, 1, 0, 0}, {[]int{683, 3, 0, 32, 64}, 2, 0, 0, 2048}, {[]int{32, 64, 0, 683, 3}, 2, 2048, 0, 0},
		{[]int{2048, 2048, 0}, 2, 0, 0, 1}, {[]int{2048, 2048, 0}, 1, 2048, 2048, 0}, {[]int{2048, 2048, 0}, 0, 1, 2048, 0},
		{[]int{0, 2048, 2048}, 0, 1, 0, 0}, {[]int{0, 2048, 2048}, 1, 0, 2048, 2048}, {[]int{0, 2048, 2048}, 2, 0, 2048, 1},
		{[]int{2048, 2048, 2048, 2048, 2048, 0}, 5, 0, 0, 1}, {[]int{0, 2048, 2048, 2048, 2048, 2048}, 0, 1, 0, 0}, {[]int{2048, 2048, 0, 2048, 2048, 2048}, 2, 0, 0, 0},
	} {
		ahead, here, behind, ok := Around(c.s, c.axis)
		if ahead != c.ahead || here != c.here || behind != c.behind || !ok {
			t.Errorf("Around(%v, %d) is %d, %d, %d, %v: want %d, %d, %d, true", c.s, c.axis, ahead, here, behind, ok, c.ahead, c.here, c.behind)
		}
	}
}

// 7.2: of every axis of many shapes, against numbers however great.
func TestAroundOfMany(t *testing.T) {
	everyShape(5, []int{0, 1, 2, 45, 46, 2048}, func(s []int) {
		_, e := wanted(s)
		for axis := range s {
			ahead, here, behind, ok := Around(s, axis)
			if ok != (e == api.OK) {
				t.Fatalf("Around(%v, %d) tells %v beside %v", s, axis, ok, e)
			}
			if ok && (ahead != capped(s[:axis]) || here != s[axis] || behind != capped(s[axis+1:])) {
				t.Fatalf("Around(%v, %d) is %d, %d, %d", s, axis, ahead, here, behind)
			}
		}
	})
}

// 7.2, R2: nothing and false of shapes of which Count tells an error, at places, cells and axes that would else be theirs.
func TestWrongShapes(t *testing.T) {
	for _, s := range wrong() {
		for _, at := range [][]int{nil, make([]int, len(s)), slices.Repeat([]int{-1}, len(s)), slices.Clone(s)} {
			if n, ok := Index(s, at); n != 0 || ok {
				t.Errorf("Index(%v, %v) is %d, %v: want 0, false", s, at, n, ok)
			}
		}
		for _, n := range []int{-1, 0, 1, 2047, 2048, greatest, least} {
			if at, ok := At(s, n); at != nil || ok {
				t.Errorf("At(%v, %d) is %v, %v: want none, false", s, n, at, ok)
			}
		}
		for axis := -1; axis <= len(s); axis++ {
			if a, b, c, ok := Around(s, axis); a != 0 || b != 0 || c != 0 || ok {
				t.Errorf("Around(%v, %d) is %d, %d, %d, %v: want zeros, false", s, axis, a, b, c, ok)
			}
		}
	}
}

// 7.2, 7.3: axes that are none: below 0, and behind the last one.
func TestNoAxis(t *testing.T) {
	for _, c := range counts {
		for _, axis := range []int{-1, -2, -len(c.s) - 1, len(c.s), len(c.s) + 1, 1 << 32, greatest, least} {
			if a, b, d, ok := Around(c.s, axis); a != 0 || b != 0 || d != 0 || ok {
				t.Errorf("Around(%v, %d) is %d, %d, %d, %v: want zeros, false", c.s, axis, a, b, d, ok)
			}
			if s, ok := With(c.s, axis, 2); s != nil || ok {
				t.Errorf("With(%v, %d, 2) is %v, %v: want none, false", c.s, axis, s, ok)
			}
			if s, ok := Without(c.s, axis); s != nil || ok {
				t.Errorf("Without(%v, %d) is %v, %v: want none, false", c.s, axis, s, ok)
			}
		}
	}
}

// 7.3: shapes with another length and without an axis, written by hand.
func TestWithAndWithout(t *testing.T) {
	for _, c := range []struct {
		s             []int
		axis, n       int
		with, without []int
	}{
		{[]int{5}, 0, 2, []int{2}, nil}, {[]int{5}, 0, 5, []int{5}, nil}, {[]int{2, 3}, 0, 9, []int{9, 3}, []int{3}}, {[]int{2, 3}, 1, 9, []int{2, 9}, []int{2}},
		{[]int{2, 3, 4}, 0, 7, []int{7, 3, 4}, []int{3, 4}}, {[]int{2, 3, 4}, 1, 7, []int{2, 7, 4}, []int{2, 4}}, {[]int{2, 3, 4}, 2, 7, []int{2, 3, 7}, []int{2, 3}},
		{[]int{2, 3}, 1, 0, []int{2, 0}, []int{2}}, {[]int{0, 3}, 0, 2, []int{2, 3}, []int{3}}, {[]int{3, 3, 3}, 1, 3, []int{3, 3, 3}, []int{3, 3}},
		{[]int{1, 2, 3, 4, 5, 6}, 0, 0, []int{0, 2, 3, 4, 5, 6}, []int{2, 3, 4, 5, 6}}, {[]int{1, 2, 3, 4, 5, 6}, 5, 0, []int{1, 2, 3, 4, 5, 0}, []int{1, 2, 3, 4, 5}},
		// Lengths that no shape has which Count takes, and shapes that it doesn't take: nothing is asked of them but the axis.
		{[]int{2, 3}, 0, -1, []int{-1, 3}, []int{3}}, {[]int{2, 3}, 1, least, []int{2, least}, []int{2}}, {[]int{2, 3}, 1, 2049, []int{2, 2049}, []int{2}},
		{[]int{2, 3}, 0, greatest, []int{greatest, 3}, []int{3}}, {[]int{2048, 2}, 0, 2048, []int{2048, 2}, []int{2}}, {[]int{-1, 4096}, 0, 1, []int{1, 4096}, []int{4096}},
		{[]int{1, 2, 3, 4, 5, 6, 7}, 6, 8, []int{1, 2, 3, 4, 5, 6, 8}, []int{1, 2, 3, 4, 5, 6}},
	} {
		if s, ok := With(c.s, c.axis, c.n); !slices.Equal(s, c.with) || !ok {
			t.Errorf("With(%v, %d, %d) is %v, %v: want %v, true", c.s, c.axis, c.n, s, ok, c.with)
		}
		if s, ok := Without(c.s, c.axis); !slices.Equal(s, c.without) || !ok {
			t.Errorf("Without(%v, %d) is %v, %v: want %v, true", c.s, c.axis, s, ok, c.without)
		}
	}
}

// 7.3: every axis of every shape, also of those of which Count tells an error, length by length.
func TestWithAndWithoutOfMany(t *testing.T) {
	for _, c := range counts {
		for axis := range c.s {
			for _, n := range someLengths {
				s, ok := With(c.s, axis, n)
				if !ok || len(s) != len(c.s) || s[axis] != n || !slices.Equal(s[:axis], c.s[:axis]) || !slices.Equal(s[axis+1:], c.s[axis+1:]) {
					t.Fatalf("With(%v, %d, %d) is %v, %v", c.s, axis, n, s, ok)
				}
			}
			s, ok := Without(c.s, axis)
			if !ok || len(s) != len(c.s)-1 || !slices.Equal(s[:axis], c.s[:axis]) || !slices.Equal(s[axis:], c.s[axis+1:]) {
				t.Fatalf("Without(%v, %d) is %v, %v", c.s, axis, s, ok)
			}
		}
	}
}

// 7.4: the cells have the places one by one, in the order of the places, and no other.
func TestCellsAndPlaces(t *testing.T) {
	for _, s := range good() {
		cells, _ := Count(s)
		if cells == 0 {
			continue
		}
		all := places(s)
		if len(all) != cells {
			t.Errorf("Count(%v) is %d of %d places", s, cells, len(all))
		}
		for n, at := range all {
			if got, ok := At(s, n); !ok || !slices.Equal(got, at) {
				t.Fatalf("At(%v, %d) is %v, %v: want %v, true", s, n, got, ok, at)
			}
			if got, ok := Index(s, at); !ok || got != n {
				t.Fatalf("Index(%v, %v) is %d, %v: want %d, true", s, at, got, ok, n)
			}
		}
	}
}

// 7.4: an axis' length, times the cells ahead and behind, are all.
func TestAroundIsAll(t *testing.T) {
	for _, s := range good() {
		cells, _ := Count(s)
		for axis := range s {
			if ahead, here, behind, ok := Around(s, axis); !ok || ahead*here*behind != cells {
				t.Errorf("Around(%v, %d) is %d, %d, %d, %v: want %d in all", s, axis, ahead, here, behind, ok, cells)
			}
		}
	}
}

// 7.4: a cell's own number on an axis, and the cells ahead and behind, lead to it.
func TestAroundLeadsToCells(t *testing.T) {
	s := []int{2, 3, 4, 5}
	for axis := range s {
		_, here, behind, _ := Around(s, axis)
		for n := range 120 {
			if at, _ := At(s, n); at[axis] != n/behind%here {
				t.Fatalf("the cell %d of %v stands at %v", n, s, at)
			}
		}
	}
}

// R4: what is told can be written to, and what is handed in is as it was, also behind its length.
func TestSharesNoMemory(t *testing.T) {
	behind := []int{2, 3, 4, 99, 99}
	s := behind[:3]
	around := []int{1, 2, 3, 98, 98}
	at := around[:3]
	Count(s)
	Index(s, at)
	Around(s, 1)
	first, _ := At(s, 23)
	second, _ := At(s, 23)
	for i := range first {
		first[i] = -7
	}
	if !slices.Equal(second, []int{1, 2, 3}) {
		t.Errorf("two places share memory: %v", second)
	}
	for axis := range s {
		with, _ := With(s, axis, s[axis])
		again, _ := With(s, axis, s[axis])
		without, _ := Without(s, axis)
		for i := range with {
			with[i] = -7
		}
		for i := range without {
			without[i] = -7
		}
		_ = append(with, -8)
		_ = append(without, -8)
		if !slices.Equal(again, []int{2, 3, 4}) {
			t.Errorf("two shapes share memory: %v", again)
		}
	}
	if !slices.Equal(behind, []int{2, 3, 4, 99, 99}) || !slices.Equal(around, []int{1, 2, 3, 98, 98}) {
		t.Errorf("what was handed in is %v and %v", behind, around)
	}
}

// R4: what lies behind a shape's and a place's length has no part in what is told.
func TestBehindTheLength(t *testing.T) {
	s := []int{2, 3, -1, 4096}[:2]
	if n, e := Count(s); n != 6 || e != api.OK {
		t.Errorf("Count is %d, %v", n, e)
	}
	if n, ok := Index(s, []int{1, 2, -1}[:2]); n != 5 || !ok {
		t.Errorf("Index is %d, %v", n, ok)
	}
	if at, ok := At(s, 5); !slices.Equal(at, []int{1, 2}) || !ok {
		t.Errorf("At is %v, %v", at, ok)
	}
	if with, ok := With(s, 0, 7); !slices.Equal(with, []int{7, 3}) || !ok {
		t.Errorf("With is %v, %v", with, ok)
	}
	if without, ok := Without(s, 1); !slices.Equal(without, []int{2}) || !ok {
		t.Errorf("Without is %v, %v", without, ok)
	}
	if _, ok := With(s, 2, 7); ok {
		t.Error("With takes an axis behind the length")
	}
	if _, ok := Without(s, 2); ok {
		t.Error("Without takes an axis behind the length")
	}
}

// P1, R1: lists nil and empty are the same.
func TestNilAndEmpty(t *testing.T) {
	for _, s := range [][]int{nil, {}} {
		if n, e := Count(s); n != 1 || e != api.OK {
			t.Errorf("Count is %d, %v", n, e)
		}
		for _, at := range [][]int{nil, {}} {
			if n, ok := Index(s, at); n != 0 || !ok {
				t.Errorf("Index is %d, %v", n, ok)
			}
		}
		if at, ok := At(s, 0); len(at) != 0 || !ok {
			t.Errorf("At is %v, %v", at, ok)
		}
	}
}

// P1: shapes and places far longer than any may be.
func TestLongLists(t *testing.T) {
	long := slices.Repeat([]int{2}, 1_000_000)
	if n, e := Count(long); n != 0 || e != api.Limit {
		t.Errorf("Count is %d, %v", n, e)
	}
	if n, ok := Index([]int{2, 3}, long); n != 0 || ok {
		t.Errorf("Index is %d, %v", n, ok)
	}
	if n, ok := Index(long, long); n != 0 || ok {
		t.Errorf("Index is %d, %v", n, ok)
	}
	if at, ok := At(long, 0); at != nil || ok {
		t.Errorf("At is %d numbers, %v", len(at), ok)
	}
	if s, ok := With(long, 999_999, 3); !ok || len(s) != 1_000_000 || s[999_999] != 3 {
		t.Errorf("With is %d lengths, %v", len(s), ok)
	}
	if s, ok := Without(long, 999_999); !ok || len(s) != 999_999 {
		t.Errorf("Without is %d lengths, %v", len(s), ok)
	}
}
