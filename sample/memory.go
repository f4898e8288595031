package sample

import (
	"slices"
	"strconv"

	"scrim/api"
)

// Roomy tells an array anew, whose lists have more behind their length.
func Roomy(a api.Array) api.Array {
	b := api.Array{S: a.S, Shape: room(a.Shape, 4), Cells: room(a.Cells, api.Cell{L: 64, Kind: api.Char, C: '!'})}
	for i, c := range b.Cells {
		c.N = api.Num{Neg: c.N.Neg, Top: room(c.N.Top, 9), Bot: room(c.N.Bot, 8)}
		c.In = room(c.In, api.Array{S: 64, Shape: []int{0}})
		for j := range c.In {
			c.In[j] = Roomy(c.In[j])
		}
		b.Cells[i] = c
	}
	return b
}

func room[T any](l []T, behind T) []T { return append(slices.Clone(l), behind, behind)[:len(l)] }

// Sharing tells what is wrong with the memory of what a call answers: of each list of it, it is looked whether what is
// written there is to be seen in another one, or in what was handed in. Nothing is wrong, if the text is empty.
func Sharing(call func(api.Array) api.Array, in api.Array) string {
	handed := lists(in)
	before := read(handed)
	for i := 0; ; i++ {
		answer := lists(call(in))
		if i >= len(answer) {
			return ""
		}
		want := read(answer)
		answer[i].write()
		for j, text := range read(answer) {
			if j != i && text != want[j] {
				return "two lists of an answer share memory"
			}
		}
		if !slices.Equal(read(handed), before) {
			return "what was handed in is changed, or shared"
		}
	}
}

// Memory tells what is wrong with a call's memory: what it answers must share none (Sharing), come again, and not hang on
// what lies behind a list's length. Nothing is wrong, if the text is empty.
func Memory(call func(api.Array) api.Array, a api.Array) string {
	in := Roomy(a)
	want := Text(call(a))
	if Text(call(in)) != want {
		return "what lies behind a list is read"
	}
	for _, handed := range []api.Array{a, in} {
		if fault := Sharing(call, handed); fault != "" {
			return fault
		}
		if Text(call(handed)) != want {
			return "what is told again is another one"
		}
	}
	return ""
}

// list is one of an array's lists, up to its capacity.
type list struct {
	read  func() string
	write func()
}

func listOf[T any](l []T, junk T, look func(T) string) list {
	l = l[:cap(l)]
	write := func() {
		for i := range l {
			l[i] = junk
		}
	}
	return list{read: func() string { return joined(l, look, ";") }, write: write}
}

// lists tells all lists of an array, each without what lies in it.
func lists(a api.Array) []list {
	l := []list{
		listOf(a.Shape, -77, strconv.Itoa),
		listOf(a.Cells, api.Cell{L: 7777, Kind: 77}, func(c api.Cell) string {
			return labelText("@", c.L) + joined([]int{c.Kind, len(c.N.Top), len(c.N.Bot), c.C, len(c.In)}, strconv.Itoa, " ")
		}),
	}
	for _, c := range a.Cells {
		for _, limbs := range [][]uint32{c.N.Top, c.N.Bot} {
			l = append(l, listOf(limbs, 7777777, func(n uint32) string { return strconv.Itoa(int(n)) }))
		}
		l = append(l, listOf(c.In, api.Array{S: 7777}, func(a api.Array) string {
			return labelText("^", a.S) + joined([]int{len(a.Shape), len(a.Cells)}, strconv.Itoa, " ")
		}))
		for _, in := range c.In {
			l = append(l, lists(in)...)
		}
	}
	return l
}

func read(l []list) []string {
	var texts []string
	for _, x := range l {
		texts = append(texts, x.read())
	}
	return texts
}
