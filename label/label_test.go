package label

import (
	"math"
	"slices"
	"strconv"
	"strings"
	"testing"

	"scrim/api"
)

const full = math.MaxUint64

// samples are labels of all sorts: none, all, single tags, runs, gaps, and mixtures that a fixed rule makes.
func samples() []uint64 {
	l := []uint64{0, full, 1, 2, 3, 5, 7, 0xB, 1 << 63, 3 << 62, 7 << 61, 0x5555555555555555, 0xDB6DB6DB6DB6DB6D, 0xFFFFFFFF00000000, 0x639}
	x := uint64(1)
	for range 60 {
		x = x*6364136223846793005 + 1442695040888963407
		l = append(l, x, x&(x>>17), x|x<<1)
	}
	return l
}

// has is membership, told by the document's words alone: bit t of the word is 1.
func has(l uint64, t int) bool { return l>>t&1 == 1 }

// 1.1: Join and Meet, tag by tag.
func TestJoinMeet(t *testing.T) {
	for _, a := range samples() {
		for _, b := range samples() {
			j, m := Join(a, b), Meet(a, b)
			for tag := range api.MaxTags {
				if has(j, tag) != (has(a, tag) || has(b, tag)) {
					t.Fatalf("Join(%x, %x) = %x at %d", a, b, j, tag)
				}
				if has(m, tag) != (has(a, tag) && has(b, tag)) {
					t.Fatalf("Meet(%x, %x) = %x at %d", a, b, m, tag)
				}
			}
		}
	}
}

// 1.1: Flows, tag by tag, and its edges.
func TestFlows(t *testing.T) {
	for _, a := range samples() {
		for _, b := range samples() {
			want := true
			for tag := range api.MaxTags {
				want = want && (!has(a, tag) || has(b, tag))
			}
			if Flows(a, b) != want {
				t.Fatalf("Flows(%x, %x) isn't %v", a, b, want)
			}
		}
		if !Flows(0, a) || !Flows(a, a) || !Flows(a, full) || Flows(a, 0) != (a == 0) || Flows(full, a) != (a == full) {
			t.Fatalf("edges of Flows at %x", a)
		}
	}
	if !Flows(1, 3) || Flows(3, 1) || Flows(1<<63, full>>1) {
		t.Error("Flows of the ordinary")
	}
}

// 1.1: All is the join of all, of none the empty label; 1.1 and R4: it reads no more than it is given, and changes nothing.
func TestAll(t *testing.T) {
	if All(nil) != 0 || All([]uint64{}) != 0 || All([]uint64{0, 0}) != 0 {
		t.Error("All of none")
	}
	if All([]uint64{6}) != 6 || All([]uint64{1, 8, 1}) != 9 || All([]uint64{1 << 63, 1}) != 1<<63|1 || All([]uint64{0, full}) != full {
		t.Error("All of some")
	}
	given := []uint64{1, 2, 4, 8}
	if All(given[:2]) != 3 || !slices.Equal(given, []uint64{1, 2, 4, 8}) {
		t.Error("All and what it is given", given)
	}
	for tag := range api.MaxTags {
		l := make([]uint64, api.MaxTags)
		l[tag] = 1 << tag
		if All(l) != 1<<tag {
			t.Error("All at", tag)
		}
	}
}

// 1.1: May asks for a flow to the join of the other two.
func TestMay(t *testing.T) {
	type row struct {
		from, to, authority uint64
		may                 bool
	}
	for _, r := range []row{
		{5, 1, 4, true}, {5, 1, 2, false}, {5, 1, 0, false}, {5, 0, 5, true}, {5, 0, 4, false},
		{5, 4, 1, true}, {0, 0, 0, true}, {1, 0, 0, false}, {full, 0, full, true},
		{full, full >> 1, 1 << 63, true}, {full, full >> 1, 1 << 62, false}, {2, 5, 8, false},
	} {
		if May(r.from, r.to, r.authority) != r.may {
			t.Errorf("May(%x, %x, %x) isn't %v", r.from, r.to, r.authority, r.may)
		}
	}
	l := samples()
	for i, from := range l {
		to, authority := l[(i*7+3)%len(l)], l[(i*11+5)%len(l)]
		want := true
		for tag := range api.MaxTags {
			want = want && (!has(from, tag) || has(to, tag) || has(authority, tag))
		}
		if May(from, to, authority) != want {
			t.Errorf("May(%x, %x, %x) isn't %v", from, to, authority, want)
		}
	}
}

// 1.1: Size and Tags.
func TestSizeTags(t *testing.T) {
	if Size(0) != 0 || Size(full) != api.MaxTags || Size(7) != 3 || Size(1<<63) != 1 {
		t.Error("Size at its edges")
	}
	if len(Tags(0)) != 0 || !slices.Equal(Tags(0x8000000000000005), []int{0, 2, 63}) {
		t.Error("Tags at its edges")
	}
	for _, l := range samples() {
		var want []int
		for tag := range api.MaxTags {
			if has(l, tag) {
				want = append(want, tag)
			}
		}
		if !slices.Equal(Tags(l), want) || Size(l) != len(want) {
			t.Errorf("tags of %x: %v, %d", l, Tags(l), Size(l))
		}
	}
}

// R4: what Tags answers is the asker's own.
func TestTagsShareNothing(t *testing.T) {
	one, two := Tags(full), Tags(full)
	for i := range one {
		one[i] = -1
	}
	if two[0] != 0 || two[63] != 63 || Tags(full)[5] != 5 {
		t.Error("what one asker writes, another one sees")
	}
}

// 1.1: Of takes tags in any order and any number of times.
func TestOf(t *testing.T) {
	type row struct {
		tags []int
		l    uint64
	}
	for _, r := range []row{{nil, 0}, {[]int{}, 0}, {[]int{0}, 1}, {[]int{63}, 1 << 63}, {[]int{3, 0, 3, 3, 0}, 9}, {[]int{63, 0}, 1<<63 | 1}} {
		if l, ok := Of(r.tags); !ok || l != r.l {
			t.Error(r.tags, l, ok)
		}
	}
	for _, l := range samples() {
		tags := Tags(l)
		slices.Reverse(tags)
		if got, ok := Of(append(tags, Tags(l)...)); !ok || got != l {
			t.Errorf("Of the tags of %x: %x, %v", l, got, ok)
		}
	}
	given := []int{9, 2, 2, 64}
	if l, ok := Of(given[:3]); !ok || l != 0x204 || !slices.Equal(given, []int{9, 2, 2, 64}) {
		t.Error("Of and what it is given", l, ok, given)
	}
}

// 1.1: a tag that is none, wherever it stands, leaves 0 and false.
func TestOfRefuses(t *testing.T) {
	for _, bad := range []int{-1, 64, 65, 128, -64, 1 << 32, math.MinInt, math.MaxInt} {
		for _, tags := range [][]int{{bad}, {bad, 0}, {0, bad}, {0, bad, 63}, {1, 2, 3, bad}} {
			if l, ok := Of(tags); ok || l != 0 {
				t.Error(tags, l, ok)
			}
		}
	}
}

// texts are labels' texts as the document's words have them, each written out.
func texts() map[string][]int {
	return map[string][]int{
		"{}":                       nil,
		"{0}":                      {0},
		"{9}":                      {9},
		"{10}":                     {10},
		"{63}":                     {63},
		"{0,1}":                    {0, 1},
		"{62,63}":                  {62, 63},
		"{9,10}":                   {9, 10},
		"{0,2}":                    {0, 2},
		"{0-2}":                    {0, 1, 2},
		"{61-63}":                  {61, 62, 63},
		"{8-11}":                   {8, 9, 10, 11},
		"{0,1,3}":                  {0, 1, 3},
		"{0,2,3}":                  {0, 2, 3},
		"{0,1,3,4}":                {0, 1, 3, 4},
		"{0,1,3-5}":                {0, 1, 3, 4, 5},
		"{0-2,4,5}":                {0, 1, 2, 4, 5},
		"{0-2,4-6}":                {0, 1, 2, 4, 5, 6},
		"{0,3-5,9,10}":             {0, 3, 4, 5, 9, 10},
		"{1,20-22,30,31,60,62,63}": {1, 20, 21, 22, 30, 31, 60, 62, 63},
	}
}

// 1.2: Text and Parse at texts that are written out.
func TestText(t *testing.T) {
	for s, tags := range texts() {
		l, _ := Of(tags)
		if Text(l) != s {
			t.Error(tags, Text(l), "isn't", s)
		}
		if got, e := Parse(s); e != api.OK || got != l {
			t.Error(s, got, e)
		}
	}
	if Text(full) != "{0-63}" || Text(full>>1) != "{0-62}" || Text(full-1) != "{1-63}" {
		t.Error("Text of almost all")
	}
}

// plainText tells a label tag by tag: a tag within a run is left out, and the one behind such has a - ahead.
func plainText(l uint64) string {
	in := func(t int) bool { return t >= 0 && t < api.MaxTags && has(l, t) }
	var b strings.Builder
	for t := range api.MaxTags {
		switch {
		case !in(t) || in(t-1) && in(t+1):
		case b.Len() == 0:
			b.WriteString(strconv.Itoa(t))
		case in(t-1) && in(t-2):
			b.WriteString("-" + strconv.Itoa(t))
		default:
			b.WriteString("," + strconv.Itoa(t))
		}
	}
	return "{" + b.String() + "}"
}

// 1.2: each label has its text, which leads back to it.
func TestTextAndBack(t *testing.T) {
	check := func(l uint64) {
		s := Text(l)
		if s != plainText(l) {
			t.Fatalf("Text(%x) = %s, not %s", l, s, plainText(l))
		}
		if got, e := Parse(s); e != api.OK || got != l {
			t.Fatalf("Parse(%s) = %x, %v", s, got, e)
		}
	}
	for _, l := range samples() {
		check(l)
	}
	for low := range uint64(1 << 10) {
		for _, shift := range []int{0, 5, 54} {
			check(low << shift)
		}
	}
}

// refused tells a text that Parse must not take.
func refused(t *testing.T, s string) {
	t.Helper()
	if l, e := Parse(s); e != api.ErrText || l != 0 {
		t.Errorf("Parse(%q) = %x, %v", s, l, e)
	}
}

// 1.2: texts that aren't a label's, or not in the one way.
func TestParseRefuses(t *testing.T) {
	for _, s := range []string{
		"", "{", "}", "}{", "{{}}", "{}}", "{{}", "{},", " {}", "{} ", "{ }", "{}\n", "0", "0}", "{0", "0,1", "[0]", "{0}{1}", "{0},{1}",
		"{,}", "{1,}", "{,1}", "{1,,3}", "{1;3}", "{1, 3}", "{1 ,3}", "{ 1}", "{-}", "{0-}", "{-2}", "{-0}", "{0--2}", "{0-2-4}", "{0-2-}", "{,0-2}",
		"{00}", "{01}", "{007}", "{00-2}", "{0-02}", "{+1}", "{0-+2}", "{1_0}", "{0x1}", "{1.0}", "{a}", "{¯1}", "{٣}", "{1\x00}", "{\xff}", "\xff{}",
		"{1,0}", "{3,1,5}", "{1,1}", "{0-2,0-2}", "{0-2,2}", "{4-6,0-2}", "{0-4,2-6}",
		"{0-1}", "{5-5}", "{5-3}", "{2-0}", "{0,1,2}", "{0-2,3}", "{0,1-3}", "{0-2,3-5}", "{62-63}", "{0,1,2,3}",
		"{64}", "{63,64}", "{62-64}", "{0-64}", "{64-66}", "{100}", "{256}", "{18446744073709551616}", "{0-18446744073709551618}", "{4294967296}", "{99999999999999999999999999}",
	} {
		refused(t, s)
	}
}

// shortTexts are all labels' texts of at most seven bytes: of three tags at most, or of a run and one more.
func shortTexts() map[string]uint64 {
	m := map[string]uint64{}
	put := func(l uint64) {
		if s := plainText(l); len(s) <= 7 {
			m[s] = l
		}
	}
	put(0)
	for a := range api.MaxTags {
		for b := range api.MaxTags {
			run := uint64(0)
			for t := a; t <= b; t++ {
				run |= 1 << t
			}
			for c := range api.MaxTags {
				put(1<<a | 1<<b | 1<<c)
				put(run | 1<<c)
			}
		}
	}
	return m
}

// 1.2: of all short texts just those are taken that are a label's.
func TestParseShortTexts(t *testing.T) {
	right := shortTexts()
	taken := 0
	var try func(inner string)
	try = func(inner string) {
		s := "{" + inner + "}"
		want, ok := right[s]
		if !ok {
			refused(t, s)
		} else if l, e := Parse(s); e != api.OK || l != want {
			t.Errorf("Parse(%q) = %x, %v", s, l, e)
		} else {
			taken++
		}
		if len(inner) == 5 || t.Failed() {
			return
		}
		for _, c := range "012346-,+ }" {
			try(inner + string(c))
		}
	}
	try("")
	if taken < 100 {
		t.Error("few texts taken:", taken)
	}
}

// P1: long texts and all texts of two bytes end without a panic, with the zero label beside the error.
func TestParseEnds(t *testing.T) {
	for a := range 256 {
		for b := range 256 {
			if s := string([]byte{byte(a), byte(b)}); s != "{}" {
				refused(t, s)
			}
		}
	}
	const many = 1 << 16
	for _, part := range []string{"{", "}", ",", "-", "0", "9", "1,", "0-63,", "\xff"} {
		refused(t, "{"+strings.Repeat(part, many)+"}")
	}
}

// 1.3: the laws of a lattice.
func TestLattice(t *testing.T) {
	l := samples()
	for i, a := range l {
		for j, b := range l {
			c := l[(i*5+j*3+1)%len(l)]
			if Join(a, b) != Join(b, a) || Meet(a, b) != Meet(b, a) {
				t.Fatalf("order: %x %x", a, b)
			}
			if Join(a, Join(b, c)) != Join(Join(a, b), c) || Meet(a, Meet(b, c)) != Meet(Meet(a, b), c) {
				t.Fatalf("brackets: %x %x %x", a, b, c)
			}
			if Join(a, Meet(a, b)) != a || Meet(a, Join(a, b)) != a {
				t.Fatalf("taking in: %x %x", a, b)
			}
			if Flows(a, b) != (Join(a, b) == b) || Flows(a, b) != (Meet(a, b) == a) {
				t.Fatalf("flows: %x %x", a, b)
			}
			if !Flows(a, Join(a, b)) || !Flows(Meet(a, b), a) || All([]uint64{a, b, c}) != Join(a, Join(b, c)) {
				t.Fatalf("bounds: %x %x %x", a, b, c)
			}
		}
	}
}

// 1.3: what is released with no authority flows without it.
func TestMayWithoutAuthority(t *testing.T) {
	for _, a := range samples() {
		for _, b := range samples() {
			if May(a, b, 0) != Flows(a, b) {
				t.Fatalf("May(%x, %x, 0)", a, b)
			}
			if Flows(a, b) && !May(a, b, 2) || !May(a, b, a) || !May(a, b, full) {
				t.Fatalf("authority takes away: %x %x", a, b)
			}
		}
	}
}
