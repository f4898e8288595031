// Package label is layer 1: see shared/doc/01-label.md.
package label

import (
	"math/bits"
	"strconv"
	"strings"

	"scrim/api"
)

// Join tells the least label that both flow to.
func Join(a, b uint64) uint64 { return a | b }

// Meet tells the greatest label that flows to both.
func Meet(a, b uint64) uint64 { return a & b }

// Flows tells whether a label may flow to another one.
func Flows(a, b uint64) bool { return a&^b == 0 }

// All tells the join of labels.
func All(l []uint64) uint64 {
	var all uint64
	for _, one := range l {
		all = Join(all, one)
	}
	return all
}

// May tells whether an authority may release from a label to another one.
func May(from, to, authority uint64) bool { return Flows(from, Join(to, authority)) }

// Size tells how many tags a label has.
func Size(l uint64) int { return bits.OnesCount64(l) }

// Tags tells a label's tags, rising.
func Tags(l uint64) []int {
	tags := make([]int, 0, Size(l))
	for ; l != 0; l &= l - 1 {
		tags = append(tags, bits.TrailingZeros64(l))
	}
	return tags
}

// Of tells the label of tags; false: one is none.
func Of(tags []int) (uint64, bool) {
	var l uint64
	for _, tag := range tags {
		if tag < 0 || tag >= api.MaxTags {
			return 0, false
		}
		l |= 1 << tag
	}
	return l, true
}

// Text tells a label as text: its tags, runs of three and more by their ends.
func Text(l uint64) string {
	out := []byte{'{'}
	for tags := Tags(l); len(tags) > 0; {
		if len(out) > 1 {
			out = append(out, ',')
		}
		n := runLength(tags)
		out = appendRun(out, tags[0], tags[n-1])
		tags = tags[n:]
	}
	return string(append(out, '}'))
}

// runLength tells how many tags, from the first one on, follow one another.
func runLength(tags []int) int {
	n := 1
	for n < len(tags) && tags[n] == tags[n-1]+1 {
		n++
	}
	return n
}

// appendRun tells the tags from first to last.
func appendRun(out []byte, first, last int) []byte {
	switch last - first {
	case 1: // two are told as two, for a run's ends would be no shorter
		out = appendTag(out, first)
		out = append(out, ',')
		fallthrough
	case 0:
		return appendTag(out, last)
	default:
		out = appendTag(out, first)
		out = append(out, '-')
		return appendTag(out, last)
	}
}

func appendTag(out []byte, tag int) []byte { return strconv.AppendInt(out, int64(tag), 10) }

// Parse tells the label whose text this is.
func Parse(s string) (uint64, api.Errno) {
	rest, _ := strings.CutPrefix(s, "{")
	rest, _ = strings.CutSuffix(rest, "}")
	var l uint64
	for rest != "" {
		var part string
		part, rest, _ = strings.Cut(rest, ",")
		run, ok := readRun(part)
		if !ok {
			return 0, api.ErrText
		}
		l = Join(l, run)
	}
	// Up to here more is read than labels' texts: a label has but one of them, and this must be it.
	if Text(l) != s {
		return 0, api.ErrText
	}
	return l, api.OK
}

// readRun tells the label of one tag, or of those from a first to a last one: of none, if the last one is below.
func readRun(part string) (uint64, bool) {
	head, tail, two := strings.Cut(part, "-")
	if !two {
		tail = head
	}
	first, ok := readTag(head)
	last, fine := readTag(tail)
	if !ok || !fine {
		return 0, false
	}
	return upTo(last) &^ (upTo(first) >> 1), true
}

// upTo tells the label of the tags from 0 to this one.
func upTo(tag uint64) uint64 { return ^uint64(0) >> (api.MaxTags - 1 - tag) }

func readTag(s string) (uint64, bool) {
	tag, err := strconv.ParseUint(s, 10, 64)
	return tag, err == nil && tag < api.MaxTags
}
