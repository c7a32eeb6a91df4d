package plan

import (
	"slices"

	"portcullis/addr"
	"portcullis/api"
	"portcullis/judge"
)

// Sides of a box of keys.
const (
	waySide = iota
	kindSide
	srcSide
	fromSide
	dstSide
	toSide
	sides
)

// point is a key and a way, as the number that it has on each side.
type point [sides]int

// box of keys and ways: the ends of each of its sides.
type box [sides][2]int

// stretch of one side, whose numbers are all alike to the rules: bit n of fits is rule n's.
type stretch struct {
	ends [2]int
	fits uint
}

// class is a box of keys that just the same rules fit.
type class struct {
	keys box
	fits uint
}

// spans of the numbers of one side that a rule fits; none: it fits all.
type spans func(r api.Rule) [][2]int

// whole is the box of all keys and ways.
func whole() box {
	return box{
		waySide:  {api.In, api.Out},
		kindSide: {0, judge.MaxKind},
		srcSide:  {0, api.MaxAddr},
		fromSide: {0, api.MaxPort},
		dstSide:  {0, api.MaxAddr},
		toSide:   {0, api.MaxPort},
	}
}

// asked is what rules ask for on each side.
func asked() [sides]spans {
	return [sides]spans{
		waySide:  func(r api.Rule) [][2]int { return only(r.Way) },
		kindSide: func(r api.Rule) [][2]int { return only(r.Kind) },
		srcSide:  func(r api.Rule) [][2]int { return inside(r.Src) },
		fromSide: func(r api.Rule) [][2]int { return r.From },
		dstSide:  func(r api.Rule) [][2]int { return inside(r.Dst) },
		toSide:   func(r api.Rule) [][2]int { return r.To },
	}
}

func only(n int) [][2]int {
	if n == api.Any {
		return nil
	}
	return [][2]int{{n, n}}
}

func inside(p api.Prefix) [][2]int {
	low, high := addr.Ends(p)
	return [][2]int{{low, high}}
}

func pointOf(k api.Key, way int) point {
	return point{waySide: way, kindSide: k.Kind, srcSide: k.Src, fromSide: k.From, dstSide: k.Dst, toSide: k.To}
}

// lowest is the key and the way in a box that have the least number on each side.
func lowest(b box) (api.Key, int) {
	k := api.Key{
		Kind: b[kindSide][0],
		Src:  b[srcSide][0],
		From: b[fromSide][0],
		Dst:  b[dstSide][0],
		To:   b[toSide][0],
	}
	return k, b[waySide][0]
}

// cut makes stretches of a whole side, rising.
func cut(side [2]int, l []api.Rule, of spans) []stretch {
	var all []stretch
	for _, low := range starts(side[0], l, of) {
		if low > side[1] {
			break
		}
		if last := len(all) - 1; last >= 0 {
			all[last].ends[1] = low - 1
		}
		all = append(all, stretch{[2]int{low, side[1]}, fitting(low, l, of)})
	}
	return all
}

// starts are the numbers from which on a rule may fit or not, other than just below: each once, rising.
func starts(least int, l []api.Rule, of spans) []int {
	all := []int{least}
	for _, r := range l {
		for _, s := range of(r) {
			all = append(all, s[0], s[1]+1)
		}
	}
	slices.Sort(all)
	return slices.Compact(all)
}

// fitting tells, as bits, which rules fit a number on a side.
func fitting(at int, l []api.Rule, of spans) uint {
	fits := uint(0)
	for n, r := range l {
		some := of(r)
		if len(some) == 0 || slices.ContainsFunc(some, func(s [2]int) bool { return s[0] <= at && at <= s[1] }) {
			fits |= 1 << n
		}
	}
	return fits
}

// find the stretch that has a number.
func find(l []stretch, number int) (stretch, bool) {
	at, ok := slices.BinarySearchFunc(l, number, func(s stretch, number int) int {
		switch {
		case s.ends[1] < number:
			return -1
		case s.ends[0] > number:
			return 1
		}
		return 0
	})
	if !ok {
		return stretch{}, false
	}
	return l[at], true
}

// narrow cuts classes by the stretches of one side. Of the boxes that the same rules fit one is enough: the sides yet to come cut it as they would cut the others.
func narrow(l []class, side int, by []stretch) []class {
	var all []class
	known := map[uint]struct{}{}
	for _, c := range l {
		for _, s := range by {
			fits := c.fits & s.fits
			if _, ok := known[fits]; ok {
				continue
			}
			known[fits] = struct{}{}
			keys := c.keys
			keys[side] = s.ends
			all = append(all, class{keys, fits})
		}
	}
	return all
}
