// Package label: see ../../shared/doc/01-label.md.
package label

import (
	"cmp"
	"slices"

	"parclose/api"
)

// Category is whether a number is one's.
func Category(c int) bool { return c >= 0 && c < api.Hosts*api.Categories }

// Good is whether a label is one: categories rising, each once, at other levels than the plain one.
func Good(l api.Label) bool {
	if len(l) > api.MaxLevels {
		return false
	}
	for i, v := range l {
		if !Category(v.C) || !inBounds(v.L) || v.L == api.Plain {
			return false
		}
		if i > 0 && l[i-1].C >= v.C {
			return false
		}
	}
	return true
}

// At is the level of a category.
func At(l api.Label, c int) int {
	for _, v := range l {
		if v.C == c {
			return v.L
		}
	}
	return api.Plain
}

// Flows is whether what has a label may come to what has another one, for one who owns some categories.
func Flows(a, b api.Label, own []int) bool {
	for _, c := range named(a, b) {
		if At(a, c) > At(b, c) && !slices.Contains(own, c) {
			return false
		}
	}
	return true
}

// Join is the least label that two may flow to.
func Join(a, b api.Label) api.Label { return combine(a, b, greater) }

// Meet is the greatest label that may flow to two.
func Meet(a, b api.Label) api.Label { return combine(a, b, lesser) }

// Set is a label with a category at a level.
func Set(l api.Label, c, level int) (api.Label, api.Errno) {
	if !Good(l) || !Category(c) || !inBounds(level) {
		return nil, api.ErrRange
	}
	front, behind := split(l, c)
	var changed api.Label
	if level != api.Plain {
		changed = api.Label{{C: c, L: level}}
	}
	// Only the outcome is measured: a full label may still change or lose a level.
	set := slices.Concat(front, changed, behind)
	if len(set) > api.MaxLevels {
		return nil, api.ErrFull
	}
	return set, api.OK
}

// Same is whether two labels are alike.
func Same(a, b api.Label) bool { return slices.Equal(a, b) }

// inBounds is whether a number is a level, the plain one among them.
func inBounds(level int) bool { return level >= 0 && level <= api.Top }

// named is the categories that one of two labels names, rising, each once.
// Labels that are not good are answered for, too, so that their own order is not relied on.
func named(a, b api.Label) []int {
	list := make([]int, 0, len(a)+len(b))
	for _, v := range a {
		list = append(list, v.C)
	}
	for _, v := range b {
		list = append(list, v.C)
	}
	slices.Sort(list)
	return slices.Compact(list)
}

// combine is the label of what pick makes of the levels of two labels, category by category.
func combine(a, b api.Label, pick func(x, y int) int) api.Label {
	var out api.Label
	for _, c := range named(a, b) {
		if level := pick(At(a, c), At(b, c)); level != api.Plain {
			out = append(out, api.Level{C: c, L: level})
		}
	}
	return out
}

func greater(x, y int) int { return max(x, y) }

func lesser(x, y int) int { return min(x, y) }

// split is what stands in a good label in front of a category, and what stands behind it.
func split(l api.Label, c int) (front, behind api.Label) {
	i, found := slices.BinarySearchFunc(l, c, func(v api.Level, c int) int { return cmp.Compare(v.C, c) })
	if found {
		return l[:i], l[i+1:]
	}
	return l[:i], l[i:]
}
