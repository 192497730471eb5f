package label_test

import (
	"math"
	"slices"
	"testing"

	"parclose/api"
	"parclose/label"
)

const last = api.Hosts*api.Categories - 1

// full is a good label with as many levels as there may be, of the categories 0, 10, 20, ..
func full() api.Label {
	var l api.Label
	for i := range api.MaxLevels {
		l = append(l, api.Level{C: 10 * i, L: api.Top})
	}
	return l
}

// goods is every good label of three categories, the first and the last one among them.
func goods() []api.Label {
	var all []api.Label
	for n := range 64 {
		var l api.Label
		for i, c := range []int{0, 20, last} {
			if level := n >> (2 * i) & 3; level != api.Plain {
				l = append(l, api.Level{C: c, L: level})
			}
		}
		all = append(all, l)
	}
	return all
}

// wilds is lists of up to two levels, most of them no good labels: out of bounds, plain, falling, named twice.
func wilds() []api.Label {
	var one []api.Level
	for _, c := range []int{math.MinInt, -1, 0, last, last + 1, math.MaxInt} {
		for _, level := range []int{math.MinInt, -1, 0, api.Plain, api.Top, api.Top + 1, math.MaxInt} {
			one = append(one, api.Level{C: c, L: level})
		}
	}
	all := []api.Label{nil, {}}
	for i, v := range one {
		all = append(all, api.Label{v})
		for j := i % 3; j < len(one); j += 3 {
			all = append(all, api.Label{v, one[j]})
		}
	}
	return all
}

// P1.1
func TestCategory(t *testing.T) {
	for _, c := range []int{0, 1, 19, 20, last - 1, last} {
		if !label.Category(c) {
			t.Errorf("%d is a category", c)
		}
	}
	for _, c := range []int{math.MinInt, -1, last + 1, 1 << 32, math.MaxInt} {
		if label.Category(c) {
			t.Errorf("%d is no category", c)
		}
	}
}

// P1.1
func TestGood(t *testing.T) {
	for _, l := range []api.Label{
		nil,
		{},
		{{C: 0, L: 0}},
		{{C: 0, L: api.Top}},
		{{C: last, L: 2}},
		{{C: 0, L: 0}, {C: 1, L: 0}, {C: last, L: api.Top}},
		full(),
	} {
		if !label.Good(l) {
			t.Errorf("%v is good", l)
		}
	}
	for _, l := range []api.Label{
		{{C: -1, L: 0}},
		{{C: math.MinInt, L: 0}},
		{{C: last + 1, L: 0}},
		{{C: math.MaxInt, L: 0}},
		{{C: 5, L: -1}},
		{{C: 5, L: math.MinInt}},
		{{C: 5, L: api.Plain}},
		{{C: 5, L: api.Top + 1}},
		{{C: 5, L: math.MaxInt}},
		{{C: 5, L: 2}, {C: 5, L: 2}},
		{{C: 5, L: 2}, {C: 5, L: 3}},
		{{C: 6, L: 2}, {C: 5, L: 2}},
		{{C: 1, L: 2}, {C: 7, L: 2}, {C: 6, L: 2}},
		{{C: 1, L: 2}, {C: 7, L: 2}, {C: 8, L: api.Plain}},
		append(full(), api.Level{C: last, L: 0}),
	} {
		if label.Good(l) {
			t.Errorf("%v is not good", l)
		}
	}
}

// P1.2
func TestAt(t *testing.T) {
	l := api.Label{{C: 3, L: 0}, {C: 20, L: 3}, {C: last, L: 2}}
	for _, x := range []struct{ c, level int }{
		{3, 0}, {20, 3}, {last, 2},
		{0, api.Plain}, {4, api.Plain}, {last - 1, api.Plain},
		{-1, api.Plain}, {last + 1, api.Plain}, {math.MinInt, api.Plain}, {math.MaxInt, api.Plain},
	} {
		if got := label.At(l, x.c); got != x.level {
			t.Errorf("At(%d) = %d, want %d", x.c, got, x.level)
		}
	}
	if label.At(nil, 3) != api.Plain || label.At(api.Label{}, 3) != api.Plain {
		t.Error("of what names nothing every category is plain")
	}
}

// P1.2: labels that are not good
func TestAtFirstOneCounts(t *testing.T) {
	l := api.Label{{C: 9, L: 2}, {C: 4, L: 0}, {C: 9, L: 3}, {C: 4, L: 7}, {C: -1, L: -5}}
	for _, x := range []struct{ c, level int }{{9, 2}, {4, 0}, {-1, -5}, {5, api.Plain}} {
		if got := label.At(l, x.c); got != x.level {
			t.Errorf("At(%d) = %d, want %d", x.c, got, x.level)
		}
	}
	if got := label.At(append(full(), api.Level{C: last, L: 0}), last); got != 0 {
		t.Errorf("behind MaxLevels levels: %d", got)
	}
}

// P1.2
func TestSame(t *testing.T) {
	a, b := api.Level{C: 3, L: 0}, api.Level{C: 20, L: 3}
	for _, x := range []struct {
		one, other api.Label
		same       bool
	}{
		{nil, nil, true},
		{nil, api.Label{}, true},
		{api.Label{a, b}, api.Label{a, b}, true},
		{api.Label{b, b}, api.Label{b, b}, true},
		{nil, api.Label{a}, false},
		{api.Label{a}, api.Label{a, b}, false},
		{api.Label{b}, api.Label{a, b}, false},
		{api.Label{a, b}, api.Label{b, a}, false},
		{api.Label{a}, api.Label{a, a}, false},
		{api.Label{{C: 3, L: 0}}, api.Label{{C: 3, L: 2}}, false},
		{api.Label{{C: 3, L: 0}}, api.Label{{C: 4, L: 0}}, false},
		// Plain is said, though it means what is not said: the lists differ.
		{nil, api.Label{{C: 3, L: api.Plain}}, false},
	} {
		if label.Same(x.one, x.other) != x.same || label.Same(x.other, x.one) != x.same {
			t.Errorf("Same(%v, %v), want %v", x.one, x.other, x.same)
		}
	}
}

// P1.3
func TestFlows(t *testing.T) {
	low, two, high := api.Label{{C: 7, L: 0}}, api.Label{{C: 7, L: 2}}, api.Label{{C: 7, L: 3}}
	both := api.Label{{C: 7, L: 3}, {C: last, L: 3}}
	for _, x := range []struct {
		a, b  api.Label
		own   []int
		flows bool
	}{
		{nil, nil, nil, true},
		{api.Label{}, nil, []int{}, true},
		{low, nil, nil, true},
		{nil, low, nil, false},
		{nil, low, []int{7}, true},
		{nil, two, nil, true},
		{two, nil, nil, false},
		{two, two, nil, true},
		{two, high, nil, true},
		{high, two, nil, false},
		{high, two, []int{7}, true},
		{high, two, []int{6, 8}, false},
		{high, two, []int{}, false},
		{high, low, []int{9, 7, 7, -1}, true},
		{both, nil, []int{7}, false},
		{both, nil, []int{last}, false},
		{both, nil, []int{last, 7}, true},
		{both, high, nil, false},
		{high, both, nil, true},
		{two, api.Label{{C: 8, L: 3}}, nil, false},
		{full(), full(), nil, true},
		{full(), full()[:api.MaxLevels-1], nil, false},
		{full(), full()[:api.MaxLevels-1], []int{10 * (api.MaxLevels - 1)}, true},
	} {
		if label.Flows(x.a, x.b, x.own) != x.flows {
			t.Errorf("Flows(%v, %v, %v), want %v", x.a, x.b, x.own, x.flows)
		}
	}
}

// P1.3: labels that are not good, of which the first level of a category counts
func TestFlowsOfNoGoodLabels(t *testing.T) {
	for _, x := range []struct {
		a, b  api.Label
		own   []int
		flows bool
	}{
		{api.Label{{C: 5, L: 0}, {C: 5, L: 3}}, nil, nil, true},
		{api.Label{{C: 5, L: 3}, {C: 5, L: 0}}, nil, nil, false},
		{nil, api.Label{{C: 5, L: 3}, {C: 5, L: 0}}, nil, true},
		{nil, api.Label{{C: 5, L: 0}, {C: 5, L: 3}}, nil, false},
		{api.Label{{C: 9, L: 3}, {C: 2, L: 2}}, api.Label{{C: 2, L: 2}, {C: 9, L: 3}}, nil, true},
		{api.Label{{C: 9, L: 3}, {C: 2, L: 3}}, api.Label{{C: 2, L: 2}, {C: 9, L: 3}}, nil, false},
		{api.Label{{C: 5, L: api.Plain}}, nil, nil, true},
		{nil, api.Label{{C: 5, L: api.Plain}}, nil, true},
		{api.Label{{C: 5, L: math.MaxInt}}, api.Label{{C: 5, L: math.MinInt}}, nil, false},
		{api.Label{{C: 5, L: math.MinInt}}, api.Label{{C: 5, L: math.MaxInt}}, nil, true},
		{api.Label{{C: -1, L: 2}}, nil, nil, false},
		{api.Label{{C: last + 1, L: 2}}, nil, []int{last + 1}, true},
	} {
		if label.Flows(x.a, x.b, x.own) != x.flows {
			t.Errorf("Flows(%v, %v, %v), want %v", x.a, x.b, x.own, x.flows)
		}
	}
}

// P1.4
func TestJoinMeet(t *testing.T) {
	more := api.Label{{C: 1, L: 3}, {C: 11, L: 0}, {C: last, L: 2}}
	for _, x := range []struct{ a, b, join, meet api.Label }{
		{nil, nil, nil, nil},
		{nil, api.Label{}, nil, nil},
		{api.Label{{C: 7, L: 3}}, nil, api.Label{{C: 7, L: 3}}, nil},
		{api.Label{{C: 7, L: 0}}, nil, nil, api.Label{{C: 7, L: 0}}},
		{api.Label{{C: 7, L: 0}}, api.Label{{C: 7, L: 3}}, api.Label{{C: 7, L: 3}}, api.Label{{C: 7, L: 0}}},
		{api.Label{{C: 7, L: 2}}, api.Label{{C: 7, L: 3}}, api.Label{{C: 7, L: 3}}, api.Label{{C: 7, L: 2}}},
		{api.Label{{C: 7, L: 0}}, api.Label{{C: 3, L: 2}}, api.Label{{C: 3, L: 2}}, api.Label{{C: 7, L: 0}}},
		{api.Label{{C: last, L: 2}}, api.Label{{C: 0, L: 3}}, api.Label{{C: 0, L: 3}, {C: last, L: 2}}, nil},
		{full(), full(), full(), full()},
		// More than MaxLevels may come of two good labels: it is told whole.
		{full(), more, slices.Insert(append(full(), api.Level{C: last, L: 2}), 1, api.Level{C: 1, L: 3}), api.Label{{C: 11, L: 0}}},
		// Labels that are not good: falling, named twice, plain, out of bounds.
		{api.Label{{C: 9, L: 2}, {C: 4, L: 3}, {C: 9, L: 0}}, nil, api.Label{{C: 4, L: 3}, {C: 9, L: 2}}, nil},
		{api.Label{{C: 9, L: 0}, {C: 4, L: 0}, {C: 9, L: 2}}, nil, nil, api.Label{{C: 4, L: 0}, {C: 9, L: 0}}},
		{api.Label{{C: 5, L: api.Plain}}, api.Label{{C: 5, L: api.Plain}}, nil, nil},
		{api.Label{{C: -1, L: 9}}, api.Label{{C: last + 1, L: -9}}, api.Label{{C: -1, L: 9}}, api.Label{{C: last + 1, L: -9}}},
	} {
		if got := label.Join(x.a, x.b); !slices.Equal(got, x.join) {
			t.Errorf("Join(%v, %v) = %v, want %v", x.a, x.b, got, x.join)
		}
		if got := label.Meet(x.a, x.b); !slices.Equal(got, x.meet) {
			t.Errorf("Meet(%v, %v) = %v, want %v", x.a, x.b, got, x.meet)
		}
	}
	if got := label.Join(full(), more); len(got) != api.MaxLevels+2 {
		t.Errorf("more than MaxLevels: %v", got)
	}
}

// P1.3, P1.4: for all good labels of some categories, Join and Meet are the bounds of the order that Flows is.
func TestOrder(t *testing.T) {
	all := goods()
	for _, a := range all {
		for _, b := range all {
			there, back := label.Flows(a, b, nil), label.Flows(b, a, nil)
			if (there && back) != label.Same(a, b) {
				t.Fatalf("%v and %v flow to one another: only the same may", a, b)
			}
			join, meet := label.Join(a, b), label.Meet(a, b)
			if !label.Good(join) || !label.Good(meet) {
				t.Fatalf("%v, %v: %v, %v are not good", a, b, join, meet)
			}
			for _, c := range all {
				above := label.Flows(a, c, nil) && label.Flows(b, c, nil)
				below := label.Flows(c, a, nil) && label.Flows(c, b, nil)
				if label.Flows(join, c, nil) != above || label.Flows(c, meet, nil) != below {
					t.Fatalf("%v, %v, %v: %v is not the least above, or %v not the greatest below", a, b, c, join, meet)
				}
			}
		}
	}
}

// P1.2, P1.3, P1.4 at lists of all kinds: category by category, by At.
func TestWildLists(t *testing.T) {
	all := wilds()
	for i, a := range all {
		for j := i % 7; j < len(all); j += 7 {
			checkPair(t, a, all[j])
		}
	}
}

func checkPair(t *testing.T, a, b api.Label) {
	t.Helper()
	flows := true
	var join, meet api.Label
	for _, c := range []int{math.MinInt, -1, 0, last, last + 1, math.MaxInt} {
		x, y := label.At(a, c), label.At(b, c)
		flows = flows && x <= y
		if greater := max(x, y); greater != api.Plain {
			join = append(join, api.Level{C: c, L: greater})
		}
		if lesser := min(x, y); lesser != api.Plain {
			meet = append(meet, api.Level{C: c, L: lesser})
		}
	}
	if label.Flows(a, b, nil) != flows {
		t.Fatalf("Flows(%v, %v), want %v", a, b, flows)
	}
	if got := label.Join(a, b); !slices.Equal(got, join) {
		t.Fatalf("Join(%v, %v) = %v, want %v", a, b, got, join)
	}
	if got := label.Meet(a, b); !slices.Equal(got, meet) {
		t.Fatalf("Meet(%v, %v) = %v, want %v", a, b, got, meet)
	}
}

// P1.5
func TestSet(t *testing.T) {
	l := api.Label{{C: 3, L: 0}, {C: 20, L: 3}}
	for _, x := range []struct {
		l        api.Label
		c, level int
		want     api.Label
	}{
		{nil, 0, 0, api.Label{{C: 0, L: 0}}},
		{nil, last, api.Top, api.Label{{C: last, L: api.Top}}},
		{nil, 5, api.Plain, nil},
		{api.Label{}, 5, 2, api.Label{{C: 5, L: 2}}},
		{l, 0, 2, api.Label{{C: 0, L: 2}, {C: 3, L: 0}, {C: 20, L: 3}}},
		{l, 4, 2, api.Label{{C: 3, L: 0}, {C: 4, L: 2}, {C: 20, L: 3}}},
		{l, last, 2, api.Label{{C: 3, L: 0}, {C: 20, L: 3}, {C: last, L: 2}}},
		{l, 3, 2, api.Label{{C: 3, L: 2}, {C: 20, L: 3}}},
		{l, 20, 0, api.Label{{C: 3, L: 0}, {C: 20, L: 0}}},
		{l, 20, 3, l},
		{l, 3, api.Plain, api.Label{{C: 20, L: 3}}},
		{l, 20, api.Plain, api.Label{{C: 3, L: 0}}},
		{l, 4, api.Plain, l},
		{full()[1:], 0, api.Top, full()},
		{full(), 5, api.Plain, full()},
		{full(), 0, api.Plain, full()[1:]},
		{full(), 0, api.Top, full()},
	} {
		got, e := label.Set(x.l, x.c, x.level)
		if e != api.OK || !slices.Equal(got, x.want) {
			t.Errorf("Set(%v, %d, %d) = %v, %d, want %v", x.l, x.c, x.level, got, e, x.want)
		}
	}
	for _, v := range full() {
		got, e := label.Set(full(), v.C, 0)
		if e != api.OK || len(got) != api.MaxLevels || label.At(got, v.C) != 0 {
			t.Errorf("a level of a full label changed: %v, %d", got, e)
		}
	}
}

// P1.5: every good label of some categories, every category of theirs, every level
func TestSetThenAt(t *testing.T) {
	for _, l := range goods() {
		for c := -1; c <= last+1; c++ {
			for level := -1; level <= api.Top+1; level++ {
				got, e := label.Set(l, c, level)
				if c < 0 || c > last || level < 0 || level > api.Top {
					if e != api.ErrRange || len(got) != 0 {
						t.Fatalf("Set(%v, %d, %d) = %v, %d", l, c, level, got, e)
					}
					continue
				}
				if e != api.OK || !label.Good(got) || label.At(got, c) != level {
					t.Fatalf("Set(%v, %d, %d) = %v, %d", l, c, level, got, e)
				}
				if back, e := label.Set(got, c, label.At(l, c)); e != api.OK || !label.Same(back, l) {
					t.Fatalf("Set(%v, %d, %d) changed more: %v", l, c, level, got)
				}
			}
		}
	}
}

// P1.5
func TestSetErrors(t *testing.T) {
	long := append(full(), api.Level{C: last, L: 0})
	for _, x := range []struct {
		l        api.Label
		c, level int
		want     api.Errno
	}{
		{nil, -1, 2, api.ErrRange},
		{nil, last + 1, 2, api.ErrRange},
		{nil, math.MinInt, 2, api.ErrRange},
		{nil, math.MaxInt, 2, api.ErrRange},
		{nil, -1, api.Plain, api.ErrRange},
		{nil, 5, -1, api.ErrRange},
		{nil, 5, api.Top + 1, api.ErrRange},
		{nil, 5, math.MinInt, api.ErrRange},
		{nil, 5, math.MaxInt, api.ErrRange},
		{api.Label{{C: 5, L: api.Plain}}, 5, 2, api.ErrRange},
		{api.Label{{C: 5, L: api.Top + 1}}, 5, 2, api.ErrRange},
		{api.Label{{C: -1, L: 2}}, 5, 2, api.ErrRange},
		{api.Label{{C: last + 1, L: 2}}, 5, 2, api.ErrRange},
		{api.Label{{C: 6, L: 2}, {C: 5, L: 2}}, 5, 2, api.ErrRange},
		{api.Label{{C: 5, L: 2}, {C: 5, L: 2}}, 5, api.Plain, api.ErrRange},
		{long, 5, 2, api.ErrRange},
		{long, last, api.Plain, api.ErrRange},
		{full(), 5, 0, api.ErrFull},
		{full(), last, api.Top, api.ErrFull},
		// Both errors apply: the one that is named first is told.
		{full(), last + 1, 2, api.ErrRange},
		{full(), 5, api.Top + 1, api.ErrRange},
		{full(), 5, -1, api.ErrRange},
	} {
		got, e := label.Set(x.l, x.c, x.level)
		if e != x.want || len(got) != 0 {
			t.Errorf("Set(%v, %d, %d) = %v, %d, want %d", x.l, x.c, x.level, got, e, x.want)
		}
	}
}

// spared is a list with spare room that is filled, so that a write into it is seen.
func spared[E any](list []E, mark E) []E {
	out := slices.Clone(list)
	for range 4 {
		out = append(out, mark)
	}
	return out[:len(list)]
}

func whole[E any](list []E) []E { return list[:cap(list)] }

// Lists that are handed in are not changed, their spare room neither.
func TestHandedInStays(t *testing.T) {
	mark := api.Level{C: 77, L: 2}
	for _, x := range []struct{ a, b api.Label }{
		{nil, nil},
		{api.Label{{C: 3, L: 0}, {C: 20, L: 3}}, api.Label{{C: 3, L: 2}, {C: 40, L: 2}}},
		{api.Label{{C: 20, L: 3}, {C: 3, L: 0}, {C: 20, L: 3}}, api.Label{{C: 9, L: 1}, {C: 8, L: 7}}},
		{full(), full()},
	} {
		a, b, own := spared(x.a, mark), spared(x.b, mark), spared([]int{40, 3, 3}, 77)
		wasA, wasB, wasOwn := slices.Clone(whole(a)), slices.Clone(whole(b)), slices.Clone(whole(own))
		label.Good(a)
		label.At(a, 20)
		label.Same(a, b)
		label.Flows(a, b, own)
		label.Join(a, b)
		label.Meet(a, b)
		for c := range last + 1 {
			for level := range api.Top + 1 {
				label.Set(a, c, level)
			}
		}
		if !slices.Equal(whole(a), wasA) || !slices.Equal(whole(b), wasB) || !slices.Equal(whole(own), wasOwn) {
			t.Errorf("%v, %v: changed to %v, %v, %v", x.a, x.b, whole(a), whole(b), whole(own))
		}
	}
}

// What is answered may be written to, without a change of what was handed in.
func TestAnswersAreNew(t *testing.T) {
	mark := api.Level{C: 77, L: 2}
	a, b := spared(api.Label{{C: 3, L: 0}, {C: 20, L: 3}}, mark), spared(api.Label{{C: 3, L: 0}, {C: 20, L: 3}}, mark)
	was := slices.Clone(whole(a))
	answers := []api.Label{label.Join(a, b), label.Meet(a, b), label.Join(a, nil), label.Meet(nil, a)}
	for c := range last + 1 {
		for level := range api.Top + 1 {
			l, _ := label.Set(a, c, level)
			answers = append(answers, l)
		}
	}
	for _, l := range answers {
		for i := range whole(l) {
			whole(l)[i] = api.Level{C: 6, L: 6}
		}
	}
	if !slices.Equal(whole(a), was) || !slices.Equal(whole(b), was) {
		t.Errorf("changed to %v, %v", whole(a), whole(b))
	}
}
