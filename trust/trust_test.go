package trust_test

import (
	"math"
	"math/rand"
	"slices"
	"testing"

	"parclose/api"
	"parclose/trust"
	"parclose/wire"
)

const (
	lastHost     = api.Hosts - 1
	lastCategory = api.Hosts*api.Categories - 1
)

// beyond is numbers out of the bounds of what goes from 0 to last.
func beyond(last int) []int {
	return []int{math.MinInt, -1 << 32, -256, -1, last + 1, last + 256, last + 1<<32, math.MaxInt}
}

// certs is n good certs, each once.
func certs(n int) []api.Cert {
	var list []api.Cert
	for i := range n {
		list = append(list, api.Cert{C: i % 7, By: i % api.Hosts, Host: (i + 1) % api.Hosts, Until: 100 + i})
	}
	return list
}

// by is a cert of a category, by a host for another one.
func by(c, from, to, until int) api.Cert {
	return api.Cert{C: c, By: from, Host: to, Until: until}
}

// badCerts is certs that are not good, in one way each.
func badCerts() []api.Cert {
	bad := []api.Cert{{}, by(4, 2, 2, 5), by(4, lastHost, lastHost, 5)}
	for _, n := range beyond(lastCategory) {
		bad = append(bad, by(n, 0, 1, 5))
	}
	for _, n := range beyond(lastHost) {
		bad = append(bad, by(4, n, 1, 5), by(4, 1, n, 5))
	}
	for _, n := range beyond(api.MaxTime) {
		bad = append(bad, by(4, 0, 1, n))
	}
	return bad
}

// badLists is lists that are not good, in one way each.
func badLists() [][]api.Cert {
	bad := [][]api.Cert{
		certs(api.MaxCerts + 1),
		certs(1000),
		{by(25, 1, 3, 9), by(25, 1, 3, 9)},
		append(certs(api.MaxCerts-1), certs(1)...),
		append(certs(api.MaxCerts-1), certs(api.MaxCerts - 1)[api.MaxCerts-2]),
		make([]api.Cert, 1),
		make([]api.Cert, api.MaxCerts),
	}
	for _, c := range badCerts() {
		bad = append(bad, []api.Cert{c}, append(certs(5), c), append([]api.Cert{c}, certs(5)...), slices.Insert(certs(5), 2, c))
	}
	return bad
}

// P4.1
func TestGood(t *testing.T) {
	for _, l := range [][]api.Cert{
		nil,
		{},
		{by(0, 0, 1, 0)},
		{by(0, 1, 0, 0)},
		{by(lastCategory, lastHost, 0, api.MaxTime)},
		{by(lastCategory, 0, lastHost, api.MaxTime), by(0, 0, 1, 0)},
		certs(2),
		certs(api.MaxCerts - 1),
		certs(api.MaxCerts),
	} {
		if !trust.Good(l) {
			t.Errorf("%v is good", l)
		}
	}
	for _, l := range badLists() {
		if trust.Good(l) {
			t.Errorf("%v is not good", l)
		}
	}
}

// P4.1: certs are the same only if all of them is.
func TestGoodNearlyTheSame(t *testing.T) {
	one := by(25, 1, 3, 9)
	for _, other := range []api.Cert{by(26, 1, 3, 9), by(25, 0, 3, 9), by(25, 1, 0, 9), by(25, 1, 3, 10), by(25, 3, 1, 9)} {
		l := []api.Cert{one, other}
		if !trust.Good(l) {
			t.Errorf("%v is good", l)
		}
		if got, e := trust.Add([]api.Cert{one}, other); e != api.OK || !slices.Equal(got, l) {
			t.Errorf("%v to %v: %v, %d", other, one, got, e)
		}
		if trust.Good([]api.Cert{one, other, one}) || trust.Good([]api.Cert{other, one, one}) || trust.Good([]api.Cert{one, one, other}) {
			t.Errorf("%v stands twice beside %v", one, other)
		}
	}
}

// P4.1: cert by cert, each stands behind, up to MaxCerts; one more is refused.
func TestAdd(t *testing.T) {
	all := certs(api.MaxCerts + 1)
	var l []api.Cert
	for i := range api.MaxCerts {
		got, e := trust.Add(l, all[i])
		if e != api.OK || !slices.Equal(got, all[:i+1]) {
			t.Fatalf("%v to %v: %v, %d", all[i], l, got, e)
		}
		l = got
	}
	if got, e := trust.Add(l, all[api.MaxCerts]); len(got) != 0 || e != api.ErrFull {
		t.Errorf("one more: %v, %d", got, e)
	}
	if got, e := trust.Add([]api.Cert{}, by(lastCategory, lastHost, 0, api.MaxTime)); e != api.OK || !slices.Equal(got, []api.Cert{by(lastCategory, lastHost, 0, api.MaxTime)}) {
		t.Errorf("to nothing: %v, %d", got, e)
	}
}

// P4.1: a cert that is there changes nothing, also when there is no room.
func TestAddWhatIsThere(t *testing.T) {
	for _, n := range []int{1, 2, 5, api.MaxCerts - 1, api.MaxCerts} {
		for _, c := range certs(n) {
			if got, e := trust.Add(certs(n), c); e != api.OK || !slices.Equal(got, certs(n)) {
				t.Errorf("%v to %d: %v, %d", c, n, got, e)
			}
		}
	}
}

// P4.1: nobody asks whether the one who certifies is trusted, nor whether the time is over.
func TestAddOfNobodyTrusted(t *testing.T) {
	for _, c := range []api.Cert{by(25, 2, 3, 9), by(25, 3, 1, 0), by(0, lastHost, 0, 0)} {
		if got, e := trust.Add(certs(3), c); e != api.OK || !slices.Equal(got, append(certs(3), c)) {
			t.Errorf("%v: %v, %d", c, got, e)
		}
	}
}

// P4.1: what is not good is refused first, whether there is room or not, whether the cert is there or not.
func TestAddErrors(t *testing.T) {
	refused := func(l []api.Cert, c api.Cert) {
		t.Helper()
		if got, e := trust.Add(l, c); len(got) != 0 || e != api.ErrRange {
			t.Errorf("%v to %v: %v, %d", c, l, got, e)
		}
	}
	for _, c := range badCerts() {
		for _, n := range []int{0, 1, api.MaxCerts - 1, api.MaxCerts, api.MaxCerts + 1} {
			refused(certs(n), c)
		}
		refused([]api.Cert{c}, c)
	}
	for _, l := range badLists() {
		refused(l, by(70, 0, 1, 5))
		refused(l, l[0])
		refused(l, l[len(l)-1])
		refused(l, api.Cert{})
	}
}

// P4.2
func TestHome(t *testing.T) {
	for c := range lastCategory + 1 {
		h := 0
		for h < lastHost && c >= (h+1)*api.Categories {
			h++
		}
		if got := trust.Home(c); got != h {
			t.Errorf("%d: %d, not %d", c, got, h)
		}
	}
	for _, v := range []struct{ c, want int }{
		{0, 0}, {19, 0}, {20, 1}, {39, 1}, {40, 2}, {60, 3}, {79, 3},
		// These are numbers, but no categories.
		{80, 4}, {99, 4}, {100, 5}, {1 << 40, 54975581388}, {math.MaxInt, 461168601842738790},
	} {
		if got := trust.Home(v.c); got != v.want {
			t.Errorf("%d: %d, not %d", v.c, got, v.want)
		}
	}
	for _, c := range []int{-1, -20, math.MinInt} {
		trust.Home(c) // nothing is said of these, but that it ends
	}
}

// hosts is an array of truths that names those that are trusted.
func hosts(list ...int) [api.Hosts]bool {
	var in [api.Hosts]bool
	for _, h := range list {
		in[h] = true
	}
	return in
}

// trusts holds Trusted to an answer, whatever the order of the certs.
func trusts(t *testing.T, l []api.Cert, c, now int, want ...int) {
	t.Helper()
	for _, order := range orders(l) {
		if got := trust.Trusted(order, c, now); got != hosts(want...) {
			t.Errorf("%v: %d at %d: %v, not %v", order, c, now, got, want)
		}
	}
}

// orders is all orders of a short list, of a long one itself and turned round.
func orders(l []api.Cert) [][]api.Cert {
	if len(l) > 6 {
		back := slices.Clone(l)
		slices.Reverse(back)
		return [][]api.Cert{l, back}
	}
	all := [][]api.Cert{nil}
	for _, c := range l {
		var more [][]api.Cert
		for _, order := range all {
			for i := range len(order) + 1 {
				more = append(more, slices.Insert(slices.Clone(order), i, c))
			}
		}
		all = more
	}
	return all
}

// P4.2: the host that makes a category needs no cert, at no time.
func TestTrustedHome(t *testing.T) {
	for c := range lastCategory + 1 {
		for _, now := range []int{math.MinInt, -1, 0, 1, api.MaxTime, api.MaxTime + 1, math.MaxInt} {
			trusts(t, nil, c, now, c/api.Categories)
		}
	}
	trusts(t, []api.Cert{}, lastCategory, 0, lastHost)
	trusts(t, certs(api.MaxCerts), lastCategory, 0, lastHost)
}

// P4.2: by the host that makes it, and by one that is trusted, and so on.
func TestTrusted(t *testing.T) {
	trusts(t, []api.Cert{by(25, 1, 3, 9)}, 25, 0, 1, 3)
	trusts(t, []api.Cert{by(25, 1, 0, 9), by(25, 1, 3, 9)}, 25, 0, 0, 1, 3)
	trusts(t, []api.Cert{by(25, 1, 0, 9), by(25, 1, 3, 9), by(25, 1, 2, 9)}, 25, 0, 0, 1, 2, 3)
	// One behind the other.
	trusts(t, []api.Cert{by(25, 1, 3, 9), by(25, 3, 0, 9)}, 25, 0, 0, 1, 3)
	trusts(t, []api.Cert{by(25, 1, 3, 9), by(25, 3, 0, 9), by(25, 0, 2, 9)}, 25, 0, 0, 1, 2, 3)
	trusts(t, []api.Cert{by(0, 0, 1, 9), by(0, 1, 2, 9), by(0, 2, 3, 9)}, 0, 9, 0, 1, 2, 3)
	trusts(t, []api.Cert{by(lastCategory, 3, 2, 9), by(lastCategory, 2, 1, 9), by(lastCategory, 1, 0, 9)}, lastCategory, 9, 0, 1, 2, 3)
	// By two ways to one.
	trusts(t, []api.Cert{by(25, 1, 3, 9), by(25, 1, 0, 9), by(25, 3, 2, 9), by(25, 0, 2, 9)}, 25, 0, 0, 1, 2, 3)
	// The host that makes it is trusted already.
	trusts(t, []api.Cert{by(25, 3, 1, 9)}, 25, 0, 1)
	trusts(t, []api.Cert{by(25, 1, 3, 9), by(25, 3, 1, 9)}, 25, 0, 1, 3)
}

// P4.2: certs by hosts that nobody trusts, though there be a circle of them.
func TestTrustedByNobody(t *testing.T) {
	trusts(t, []api.Cert{by(25, 2, 3, 9)}, 25, 0, 1)
	trusts(t, []api.Cert{by(25, 2, 3, 9), by(25, 3, 2, 9)}, 25, 0, 1)
	trusts(t, []api.Cert{by(25, 0, 2, 9), by(25, 2, 3, 9), by(25, 3, 0, 9)}, 25, 0, 1)
	trusts(t, []api.Cert{by(25, 0, 2, 9), by(25, 2, 3, 9), by(25, 3, 0, 9), by(25, 3, 1, 9)}, 25, 0, 1)
	trusts(t, []api.Cert{by(25, 2, 0, 9), by(25, 1, 3, 9)}, 25, 0, 1, 3)
}

// P4.2: certs in a circle end, and trust all that stand in it, if one of them is trusted.
func TestTrustedCircle(t *testing.T) {
	circle := []api.Cert{by(25, 1, 3, 9), by(25, 3, 0, 9), by(25, 0, 2, 9), by(25, 2, 1, 9)}
	trusts(t, circle, 25, 0, 0, 1, 2, 3)
	trusts(t, []api.Cert{by(25, 1, 0, 9), by(25, 0, 2, 9), by(25, 2, 3, 9), by(25, 3, 0, 9)}, 25, 0, 0, 1, 2, 3)
	var all []api.Cert
	for a := range api.Hosts {
		for b := range api.Hosts {
			if a != b {
				all = append(all, by(25, a, b, 9), by(25, a, b, 8))
			}
		}
	}
	if len(all) != api.MaxCerts {
		t.Fatal("not as many as may be")
	}
	trusts(t, all, 25, 9, 0, 1, 2, 3)
	trusts(t, all, 25, 10, 1)
}

// P4.2: certs of other categories count nothing, of the same host neither.
func TestTrustedOfOtherCategories(t *testing.T) {
	l := []api.Cert{by(24, 1, 0, 9), by(26, 1, 2, 9), by(5, 1, 3, 9), by(25, 0, 3, 9)}
	trusts(t, l, 25, 0, 1)
	trusts(t, l, 24, 0, 0, 1)
	trusts(t, l, 26, 0, 1, 2)
	trusts(t, l, 5, 0, 0)
	trusts(t, []api.Cert{by(25, 1, 3, 9), by(26, 3, 2, 9)}, 25, 0, 1, 3)
	trusts(t, []api.Cert{by(25, 1, 3, 9), by(26, 3, 2, 9)}, 26, 0, 1)
}

// P4.2: a cert counts up to its Until, and then no more, nor what hangs on it.
func TestTrustedUntil(t *testing.T) {
	for _, until := range []int{0, 1, 9, api.MaxTime - 1, api.MaxTime} {
		l := []api.Cert{by(25, 1, 3, until)}
		trusts(t, l, 25, math.MinInt, 1, 3)
		trusts(t, l, 25, until-1, 1, 3)
		trusts(t, l, 25, until, 1, 3)
		trusts(t, l, 25, until+1, 1)
		trusts(t, l, 25, math.MaxInt, 1)
	}
	chain := []api.Cert{by(25, 1, 3, 5), by(25, 3, 0, 9), by(25, 0, 2, 7)}
	trusts(t, chain, 25, 5, 0, 1, 2, 3)
	trusts(t, chain, 25, 6, 1)
	falling := []api.Cert{by(25, 1, 3, 9), by(25, 3, 0, 7), by(25, 0, 2, 5)}
	trusts(t, falling, 25, 5, 0, 1, 2, 3)
	trusts(t, falling, 25, 6, 0, 1, 3)
	trusts(t, falling, 25, 7, 0, 1, 3)
	trusts(t, falling, 25, 8, 1, 3)
	trusts(t, falling, 25, 10, 1)
	// The longest of several counts.
	trusts(t, []api.Cert{by(25, 1, 3, 5), by(25, 1, 3, 9)}, 25, 7, 1, 3)
}

// P4.2: none, not even a home, of what is no category, or by a list that is not good.
func TestTrustedNone(t *testing.T) {
	for _, c := range beyond(lastCategory) {
		trusts(t, nil, c, 0)
		trusts(t, certs(api.MaxCerts), c, 0)
		trusts(t, []api.Cert{by(0, 0, 1, 9), by(lastCategory, lastHost, 1, 9)}, c, 0)
	}
	for _, l := range badLists() {
		for _, c := range []int{0, 4, 25, lastCategory, -1, lastCategory + 1} {
			if got := trust.Trusted(l, c, 0); got != hosts() {
				t.Errorf("%v: %d: %v", l, c, got)
			}
		}
	}
	trusts(t, certs(api.MaxCerts+1), 0, 0)
	trusts(t, []api.Cert{by(25, 1, 3, 9), by(lastCategory+1, 3, 2, 9)}, 25, 0)
}

// at is a label that has some categories at a level.
func at(level int, categories ...int) api.Label {
	var l api.Label
	for _, c := range categories {
		l = append(l, api.Level{C: c, L: level})
	}
	return l
}

// may holds May to the hosts that a mail may go to.
func may(t *testing.T, l []api.Cert, m api.Mail, now int, want ...int) {
	t.Helper()
	for h := range api.Hosts {
		if got := trust.May(l, h, m, now); got != slices.Contains(want, h) {
			t.Errorf("%v: %+v at %d to %d: %v", l, m, now, h, got)
		}
	}
	for _, h := range beyond(lastHost) {
		if trust.May(l, h, m, now) {
			t.Errorf("%v: %+v at %d to %d, which is no host", l, m, now, h)
		}
	}
}

// P4.3: mail that names nothing may go to every host, whatever the list, and to nothing that is no host.
func TestMayNamesNothing(t *testing.T) {
	lists := append(badLists(), nil, []api.Cert{}, certs(3), certs(api.MaxCerts))
	for _, l := range lists {
		for _, m := range []api.Mail{
			{},
			{Label: api.Label{}, Grants: []int{}},
			{Host: 2, Thread: 3, Text: "25"},
			{Host: -1, Thread: 99},
		} {
			may(t, l, m, 0, 0, 1, 2, 3)
			may(t, l, m, math.MaxInt, 0, 1, 2, 3)
		}
	}
}

// P4.3: what a mail names in its label alone, in its grants alone, in both.
func TestMay(t *testing.T) {
	l := []api.Cert{by(25, 1, 3, 9), by(26, 1, 3, 7), by(25, 3, 0, 5), by(26, 1, 2, 9), by(60, 3, 0, 9)}
	for _, m := range []api.Mail{
		{Label: at(3, 25)},
		{Label: at(0, 25)},
		{Label: at(2, 25)},
		{Grants: []int{25}},
		{Label: at(3, 25), Grants: []int{25}},
		{Host: 2, Label: at(3, 25)},
	} {
		may(t, l, m, 0, 0, 1, 3)
		may(t, l, m, 5, 0, 1, 3)
		may(t, l, m, 6, 1, 3)
		may(t, l, m, 9, 1, 3)
		may(t, l, m, 10, 1)
	}
	for _, m := range []api.Mail{
		{Label: at(3, 25, 26)},
		{Grants: []int{25, 26}},
		{Label: at(3, 25), Grants: []int{26}},
		{Label: at(3, 26), Grants: []int{25}},
		{Label: at(3, 25, 26), Grants: []int{25, 26}},
	} {
		may(t, l, m, 0, 1, 3)
		may(t, l, m, 7, 1, 3)
		may(t, l, m, 8, 1)
	}
	for _, m := range []api.Mail{{Label: at(3, 25, 60)}, {Grants: []int{25, 60}}, {Label: at(3, 60), Grants: []int{25}}, {Label: at(3, 25), Grants: []int{60}}} {
		may(t, l, m, 5, 0, 3)
		may(t, l, m, 6, 3)
		may(t, l, m, 10)
	}
	// Of two homes none is trusted with both.
	may(t, nil, api.Mail{Label: at(3, 25), Grants: []int{60}}, 0)
	may(t, nil, api.Mail{Label: at(3, lastCategory)}, 0, lastHost)
	may(t, nil, api.Mail{Grants: []int{0}}, 0, 0)
}

// P4.3: with all of it: the last of many counts as the first does.
func TestMayMany(t *testing.T) {
	full := api.Mail{Label: at(3, 0, 1, 2, 3, 4, 5, 6, 7), Grants: []int{8, 9, 10, 11, 12, 13, 14, 15}}
	var l []api.Cert
	for c := range api.MaxLevels + api.MaxOwn {
		l = append(l, by(c, 0, 2, 9))
	}
	may(t, l, full, 9, 0, 2)
	for i := range l {
		may(t, slices.Delete(slices.Clone(l), i, i+1), full, 9, 0)
		short := slices.Clone(l)
		short[i].Until = 8
		may(t, short, full, 9, 0)
		may(t, short, full, 8, 0, 2)
	}
}

// P4.3: nobody is trusted with what is no category, or by a list that is not good.
func TestMayNot(t *testing.T) {
	for _, c := range beyond(lastCategory) {
		for _, l := range [][]api.Cert{nil, certs(api.MaxCerts), {by(25, 1, 3, 9)}} {
			may(t, l, api.Mail{Label: at(3, c)}, 0)
			may(t, l, api.Mail{Grants: []int{c}}, 0)
			may(t, l, api.Mail{Label: at(3, 25), Grants: []int{c}}, 0)
			may(t, l, api.Mail{Label: at(3, 25, c)}, 0)
			may(t, l, api.Mail{Label: at(3, c, 25)}, 0)
			may(t, l, api.Mail{Grants: []int{c, 25}}, 0)
		}
	}
	for _, l := range badLists() {
		may(t, l, api.Mail{Label: at(3, 25)}, 0)
		may(t, l, api.Mail{Grants: []int{lastCategory}}, 0)
	}
}

// P4.3: mail that is not good names what stands in it all the same.
func TestNotGoodMail(t *testing.T) {
	l := []api.Cert{by(25, 1, 3, 9), by(26, 1, 3, 9), by(26, 1, 2, 9)}
	for _, m := range []api.Mail{
		{Label: at(api.Plain, 25)},
		{Label: at(99, 25)},
		{Label: at(3, 25, 25, 25)},
		{Label: at(3, 26, 25)},
		{Grants: []int{26, 25, 26}},
		{Host: -1, Thread: -1, Grants: []int{25}},
		{Label: at(3, 26), Grants: slices.Repeat([]int{26, 25}, 500)},
	} {
		if !trust.May(l, 3, m, 9) || !trust.May(l, 1, m, 9) || trust.May(l, 2, m, 9) || trust.May(l, 0, m, 9) {
			t.Errorf("%+v", m)
		}
		if got := trust.Show(l, m); !slices.Contains(got, l[0]) {
			t.Errorf("%+v: %v", m, got)
		}
	}
}

// shows holds Show to an answer.
func shows(t *testing.T, l []api.Cert, m api.Mail, want ...api.Cert) {
	t.Helper()
	if got := trust.Show(l, m); !slices.Equal(got, want) {
		t.Errorf("%v: %+v: %v, not %v", l, m, got, want)
	}
}

// P4.3: the certs as they stand, those of nobody trusted and of an older time among them.
func TestShow(t *testing.T) {
	l := []api.Cert{by(60, 3, 0, 9), by(25, 2, 3, 9), by(26, 1, 3, 0), by(25, 1, 3, 0), by(0, 0, 1, 9), by(lastCategory, 3, 1, 9)}
	shows(t, l, api.Mail{})
	shows(t, l, api.Mail{Host: 3, Label: api.Label{}, Grants: []int{}, Text: "25"})
	shows(t, l, api.Mail{Label: at(3, 24, 27)})
	shows(t, l, api.Mail{Label: at(3, 25)}, l[1], l[3])
	shows(t, l, api.Mail{Label: at(0, 25)}, l[1], l[3])
	shows(t, l, api.Mail{Grants: []int{25}}, l[1], l[3])
	shows(t, l, api.Mail{Label: at(3, 25), Grants: []int{25}}, l[1], l[3])
	shows(t, l, api.Mail{Label: at(3, 25, 60)}, l[0], l[1], l[3])
	shows(t, l, api.Mail{Label: at(3, 25), Grants: []int{26}}, l[1], l[2], l[3])
	shows(t, l, api.Mail{Label: at(3, 26), Grants: []int{25}}, l[1], l[2], l[3])
	shows(t, l, api.Mail{Grants: []int{0, lastCategory}}, l[4], l[5])
	shows(t, l, api.Mail{Label: at(3, 0, 25), Grants: []int{26, 60, lastCategory}}, l...)
	shows(t, nil, api.Mail{Label: at(3, 25)})
	shows(t, []api.Cert{}, api.Mail{Grants: []int{25}})
	for _, c := range beyond(lastCategory) {
		shows(t, l, api.Mail{Label: at(3, c), Grants: []int{c}})
		shows(t, l, api.Mail{Label: at(3, c), Grants: []int{25}}, l[1], l[3])
	}
	shows(t, certs(api.MaxCerts), api.Mail{Label: at(3, 0, 1, 2, 3), Grants: []int{3, 4, 5, 6}}, certs(api.MaxCerts)...)
}

// P4.3: of a list that is not good, too, they are those of what the mail names, as they stand.
func TestShowOfLists(t *testing.T) {
	m := api.Mail{Label: at(3, 4), Grants: []int{lastCategory + 1}}
	for _, l := range badLists() {
		var want []api.Cert
		for _, c := range l {
			if c.C == 4 || c.C == lastCategory+1 {
				want = append(want, c)
			}
		}
		shows(t, l, m, want...)
	}
	twice := []api.Cert{by(25, 1, 3, 9), by(26, 1, 3, 9), by(25, 1, 3, 9)}
	shows(t, twice, api.Mail{Grants: []int{25}}, twice[0], twice[2])
}

// P4.2, P4.3: who gets mail with what Show tells of it learns by that alone as much as the sender knew.
func TestShowIsEnough(t *testing.T) {
	r := rand.New(rand.NewSource(1))
	for range 5000 {
		l, m := someCerts(r), someMail(r)
		shown := trust.Show(l, m)
		for now := range 7 {
			for h := range api.Hosts {
				if a, b := trust.May(l, h, m, now), trust.May(shown, h, m, now); a != b {
					t.Fatalf("%v: %+v at %d to %d: %v, by %v: %v", l, m, now, h, a, shown, b)
				}
			}
		}
	}
}

// fewCategories is so few that certs and mail often speak of the same ones.
func fewCategories() []int { return []int{0, 19, 20, 25, lastCategory} }

func someCategory(r *rand.Rand) int {
	list := fewCategories()
	return list[r.Intn(len(list))]
}

// someCerts is a good list, at times a full one.
func someCerts(r *rand.Rand) []api.Cert {
	var l []api.Cert
	for range r.Intn(60) {
		c := by(someCategory(r), r.Intn(api.Hosts), r.Intn(api.Hosts), r.Intn(7))
		if wire.GoodCert(c) && !slices.Contains(l, c) && len(l) < api.MaxCerts {
			l = append(l, c)
		}
	}
	return l
}

// someMail is mail that names up to four categories, at times one that is none.
func someMail(r *rand.Rand) api.Mail {
	var m api.Mail
	for range r.Intn(3) {
		m.Label = append(m.Label, api.Level{C: someCategory(r), L: r.Intn(4)})
	}
	for range r.Intn(3) {
		m.Grants = append(m.Grants, someCategory(r)+r.Intn(30)/29)
	}
	return m
}

// reached is who is trusted, worked out by asking of each host whether a way of certs leads to it.
func reached(l []api.Cert, c, now int) [api.Hosts]bool {
	var way [api.Hosts][api.Hosts]bool
	for h := range api.Hosts {
		way[h][h] = true
	}
	for _, v := range l {
		if v.C == c && v.Until >= now {
			way[v.By][v.Host] = true
		}
	}
	for k := range api.Hosts {
		for i := range api.Hosts {
			for j := range api.Hosts {
				way[i][j] = way[i][j] || way[i][k] && way[k][j]
			}
		}
	}
	return way[c/api.Categories]
}

// P4.2, P4.3: against another way to work it out.
func TestAgainstAnotherWay(t *testing.T) {
	r := rand.New(rand.NewSource(2))
	for range 5000 {
		l, m := someCerts(r), someMail(r)
		now := r.Intn(8) - 1
		for _, c := range fewCategories() {
			want := reached(l, c, now)
			if got := trust.Trusted(l, c, now); got != want {
				t.Fatalf("%v: %d at %d: %v, not %v", l, c, now, got, want)
			}
		}
		all := hosts(0, 1, 2, 3)
		for _, c := range append(categories(m.Label), m.Grants...) {
			in := hosts()
			if c <= lastCategory {
				in = reached(l, c, now)
			}
			for h := range in {
				all[h] = all[h] && in[h]
			}
		}
		for h := range all {
			if got := trust.May(l, h, m, now); got != all[h] {
				t.Fatalf("%v: %+v at %d to %d: %v, not %v", l, m, now, h, got, all[h])
			}
		}
	}
}

func categories(l api.Label) []int {
	var list []int
	for _, v := range l {
		list = append(list, v.C)
	}
	return list
}

// spared is a list with room behind it that holds marks.
func spared[E any](list []E, mark E) []E {
	room := append(slices.Clone(list), mark, mark, mark)
	return room[:len(list)]
}

// whole is a list with its spare room, in memory of its own.
func whole[E any](list []E) []E { return slices.Clone(list[:cap(list)]) }

// Lists that are handed in are not changed, their spare room neither.
func TestHandedInStays(t *testing.T) {
	lists := append(badLists(), nil, certs(1), certs(5), certs(api.MaxCerts-1), certs(api.MaxCerts))
	for _, list := range lists {
		for _, m := range []api.Mail{
			{},
			{Label: at(3, 0, 4), Grants: []int{1, 2, 4}},
			{Label: at(api.Plain, 6, 5, 6, -1), Grants: []int{9, 3, 3, 1, lastCategory + 1}},
		} {
			l := spared(list, by(-7, -7, -7, -7))
			m.Label = spared(m.Label, api.Level{C: -7, L: -7})
			m.Grants = spared(m.Grants, -7)
			certsBefore, labelBefore, grantsBefore := whole(l), whole(m.Label), whole(m.Grants)
			trust.Good(l)
			trust.Add(l, by(70, 0, 1, 5))
			trust.Add(l, by(0, 0, 1, 100))
			trust.Add(l, api.Cert{})
			trust.Trusted(l, 4, 0)
			trust.May(l, 1, m, 0)
			trust.Show(l, m)
			if !slices.Equal(certsBefore, whole(l)) || !slices.Equal(labelBefore, whole(m.Label)) || !slices.Equal(grantsBefore, whole(m.Grants)) {
				t.Fatalf("%v, %+v: changed", list, m)
			}
		}
	}
}

// What is answered is new each time: who changes it, or lays something behind it, changes nothing else.
func TestAnswersAreNew(t *testing.T) {
	l := spared(certs(5), by(-7, -7, -7, -7))
	before := whole(l)
	more, _ := trust.Add(l, by(70, 0, 1, 5))
	other, _ := trust.Add(l, by(71, 0, 1, 5))
	there, _ := trust.Add(l, l[2])
	shown := trust.Show(l, api.Mail{Grants: []int{0, 1, 2, 3, 4}})
	for _, list := range [][]api.Cert{more, there, shown} {
		if len(list) < 5 {
			t.Fatalf("%v", list)
		}
		for i := range list {
			list[i] = api.Cert{}
		}
		_ = append(list, api.Cert{})
	}
	if !slices.Equal(before, whole(l)) {
		t.Errorf("%v became %v", before, whole(l))
	}
	if want := append(certs(5), by(71, 0, 1, 5)); !slices.Equal(other, want) {
		t.Errorf("%v became %v", want, other)
	}
}

// Long lists and long mail come to an end soon.
func TestLong(t *testing.T) {
	const n = 1 << 18
	var l []api.Cert
	var m api.Mail
	for i := range n {
		l = append(l, by(i, 0, 1, 9))
		m.Label = append(m.Label, api.Level{C: 2 * i, L: 3})
		m.Grants = append(m.Grants, -i-1)
	}
	if _, e := trust.Add(l, l[0]); e != api.ErrRange || trust.Good(l) || trust.May(l, 0, m, 0) || trust.May(nil, 0, m, 0) {
		t.Error("a list or mail that is too long")
	}
	if got := trust.Show(l, m); len(got) != n/2 {
		t.Errorf("%d certs", len(got))
	}
	m = api.Mail{Grants: slices.Repeat([]int{25}, n)}
	if !trust.May([]api.Cert{by(25, 1, 3, 9)}, 3, m, 9) {
		t.Error("the same again and again")
	}
}
