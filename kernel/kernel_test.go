package kernel_test

import (
	"fmt"
	"math"
	"math/rand"
	"reflect"
	"slices"
	"strings"
	"testing"

	"parclose/api"
	"parclose/kernel"
	"parclose/label"
	"parclose/wire"
)

const (
	lastHost     = api.Hosts - 1
	lastThread   = api.Threads - 1
	lastCategory = api.Hosts*api.Categories - 1
)

// beyond is numbers out of the bounds of what goes from 0 to last.
func beyond(last int) []int {
	return []int{math.MinInt, -1 << 32, -256, -1, last + 1, last + 256, last + 1<<32, math.MaxInt}
}

// rising is n categories that rise from one on.
func rising(from, n int) []int {
	var list []int
	for i := range n {
		list = append(list, from+i)
	}
	return list
}

// at is a label that has some categories at a level.
func at(level int, categories ...int) api.Label {
	var l api.Label
	for _, c := range categories {
		l = append(l, api.Level{C: c, L: level})
	}
	return l
}

// badLabels is labels that are not good, in one way each.
func badLabels() []api.Label {
	return []api.Label{
		at(api.Plain, 3),
		at(-1, 3),
		at(api.Top+1, 3),
		at(api.Top, -1),
		at(api.Top, lastCategory+1),
		at(api.Top, 3, 3),
		at(api.Top, 4, 3),
		at(api.Top, rising(0, api.MaxLevels+1)...),
		at(math.MinInt, math.MaxInt),
		make(api.Label, 1000),
	}
}

// letters is a text of n bytes, in which no byte is like its neighbours.
func letters(n int) string {
	var b strings.Builder
	for i := range n {
		b.WriteByte(byte('a' + i%26))
	}
	return b.String()
}

func newKernel(t *testing.T, host int) *kernel.Kernel {
	t.Helper()
	k, e := kernel.New(host)
	if k == nil || e != api.OK {
		t.Fatalf("host %d: %v, %d", host, k, e)
	}
	return k
}

// plain is a thread in which a list without elements is nil.
func plain(th api.Thread) api.Thread {
	if len(th.Label) == 0 {
		th.Label = nil
	}
	if len(th.Own) == 0 {
		th.Own = nil
	}
	if len(th.Objects) == 0 {
		th.Objects = nil
	}
	for i := range th.Objects {
		if len(th.Objects[i].Label) == 0 {
			th.Objects[i].Label = nil
		}
	}
	if len(th.Mails) == 0 {
		th.Mails = nil
	}
	for i := range th.Mails {
		th.Mails[i] = plainMail(th.Mails[i])
	}
	return th
}

func plainMail(m api.Mail) api.Mail {
	if len(m.Label) == 0 {
		m.Label = nil
	}
	if len(m.Grants) == 0 {
		m.Grants = nil
	}
	return m
}

// state is all threads of a kernel, told as a text: that shares no memory with the kernel, whatever this one answers.
func state(k *kernel.Kernel) string {
	var b strings.Builder
	for t := range api.Threads {
		fmt.Fprintf(&b, "%d: %#v\n", t, plain(k.Thread(t)))
	}
	return b.String()
}

// is holds a thread against how it must stand.
func is(t *testing.T, k *kernel.Kernel, who int, want api.Thread) {
	t.Helper()
	if got := plain(k.Thread(who)); !reflect.DeepEqual(got, plain(want)) {
		t.Errorf("thread %d:\n%+v; wanted\n%+v", who, got, want)
	}
}

// done makes a call, and holds its reply against what it must be.
func done(t *testing.T, k *kernel.Kernel, who int, c api.Call, want api.Reply) {
	t.Helper()
	if got := k.Call(who, c); got != want {
		t.Errorf("%d %+v: %+v; wanted %+v", who, c, got, want)
	}
}

// refused makes a call that must be refused, and holds the kernel to changing nothing by it.
func refused(t *testing.T, k *kernel.Kernel, who int, c api.Call, e api.Errno) {
	t.Helper()
	before := state(k)
	done(t, k, who, c, api.Reply{Code: e})
	if after := state(k); before != after {
		t.Errorf("%d %+v: refused, but\n%s became\n%s", who, c, before, after)
	}
}

// lost delivers mail that must not come.
func lost(t *testing.T, k *kernel.Kernel, who int, m api.Mail) {
	t.Helper()
	before := state(k)
	k.Deliver(who, m)
	if after := state(k); before != after {
		t.Errorf("%d %+v: came", who, m)
	}
}

// give lets a thread own categories, by mail that grants them.
func give(t *testing.T, k *kernel.Kernel, who int, categories ...int) {
	t.Helper()
	for _, c := range categories {
		k.Deliver(who, api.Mail{Grants: []int{c}})
		done(t, k, who, api.Call{Kind: api.CallTake}, api.Reply{})
	}
}

func know(t *testing.T, k *kernel.Kernel, who int, text string) {
	t.Helper()
	done(t, k, who, api.Call{Kind: api.CallForget, Text: text}, api.Reply{})
}

func raise(t *testing.T, k *kernel.Kernel, who, c, level int) {
	t.Helper()
	done(t, k, who, api.Call{Kind: api.CallLevel, C: c, N: level}, api.Reply{})
}

// P3.1
func TestNew(t *testing.T) {
	for h := range api.Hosts {
		k := newKernel(t, h)
		for who := range api.Threads {
			is(t, k, who, api.Thread{})
		}
		done(t, k, lastThread, api.Call{Kind: api.CallCategory}, api.Reply{N: h * api.Categories})
	}
	for _, h := range beyond(lastHost) {
		if k, e := kernel.New(h); k != nil || e != api.ErrRange {
			t.Errorf("host %d: %v, %d", h, k, e)
		}
	}
}

// P3.1
func TestKernelsApart(t *testing.T) {
	a, b := newKernel(t, 2), newKernel(t, 2)
	done(t, a, 0, api.Call{Kind: api.CallCategory}, api.Reply{N: 40})
	know(t, a, 0, "x")
	is(t, b, 0, api.Thread{})
	done(t, b, 0, api.Call{Kind: api.CallCategory}, api.Reply{N: 40})
}

// P3.1
func TestNoSuchThread(t *testing.T) {
	k := newKernel(t, 1)
	for who := range api.Threads {
		know(t, k, who, "x")
	}
	before := state(k)
	var none *kernel.Kernel
	type place struct {
		k   *kernel.Kernel
		who int
	}
	places := []place{{none, 0}, {none, lastThread}}
	for _, who := range beyond(lastThread) {
		places = append(places, place{k, who}, place{none, who})
	}
	long := letters(api.MaxText + 1)
	for _, p := range places {
		if th := p.k.Thread(p.who); !reflect.DeepEqual(plain(th), api.Thread{}) {
			t.Errorf("%d: %+v", p.who, th)
		}
		p.k.Deliver(p.who, api.Mail{Text: "y"})
		p.k.Deliver(p.who, api.Mail{Text: long})
		for _, c := range []api.Call{{}, {Grants: []int{5}}, {Label: at(api.Plain, 3)}, {Text: long}} {
			if m, e := p.k.Letter(p.who, c); e != api.ErrNone || !reflect.DeepEqual(plainMail(m), api.Mail{}) {
				t.Errorf("letter of %d: %+v, %d", p.who, m, e)
			}
		}
		for kind := -1; kind <= api.CallSay+1; kind++ {
			done(t, p.k, p.who, api.Call{Kind: kind}, api.Reply{Code: api.ErrNone})
			done(t, p.k, p.who, api.Call{Kind: kind, Text: long, Label: at(api.Plain, 3)}, api.Reply{Code: api.ErrNone})
		}
	}
	if after := state(k); before != after {
		t.Errorf("%s became %s", before, after)
	}
}

// P3.1: the first and the last thread are such, and each stands for itself.
func TestEachThread(t *testing.T) {
	k := newKernel(t, 1)
	for who := range api.Threads {
		know(t, k, who, letters(who+1))
		k.Deliver(who, api.Mail{Thread: who})
		done(t, k, who, api.Call{Kind: api.CallObject}, api.Reply{})
		raise(t, k, who, who, api.Top)
	}
	for who := range api.Threads {
		is(t, k, who, api.Thread{
			Label: at(api.Top, who), Text: letters(who + 1),
			Objects: []api.Object{{}}, Mails: []api.Mail{{Thread: who}},
		})
		if m, e := k.Letter(who, api.Call{Label: at(api.Top, who)}); e != api.OK || m.Host != 1 || m.Thread != who || m.Text != letters(who+1) {
			t.Errorf("letter of %d: %+v, %d", who, m, e)
		}
	}
}

// P3.2: what a thread owns stands by number, each once.
func TestOwnByNumber(t *testing.T) {
	k := newKernel(t, 1)
	give(t, k, 0, 50, 3, 79, 50, 0, 3)
	is(t, k, 0, api.Thread{Own: []int{0, 3, 50, 79}})
	done(t, k, 0, api.Call{Kind: api.CallCategory}, api.Reply{N: 20})
	done(t, k, 0, api.Call{Kind: api.CallCategory}, api.Reply{N: 21})
	is(t, k, 0, api.Thread{Own: []int{0, 3, 20, 21, 50, 79}})
	is(t, k, 1, api.Thread{})
}

// P3.3
func TestLetter(t *testing.T) {
	k := newKernel(t, 2)
	give(t, k, 1, 40, 7, 60)
	know(t, k, 1, "known,")
	raise(t, k, 1, 41, 2)
	before := state(k)
	for _, v := range []struct {
		c    api.Call
		want api.Mail
	}{
		{api.Call{Label: at(2, 41)}, api.Mail{Label: at(2, 41), Text: "known,"}},
		{api.Call{Label: at(3, 41), Text: "said"}, api.Mail{Label: at(3, 41), Text: "known,said"}},
		{api.Call{Label: at(3, 41), Grants: []int{}, Text: "\x00\xff"}, api.Mail{Label: at(3, 41), Text: "known,\x00\xff"}},
		{api.Call{Label: at(2, 41), Grants: []int{7, 40, 60}}, api.Mail{Label: at(2, 41), Grants: []int{7, 40, 60}, Text: "known,"}},
		{api.Call{Label: at(2, 41), Grants: []int{60}}, api.Mail{Label: at(2, 41), Grants: []int{60}, Text: "known,"}},
		// What one owns may go lower than one stands.
		{api.Call{Label: api.Label{{C: 7, L: 0}, {C: 41, L: 2}}}, api.Mail{Label: api.Label{{C: 7, L: 0}, {C: 41, L: 2}}, Text: "known,"}},
		// It is not asked what kind of call it is, nor where it goes.
		{api.Call{Kind: -7, H: -1, T: 99, N: -5, C: -3, Label: at(2, 41)}, api.Mail{Label: at(2, 41), Text: "known,"}},
	} {
		v.want.Host, v.want.Thread = 2, 1
		if m, e := k.Letter(1, v.c); e != api.OK || !reflect.DeepEqual(plainMail(m), v.want) {
			t.Errorf("%+v: %+v, %d; wanted %+v", v.c, m, e, v.want)
		}
	}
	if after := state(k); before != after {
		t.Errorf("letters changed\n%s to\n%s", before, after)
	}
}

// P3.3: the last of what is known and said; a call's text may be of any length here.
func TestLetterText(t *testing.T) {
	k := newKernel(t, 0)
	for _, known := range []int{0, 1, 63, 64} {
		for _, said := range []int{0, 1, 2, 63, 64, 65, 1000} {
			know(t, k, 0, letters(known))
			all := letters(known) + strings.ToUpper(letters(said))
			m, e := k.Letter(0, api.Call{Text: strings.ToUpper(letters(said))})
			if want := all[max(0, len(all)-api.MaxText):]; e != api.OK || m.Text != want {
				t.Errorf("%d and %d: %q, %d; wanted %q", known, said, m.Text, e, want)
			}
			is(t, k, 0, api.Thread{Text: letters(known)})
		}
	}
}

// P3.3: the errors, the first of them where several apply.
func TestLetterRefused(t *testing.T) {
	k := newKernel(t, 1)
	give(t, k, 3, rising(0, api.MaxOwn)...)
	raise(t, k, 3, 50, 2)
	full := at(api.Top, rising(44, api.MaxLevels)...)
	type trial struct {
		c api.Call
		e api.Errno
	}
	trials := []trial{
		{api.Call{Label: full, Grants: rising(0, api.MaxOwn)}, api.OK},
		{api.Call{Label: full, Grants: rising(0, api.MaxOwn+1)}, api.ErrRange},
		{api.Call{Label: full, Grants: []int{1, 1}}, api.ErrRange},
		{api.Call{Label: full, Grants: []int{2, 1}}, api.ErrRange},
		{api.Call{Label: full, Grants: []int{-1}}, api.ErrRange},
		{api.Call{Label: full, Grants: []int{lastCategory + 1}}, api.ErrRange},
		{api.Call{Grants: []int{math.MaxInt, math.MinInt}}, api.ErrRange},
		{api.Call{Label: full, Grants: []int{50}}, api.ErrOwn},
		{api.Call{Label: full, Grants: []int{0, 1, 8}}, api.ErrOwn},
		{api.Call{Label: full, Grants: []int{lastCategory}}, api.ErrOwn},
		{api.Call{Grants: []int{50}}, api.ErrOwn},
		{api.Call{Label: at(0, 50), Grants: []int{8}}, api.ErrOwn},
		{api.Call{}, api.ErrFlow},
		{api.Call{Label: at(0, 50)}, api.ErrFlow},
		{api.Call{Label: at(3, 51), Grants: []int{0}}, api.ErrFlow},
		{api.Call{Label: api.Label{{C: 9, L: 0}, {C: 50, L: 3}}}, api.ErrFlow},
		{api.Call{Text: letters(1000)}, api.ErrFlow},
	}
	for _, l := range badLabels() {
		trials = append(trials, trial{api.Call{Label: l}, api.ErrRange}, trial{api.Call{Label: l, Grants: []int{50}}, api.ErrRange})
	}
	before := state(k)
	for _, v := range trials {
		m, e := k.Letter(3, v.c)
		if e != v.e {
			t.Errorf("%+v: %d; wanted %d", v.c, e, v.e)
		}
		if v.e != api.OK && !reflect.DeepEqual(plainMail(m), api.Mail{}) {
			t.Errorf("%+v: %+v beside an error", v.c, m)
		}
	}
	if after := state(k); before != after {
		t.Errorf("letters changed\n%s to\n%s", before, after)
	}
}

// P3.3: what the sender owns counts for the way out, nobody else's.
func TestLetterOfOwner(t *testing.T) {
	k := newKernel(t, 1)
	give(t, k, 0, 20)
	raise(t, k, 0, 20, 3)
	raise(t, k, 1, 20, 3)
	if _, e := k.Letter(0, api.Call{}); e != api.OK {
		t.Errorf("owner: %d", e)
	}
	if _, e := k.Letter(1, api.Call{}); e != api.ErrFlow {
		t.Errorf("another one: %d", e)
	}
}

// P3.4
func TestDeliver(t *testing.T) {
	k := newKernel(t, 1)
	give(t, k, 1, 30)
	raise(t, k, 1, 40, 2)
	var want []api.Mail
	for _, m := range []api.Mail{
		{},
		{Host: lastHost, Thread: lastThread, Text: letters(api.MaxText)},
		{Label: at(2, 40), Grants: []int{0, 40, lastCategory}, Text: "x"},
		{Label: at(3, 30), Text: "to an owner"},
		{Label: api.Label{{C: 5, L: 0}, {C: 40, L: 0}}, Grants: rising(70, api.MaxOwn)},
		{Host: 1, Thread: 1, Text: "from itself"},
	} {
		k.Deliver(1, m)
		want = append(want, m)
		is(t, k, 1, api.Thread{Label: at(2, 40), Own: []int{30}, Mails: want})
	}
	if len(want) != api.MaxMail {
		t.Fatal("the box is not full")
	}
	lost(t, k, 1, api.Mail{})
	done(t, k, 1, api.Call{Kind: api.CallTake}, api.Reply{})
	k.Deliver(1, api.Mail{Text: "again"})
	is(t, k, 1, api.Thread{Label: at(2, 40), Own: []int{30}, Mails: append(want[1:], api.Mail{Text: "again"})})
	lost(t, k, 1, api.Mail{})
}

// P3.4
func TestDeliverNot(t *testing.T) {
	k := newKernel(t, 1)
	give(t, k, 0, 40)
	give(t, k, 1, 30)
	raise(t, k, 1, 40, 2)
	bad := []api.Mail{
		{Label: at(3, 40)},
		{Label: at(2, 41)},
		{Label: at(2, 29)},
		{Label: api.Label{{C: 30, L: 3}, {C: 40, L: 3}}},
		{Grants: []int{40}, Label: at(3, 40)},
		{Grants: []int{5, 5}},
		{Grants: []int{6, 5}},
		{Grants: []int{-1}},
		{Grants: []int{lastCategory + 1}},
		{Grants: rising(0, api.MaxOwn+1)},
		{Text: letters(api.MaxText + 1)},
	}
	for _, l := range badLabels() {
		bad = append(bad, api.Mail{Label: l})
	}
	for _, n := range beyond(lastHost) {
		bad = append(bad, api.Mail{Host: n})
	}
	for _, n := range beyond(lastThread) {
		bad = append(bad, api.Mail{Thread: n})
	}
	for _, m := range bad {
		lost(t, k, 1, m)
	}
	// That another thread owns the category helps nobody.
	k.Deliver(0, api.Mail{Label: at(3, 40)})
	is(t, k, 0, api.Thread{Own: []int{40}, Mails: []api.Mail{{Label: at(3, 40)}}})
}

// P3.5: ErrLong ahead of everything of the kinds, and of ErrKind.
func TestCallTooLong(t *testing.T) {
	k := newKernel(t, 1)
	k.Deliver(0, api.Mail{Text: "x"})
	know(t, k, 0, "known")
	done(t, k, 1, api.Call{Kind: api.CallObject}, api.Reply{N: 0})
	done(t, k, 1, api.Call{Kind: api.CallObject}, api.Reply{N: 1})
	for kind := -1; kind <= api.CallSay+1; kind++ {
		for _, n := range []int{api.MaxText + 1, 2 * api.MaxText, 100000} {
			refused(t, k, 0, api.Call{Kind: kind, Text: letters(n)}, api.ErrLong)
			refused(t, k, 0, api.Call{Kind: kind, Text: letters(n), Label: at(api.Plain, 3), C: -1, N: -1}, api.ErrLong)
		}
	}
	for _, kind := range []int{api.CallCategory, api.CallTake, api.CallPut, api.CallGet, api.CallLevel, api.CallForget, api.CallSay, api.CallObject} {
		if r := k.Call(0, api.Call{Kind: kind, C: 5, N: api.Plain, Label: at(3, 5), T: 1, Text: letters(api.MaxText)}); r.Code != api.OK {
			t.Errorf("kind %d, a text that is not too long: %d", kind, r.Code)
		}
	}
}

// P3.5: what is sent, and whom a thread certifies, is none of a kernel's calls.
func TestCallKinds(t *testing.T) {
	k := newKernel(t, 1)
	k.Deliver(0, api.Mail{Text: "x"})
	kinds := append(beyond(api.CallSay), 0, api.CallSend, api.CallCertify)
	for _, kind := range kinds {
		refused(t, k, 0, api.Call{Kind: kind}, api.ErrKind)
		refused(t, k, 0, api.Call{Kind: kind, H: 2, T: 2, N: 5, C: 20, Grants: []int{20}, Label: at(api.Plain, 3), Text: letters(api.MaxText)}, api.ErrKind)
	}
}

// P3.5
func TestCategory(t *testing.T) {
	for h := range api.Hosts {
		k := newKernel(t, h)
		owned := map[int][]int{}
		for i := range api.Categories {
			who, c := i%api.Threads, h*api.Categories+i
			done(t, k, who, api.Call{Kind: api.CallCategory, C: 77, N: 5, Text: "x", Label: at(api.Plain, 3)}, api.Reply{N: c})
			owned[who] = append(owned[who], c)
		}
		for who := range api.Threads {
			is(t, k, who, api.Thread{Own: owned[who]})
			refused(t, k, who, api.Call{Kind: api.CallCategory}, api.ErrFull)
		}
	}
}

// P3.5: a thread without room does not use a number up.
func TestCategoryWithoutRoom(t *testing.T) {
	k := newKernel(t, 3)
	for i := range api.MaxOwn {
		done(t, k, 0, api.Call{Kind: api.CallCategory}, api.Reply{N: 60 + i})
	}
	refused(t, k, 0, api.Call{Kind: api.CallCategory}, api.ErrFull)
	refused(t, k, 0, api.Call{Kind: api.CallCategory}, api.ErrFull)
	done(t, k, 1, api.Call{Kind: api.CallCategory}, api.Reply{N: 60 + api.MaxOwn})
}

// P3.2, P3.5: a category that was granted ahead of its being made needs no room.
func TestCategoryOwnedAlready(t *testing.T) {
	k := newKernel(t, 3)
	give(t, k, 0, 60, 61, 0, 1, 2, 3, 4, 5)
	full := api.Thread{Own: []int{0, 1, 2, 3, 4, 5, 60, 61}}
	is(t, k, 0, full)
	done(t, k, 0, api.Call{Kind: api.CallCategory}, api.Reply{N: 60})
	done(t, k, 0, api.Call{Kind: api.CallCategory}, api.Reply{N: 61})
	is(t, k, 0, full)
	refused(t, k, 0, api.Call{Kind: api.CallCategory}, api.ErrFull)
	is(t, k, 0, full)
}

// P3.5: a thread's label does not keep it from making categories.
func TestCategoryOfSecretThread(t *testing.T) {
	k := newKernel(t, 0)
	raise(t, k, 0, 70, 3)
	done(t, k, 0, api.Call{Kind: api.CallCategory}, api.Reply{N: 0})
	is(t, k, 0, api.Thread{Label: at(3, 70), Own: []int{0}})
}

// P3.5
func TestObject(t *testing.T) {
	k := newKernel(t, 1)
	know(t, k, 2, "known")
	give(t, k, 2, 30)
	raise(t, k, 2, 30, 3)
	raise(t, k, 2, 40, 2)
	want := api.Thread{Label: api.Label{{C: 30, L: 3}, {C: 40, L: 2}}, Own: []int{30}, Text: "known"}
	is(t, k, 2, want)
	for i, l := range []api.Label{
		at(2, 40),
		at(3, 30, 40),
		at(3, rising(36, api.MaxLevels)...),
		{{C: 30, L: 0}, {C: 40, L: 3}},
	} {
		done(t, k, 2, api.Call{Kind: api.CallObject, Label: l, Text: "not into it", T: 3, N: 7}, api.Reply{N: i})
		want.Objects = append(want.Objects, api.Object{Label: l})
		is(t, k, 2, want)
	}
	if len(want.Objects) != api.MaxObjects {
		t.Fatal("there is room yet")
	}
	refused(t, k, 2, api.Call{Kind: api.CallObject, Label: at(2, 40)}, api.ErrFull)
	refused(t, k, 2, api.Call{Kind: api.CallObject}, api.ErrFlow)
	refused(t, k, 2, api.Call{Kind: api.CallObject, Label: at(api.Plain, 40)}, api.ErrRange)
	done(t, k, 3, api.Call{Kind: api.CallObject}, api.Reply{N: 0})
}

// P3.5
func TestObjectRefused(t *testing.T) {
	k := newKernel(t, 1)
	give(t, k, 0, 40)
	raise(t, k, 1, 40, 2)
	for _, l := range badLabels() {
		refused(t, k, 0, api.Call{Kind: api.CallObject, Label: l}, api.ErrRange)
		refused(t, k, 1, api.Call{Kind: api.CallObject, Label: l}, api.ErrRange)
	}
	for _, l := range []api.Label{nil, {}, at(0, 40), at(3, 41), at(0, 3), {{C: 3, L: 0}, {C: 40, L: 3}}} {
		refused(t, k, 1, api.Call{Kind: api.CallObject, Label: l}, api.ErrFlow)
	}
}

// P3.6
func TestPut(t *testing.T) {
	k := newKernel(t, 1)
	for _, l := range []api.Label{nil, at(3, 40), at(2, 40)} {
		done(t, k, 3, api.Call{Kind: api.CallObject, Label: l}, api.Reply{N: len(k.Thread(3).Objects)})
	}
	texts := func(want ...string) {
		t.Helper()
		for i, o := range k.Thread(3).Objects {
			if o.Text != want[i] {
				t.Errorf("object %d: %q; wanted %q", i, o.Text, want[i])
			}
		}
	}
	put := func(who, n int, text string) {
		t.Helper()
		done(t, k, who, api.Call{Kind: api.CallPut, T: 3, N: n, Text: text}, api.Reply{})
	}
	know(t, k, 0, "k:")
	put(0, 0, "a")
	texts("k:a", "", "")
	put(0, 1, "b")
	put(0, 2, "")
	texts("k:a", "k:b", "k:")
	is(t, k, 0, api.Thread{Text: "k:"})
	raise(t, k, 0, 40, 2)
	put(0, 0, "no")
	put(0, 1, "c")
	put(0, 2, "d")
	texts("k:a", "k:c", "k:d")
	raise(t, k, 0, 40, 3)
	put(0, 0, "no")
	put(0, 1, "e")
	put(0, 2, "no")
	texts("k:a", "k:e", "k:d")
	// Its owner may; that the object's thread owns it helps nobody.
	give(t, k, 3, 40)
	put(0, 0, "no")
	texts("k:a", "k:e", "k:d")
	give(t, k, 0, 40)
	put(0, 0, "f")
	put(0, 2, "g")
	texts("k:f", "k:e", "k:g")
	// Its own object, and one with nothing.
	know(t, k, 3, "")
	put(3, 0, "")
	texts("", "k:e", "k:g")
}

// P3.6
func TestPutNowhere(t *testing.T) {
	k := newKernel(t, 1)
	know(t, k, 0, "known")
	raise(t, k, 2, 40, 2)
	done(t, k, 0, api.Call{Kind: api.CallObject}, api.Reply{N: 0})
	done(t, k, 3, api.Call{Kind: api.CallObject}, api.Reply{N: 0})
	done(t, k, 3, api.Call{Kind: api.CallObject}, api.Reply{N: 1})
	before := state(k)
	for who := range 3 {
		for _, n := range beyond(lastThread) {
			done(t, k, who, api.Call{Kind: api.CallPut, T: n, Text: "x"}, api.Reply{})
		}
		for _, n := range beyond(1) {
			done(t, k, who, api.Call{Kind: api.CallPut, T: 3, N: n, Text: "x"}, api.Reply{})
		}
		done(t, k, who, api.Call{Kind: api.CallPut, T: 2, Text: "x"}, api.Reply{})
		done(t, k, who, api.Call{Kind: api.CallPut, T: 0, N: 1, Text: "x"}, api.Reply{})
	}
	done(t, k, 2, api.Call{Kind: api.CallPut, T: 3, Text: "x", Label: at(3, 40)}, api.Reply{})
	if after := state(k); before != after {
		t.Errorf("%s became %s", before, after)
	}
	// It is not asked of which host the call speaks.
	done(t, k, 0, api.Call{Kind: api.CallPut, H: -9, T: 3, N: 1, Text: "x"}, api.Reply{})
	is(t, k, 3, api.Thread{Objects: []api.Object{{}, {Text: "knownx"}}})
}

// P3.6: the last of what is known and put; the object's old text is gone.
func TestPutLast(t *testing.T) {
	k := newKernel(t, 1)
	done(t, k, 0, api.Call{Kind: api.CallObject}, api.Reply{})
	for _, known := range []int{0, 1, 63, 64} {
		for _, said := range []int{0, 1, 2, 63, 64} {
			know(t, k, 0, letters(known))
			done(t, k, 0, api.Call{Kind: api.CallPut, Text: strings.ToUpper(letters(said))}, api.Reply{})
			all := letters(known) + strings.ToUpper(letters(said))
			is(t, k, 0, api.Thread{Text: letters(known), Objects: []api.Object{{Text: all[max(0, len(all)-api.MaxText):]}}})
		}
	}
}

// P3.6
func TestGet(t *testing.T) {
	k := newKernel(t, 1)
	done(t, k, 3, api.Call{Kind: api.CallObject}, api.Reply{N: 0})
	done(t, k, 3, api.Call{Kind: api.CallObject, Label: at(2, 40)}, api.Reply{N: 1})
	done(t, k, 3, api.Call{Kind: api.CallObject, Label: at(0, 50)}, api.Reply{Code: api.ErrFlow})
	done(t, k, 3, api.Call{Kind: api.CallPut, T: 3, N: 0, Text: "low"}, api.Reply{})
	done(t, k, 3, api.Call{Kind: api.CallPut, T: 3, N: 1, Text: "high"}, api.Reply{})
	get := api.Call{Kind: api.CallGet, T: 3, N: 1, Text: "not this"}
	know(t, k, 0, "k:")
	refused(t, k, 0, get, api.ErrNone)
	done(t, k, 0, api.Call{Kind: api.CallGet, T: 3}, api.Reply{N: 3})
	is(t, k, 0, api.Thread{Text: "k:low"})
	raise(t, k, 0, 40, 2)
	done(t, k, 0, get, api.Reply{N: 4})
	done(t, k, 0, api.Call{Kind: api.CallGet, T: 3}, api.Reply{N: 3})
	is(t, k, 0, api.Thread{Label: at(2, 40), Text: "k:lowhighlow"})
	// Its owner may; that the object's thread owns it helps nobody, not itself either without the label.
	refused(t, k, 3, get, api.ErrNone)
	give(t, k, 1, 40)
	refused(t, k, 3, get, api.ErrNone)
	refused(t, k, 2, get, api.ErrNone)
	done(t, k, 1, get, api.Reply{N: 4})
	is(t, k, 1, api.Thread{Own: []int{40}, Text: "high"})
	give(t, k, 3, 40)
	done(t, k, 3, get, api.Reply{N: 4})
	refused(t, k, 2, get, api.ErrNone)
	is(t, k, 3, api.Thread{Own: []int{40}, Text: "high", Objects: []api.Object{{Text: "low"}, {Label: at(2, 40), Text: "high"}}})
}

// P3.6
func TestGetNothing(t *testing.T) {
	k := newKernel(t, 1)
	know(t, k, 0, "known")
	done(t, k, 0, api.Call{Kind: api.CallObject}, api.Reply{N: 0})
	done(t, k, 3, api.Call{Kind: api.CallObject}, api.Reply{N: 0})
	done(t, k, 3, api.Call{Kind: api.CallObject}, api.Reply{N: 1})
	for who := range api.Threads {
		for _, n := range beyond(lastThread) {
			refused(t, k, who, api.Call{Kind: api.CallGet, T: n}, api.ErrNone)
		}
		for _, n := range beyond(1) {
			refused(t, k, who, api.Call{Kind: api.CallGet, T: 3, N: n}, api.ErrNone)
		}
		refused(t, k, who, api.Call{Kind: api.CallGet, T: 2}, api.ErrNone)
		refused(t, k, who, api.Call{Kind: api.CallGet, T: 0, N: 1}, api.ErrNone)
	}
	// An object without text is read like any other one, of whatever host the call speaks.
	done(t, k, 0, api.Call{Kind: api.CallGet, H: -9, T: 3}, api.Reply{N: 0})
	is(t, k, 0, api.Thread{Text: "known", Objects: []api.Object{{}}})
}

// P3.6: of what is known and read the last is known, but N is all that the object has.
func TestGetLast(t *testing.T) {
	k := newKernel(t, 1)
	done(t, k, 1, api.Call{Kind: api.CallObject}, api.Reply{})
	for _, known := range []int{0, 1, 63, 64} {
		for _, has := range []int{0, 1, 2, 63, 64} {
			text := strings.ToUpper(letters(has))
			done(t, k, 1, api.Call{Kind: api.CallPut, T: 1, Text: text}, api.Reply{})
			know(t, k, 0, letters(known))
			done(t, k, 0, api.Call{Kind: api.CallGet, T: 1}, api.Reply{N: has})
			all := letters(known) + text
			is(t, k, 0, api.Thread{Text: all[max(0, len(all)-api.MaxText):]})
			is(t, k, 1, api.Thread{Objects: []api.Object{{Text: text}}})
		}
	}
}

// P3.6
func TestLevel(t *testing.T) {
	k := newKernel(t, 1)
	give(t, k, 0, 30)
	level := func(c, n int, want api.Label) {
		t.Helper()
		raise(t, k, 0, c, n)
		is(t, k, 0, api.Thread{Label: want, Own: []int{30}})
	}
	level(40, 2, at(2, 40))
	level(40, 2, at(2, 40))
	level(lastCategory, api.Top, api.Label{{C: 40, L: 2}, {C: lastCategory, L: api.Top}})
	level(40, api.Top, api.Label{{C: 40, L: api.Top}, {C: lastCategory, L: api.Top}})
	level(0, api.Plain, api.Label{{C: 40, L: api.Top}, {C: lastCategory, L: api.Top}})
	// Up and down in one's own category; at 0, too.
	level(30, 3, api.Label{{C: 30, L: 3}, {C: 40, L: api.Top}, {C: lastCategory, L: api.Top}})
	level(30, 0, api.Label{{C: 30, L: 0}, {C: 40, L: api.Top}, {C: lastCategory, L: api.Top}})
	level(30, 1, api.Label{{C: 40, L: api.Top}, {C: lastCategory, L: api.Top}})
	for _, v := range [][2]int{{40, 2}, {40, 1}, {40, 0}, {lastCategory, 2}, {lastCategory, 1}, {5, 0}} {
		refused(t, k, 0, api.Call{Kind: api.CallLevel, C: v[0], N: v[1]}, api.ErrFlow)
	}
}

// P3.6
func TestLevelRefused(t *testing.T) {
	k := newKernel(t, 1)
	give(t, k, 0, 70)
	for c := range api.MaxLevels {
		raise(t, k, 0, c, 2)
	}
	for who := range 2 {
		for _, n := range beyond(lastCategory) {
			refused(t, k, who, api.Call{Kind: api.CallLevel, C: n, N: 2}, api.ErrRange)
			refused(t, k, who, api.Call{Kind: api.CallLevel, C: n, N: 0}, api.ErrRange)
		}
		for _, n := range beyond(api.Top) {
			refused(t, k, who, api.Call{Kind: api.CallLevel, C: 3, N: n}, api.ErrRange)
			refused(t, k, who, api.Call{Kind: api.CallLevel, C: 20, N: n}, api.ErrRange)
		}
	}
	// ErrFull comes with Set, ahead of whether it may flow.
	for _, c := range []int{api.MaxLevels, 70, lastCategory} {
		refused(t, k, 0, api.Call{Kind: api.CallLevel, C: c, N: 3}, api.ErrFull)
		refused(t, k, 0, api.Call{Kind: api.CallLevel, C: c, N: 0}, api.ErrFull)
	}
	refused(t, k, 0, api.Call{Kind: api.CallLevel, C: 0, N: 0}, api.ErrFlow)
	raise(t, k, 0, 70, api.Plain)
	raise(t, k, 0, 7, 3)
	is(t, k, 0, api.Thread{Own: []int{70}, Label: append(at(2, rising(0, 7)...), api.Level{C: 7, L: 3})})
}

// P3.7
func TestTake(t *testing.T) {
	k := newKernel(t, 1)
	know(t, k, 2, "k:")
	k.Deliver(2, api.Mail{Host: 3, Thread: 2, Text: "one,", Grants: []int{9, 50}})
	k.Deliver(2, api.Mail{Host: 0, Thread: 0, Text: "two,", Label: at(0, 5)})
	k.Deliver(2, api.Mail{Host: lastHost, Thread: lastThread, Grants: []int{0, 9, lastCategory}})
	take := api.Call{Kind: api.CallTake, Text: "not this", N: 2, T: 3, H: -1}
	rest := k.Thread(2).Mails
	done(t, k, 2, take, api.Reply{N: 3*api.Threads + 2})
	is(t, k, 2, api.Thread{Text: "k:one,", Own: []int{9, 50}, Mails: rest[1:]})
	done(t, k, 2, take, api.Reply{N: 0})
	is(t, k, 2, api.Thread{Text: "k:one,two,", Own: []int{9, 50}, Mails: rest[2:]})
	done(t, k, 2, take, api.Reply{N: api.Hosts*api.Threads - 1})
	end := api.Thread{Text: "k:one,two,", Own: []int{0, 9, 50, lastCategory}}
	is(t, k, 2, end)
	refused(t, k, 2, take, api.ErrNone)
	refused(t, k, 1, take, api.ErrNone)
	is(t, k, 2, end)
}

// P3.7: of what is known and taken the last is known.
func TestTakeLast(t *testing.T) {
	k := newKernel(t, 1)
	for _, known := range []int{0, 1, 63, 64} {
		for _, has := range []int{0, 1, 2, 63, 64} {
			know(t, k, 0, letters(known))
			k.Deliver(0, api.Mail{Text: strings.ToUpper(letters(has))})
			done(t, k, 0, api.Call{Kind: api.CallTake}, api.Reply{})
			all := letters(known) + strings.ToUpper(letters(has))
			is(t, k, 0, api.Thread{Text: all[max(0, len(all)-api.MaxText):]})
		}
	}
}

// P3.7: grants that are owned already take no room; from the first one without room on nothing more is owned.
func TestTakeGrants(t *testing.T) {
	for _, v := range []struct {
		own, grants, want []int
	}{
		{nil, rising(10, 8), rising(10, 8)},
		{rising(10, 8), rising(10, 8), rising(10, 8)},
		{rising(10, 8), []int{9, 10, 18}, rising(10, 8)},
		{rising(10, 7), []int{9, 10, 18}, rising(9, 8)},
		{rising(10, 7), []int{11, 16, 17, 79}, rising(10, 8)},
		{rising(10, 7), []int{70, 71, 72}, append(rising(10, 7), 70)},
		{rising(10, 6), []int{1, 12, 50, 51}, append(append([]int{1}, rising(10, 6)...), 50)},
		{[]int{lastCategory}, []int{0, 1, 2, 3, 4, 5, 6, 7}, []int{0, 1, 2, 3, 4, 5, 6, lastCategory}},
	} {
		k := newKernel(t, 1)
		give(t, k, 0, v.own...)
		is(t, k, 0, api.Thread{Own: v.own})
		k.Deliver(0, api.Mail{Host: 2, Thread: 1, Grants: v.grants, Text: "read all the same"})
		done(t, k, 0, api.Call{Kind: api.CallTake}, api.Reply{N: 2*api.Threads + 1})
		is(t, k, 0, api.Thread{Own: v.want, Text: "read all the same"})
		refused(t, k, 0, api.Call{Kind: api.CallTake}, api.ErrNone)
	}
}

// P3.7: mail may come to who owns its category, and goes on to be taken when the label changes in it.
func TestTakeByOwner(t *testing.T) {
	k := newKernel(t, 1)
	give(t, k, 0, 40)
	raise(t, k, 0, 40, 3)
	k.Deliver(0, api.Mail{Text: "a", Thread: 1, Label: at(3, 40)})
	k.Deliver(0, api.Mail{Text: "b", Thread: 2, Label: at(2, 40)})
	raise(t, k, 0, 40, 0)
	done(t, k, 0, api.Call{Kind: api.CallTake}, api.Reply{N: 1})
	done(t, k, 0, api.Call{Kind: api.CallTake}, api.Reply{N: 2})
	is(t, k, 0, api.Thread{Label: at(0, 40), Own: []int{40}, Text: "ab"})
}

// P3.8
func TestForgetAndSay(t *testing.T) {
	k := newKernel(t, 1)
	done(t, k, 1, api.Call{Kind: api.CallSay}, api.Reply{})
	for _, text := range []string{"x", letters(api.MaxText), "", "\x00\xff\xfe", letters(api.MaxText - 1)} {
		know(t, k, 1, text)
		is(t, k, 1, api.Thread{Text: text})
		done(t, k, 1, api.Call{Kind: api.CallSay, Text: "not this", N: 5}, api.Reply{Text: text})
		is(t, k, 1, api.Thread{Text: text})
		is(t, k, 0, api.Thread{})
	}
}

// P3.8: what is forgotten is the text alone.
func TestForgetTextAlone(t *testing.T) {
	k := newKernel(t, 1)
	give(t, k, 1, 20)
	raise(t, k, 1, 30, 3)
	done(t, k, 1, api.Call{Kind: api.CallObject, Label: at(3, 30)}, api.Reply{})
	done(t, k, 1, api.Call{Kind: api.CallPut, T: 1, Text: "kept"}, api.Reply{})
	k.Deliver(1, api.Mail{Text: "kept, too"})
	know(t, k, 1, "secret")
	know(t, k, 1, "")
	is(t, k, 1, api.Thread{
		Label: at(3, 30), Own: []int{20},
		Objects: []api.Object{{Label: at(3, 30), Text: "kept"}}, Mails: []api.Mail{{Text: "kept, too"}},
	})
}

// roomy is a list with a mark in its spare room.
func roomy[E any](mark E, list ...E) []E {
	all := append(slices.Clone(list), mark, mark, mark)
	return all[:len(list)]
}

// marked is whether the spare room of a roomy list holds the mark yet.
func marked[E comparable](list []E, mark E) bool {
	for _, v := range list[len(list) : len(list)+3] {
		if v != mark {
			return false
		}
	}
	return true
}

// What is handed in is neither changed nor kept.
func TestHandedIn(t *testing.T) {
	levelMark, mark := api.Level{C: -5, L: -5}, -5
	k := newKernel(t, 1)
	give(t, k, 0, 1, 2, 3, 4)
	for who := range api.Threads {
		l := roomy(levelMark, at(3, 40, 41)...)
		g := roomy(mark, 1, 2, 3)
		k.Call(0, api.Call{Kind: api.CallObject, Label: l, Grants: g})
		k.Call(0, api.Call{Kind: api.CallTake, Label: l, Grants: g})
		if _, e := k.Letter(0, api.Call{Label: l, Grants: g}); e != api.OK {
			t.Errorf("letter: %d", e)
		}
		give(t, k, who, 40, 41, 1)
		k.Deliver(who, api.Mail{Label: l, Grants: g, Text: "x"})
		before := state(k)
		if !label.Same(l, at(3, 40, 41)) || !slices.Equal(g, []int{1, 2, 3}) || !marked(l, levelMark) || !marked(g, mark) {
			t.Errorf("changed: %v %v", l[:len(l)+3], g[:len(g)+3])
		}
		l[0], l[1], g[0], g[2] = levelMark, levelMark, mark, mark
		if after := state(k); before != after {
			t.Errorf("kept:\n%s became\n%s", before, after)
		}
		done(t, k, who, api.Call{Kind: api.CallTake}, api.Reply{})
		if th := k.Thread(who); !slices.Contains(th.Own, 3) || slices.Contains(th.Own, mark) {
			t.Errorf("owns %v", th.Own)
		}
	}
}

// spoil writes over all that a thread's answer holds, its spare room too.
func spoil(th api.Thread) {
	wipe(th.Label)
	wipe(th.Own)
	for _, o := range th.Objects {
		wipe(o.Label)
	}
	for _, m := range th.Mails {
		wipe(m.Label)
		wipe(m.Grants)
	}
	wipe(th.Objects)
	wipe(th.Mails)
}

func wipe[E any](list []E) {
	clear(list[:cap(list)])
}

// What is answered is the caller's: writing over it changes no kernel, and no two answers are one.
func TestAnswered(t *testing.T) {
	k := newKernel(t, 1)
	give(t, k, 0, 50, 3, 7)
	raise(t, k, 0, 40, 3)
	for range 3 {
		done(t, k, 0, api.Call{Kind: api.CallObject, Label: at(3, 40, 41)}, api.Reply{N: len(k.Thread(0).Objects)})
		k.Deliver(0, api.Mail{Label: at(2, 7, 40), Grants: []int{3, 60}, Text: "x"})
	}
	before := state(k)
	spoil(k.Thread(0))
	if after := state(k); before != after {
		t.Errorf("%s became\n%s", before, after)
	}
	l, g := at(3, 40), []int{3, 7}
	m, e := k.Letter(0, api.Call{Label: l, Grants: g})
	if e != api.OK {
		t.Fatal(e)
	}
	k.Deliver(0, m)
	before = state(k)
	wipe(m.Label)
	wipe(m.Grants)
	if after := state(k); before != after {
		t.Errorf("%s became\n%s", before, after)
	}
	if !label.Same(l, at(3, 40)) || !slices.Equal(g, []int{3, 7}) {
		t.Errorf("a letter's lists are the call's: %v %v", l, g)
	}
	spare := k.Thread(0)
	spare.Objects[0].Label[0].L, spare.Own[0], spare.Mails[0].Grants[0], spare.Mails[0].Label[0].L = 0, 9, 9, 0
	_ = append(spare.Own, 9)
	_ = append(spare.Label, api.Level{C: 9, L: 9})
	if after := state(k); before != after {
		t.Errorf("%s became\n%s", before, after)
	}
}

// wild is a call of numbers and lists of all kinds, good and bad.
func wild(r *rand.Rand) api.Call {
	number := func(last int) int {
		if r.Intn(8) == 0 {
			return beyond(last)[r.Intn(8)]
		}
		return r.Intn(last + 1)
	}
	c := api.Call{
		Kind: number(api.CallSay), H: number(lastHost), T: number(lastThread), N: number(api.MaxObjects - 1), C: number(lastCategory),
		Text: letters(r.Intn(api.MaxText + 3)),
	}
	for i := range r.Intn(4) {
		c.Label = append(c.Label, api.Level{C: 20*i + number(4), L: number(api.Top)})
	}
	for i := range r.Intn(4) {
		c.Grants = append(c.Grants, 20*i+number(4))
	}
	return c
}

// sound holds a thread to what holds of every one.
func sound(th api.Thread) error {
	if !label.Good(th.Label) || len(th.Text) > api.MaxText || len(th.Objects) > api.MaxObjects || len(th.Mails) > api.MaxMail {
		return fmt.Errorf("not sound: %+v", th)
	}
	if wire.GoodMail(api.Mail{Grants: th.Own}) != api.OK {
		return fmt.Errorf("not what one owns: %v", th.Own)
	}
	for _, o := range th.Objects {
		if !label.Good(o.Label) || len(o.Text) > api.MaxText {
			return fmt.Errorf("no object: %+v", o)
		}
	}
	for _, m := range th.Mails {
		if wire.GoodMail(m) != api.OK || !label.Flows(m.Label, th.Label, th.Own) {
			return fmt.Errorf("no mail for it: %+v", m)
		}
	}
	return nil
}

// All promises: whatever is called, nothing panics, what is refused changes nothing, and the limits hold.
func TestWildCalls(t *testing.T) {
	r := rand.New(rand.NewSource(3))
	for range 200 {
		k := newKernel(t, r.Intn(api.Hosts))
		for range 150 {
			who, c := r.Intn(api.Threads), wild(r)
			before := state(k)
			if m, e := k.Letter(who, c); e == api.OK && wire.GoodMail(m) == api.OK {
				k.Deliver(c.T, m)
				before = state(k)
			} else if e == api.OK || !reflect.DeepEqual(plainMail(m), api.Mail{}) {
				t.Fatalf("letter of %d, %+v: %+v, %d", who, c, m, e)
			}
			reply := k.Call(who, c)
			after := state(k)
			if reply.Code != api.OK && (reply != api.Reply{Code: reply.Code} || before != after) {
				t.Fatalf("%d %+v: %+v, and\n%s became\n%s", who, c, reply, before, after)
			}
			for i := range api.Threads {
				if e := sound(k.Thread(i)); e != nil {
					t.Fatalf("%d %+v: %v", who, c, e)
				}
			}
		}
	}
}

// All promises together: what a thread does that stands high is not to be seen by those who stand below.
func TestNothingIsSeenFromBelow(t *testing.T) {
	r := rand.New(rand.NewSource(4))
	for range 200 {
		quiet, loud := newKernel(t, 0), newKernel(t, 0)
		for _, k := range []*kernel.Kernel{quiet, loud} {
			raise(t, k, 3, 75, 3)
			for who := range 3 {
				k.Call(who, api.Call{Kind: api.CallObject, Label: at(3, 75)})
				k.Call(who, api.Call{Kind: api.CallObject})
			}
		}
		for range 100 {
			c := wild(r)
			// How many categories are made is told to all, by their numbers.
			if c.Kind != api.CallCategory {
				loud.Call(3, c)
			}
			if m, e := loud.Letter(3, c); e == api.OK {
				loud.Deliver(r.Intn(3), m)
			}
			who, c := r.Intn(3), wild(r)
			// Who wants to stand high itself does not stand below any more.
			if c.Kind == api.CallLevel && c.C == 75 {
				continue
			}
			if a, b := quiet.Call(who, c), loud.Call(who, c); a != b {
				t.Fatalf("%d %+v: %+v, but %+v", who, c, a, b)
			}
			for low := range 3 {
				a, b := quiet.Thread(low), loud.Thread(low)
				if a.Text != b.Text || !slices.Equal(a.Own, b.Own) || !label.Same(a.Label, b.Label) {
					t.Fatalf("thread %d:\n%+v, but\n%+v", low, a, b)
				}
			}
		}
	}
}
