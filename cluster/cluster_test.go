package cluster_test

import (
	"fmt"
	"math"
	"reflect"
	"slices"
	"strings"
	"testing"

	"parclose/api"
	"parclose/cluster"
	"parclose/kernel"
	"parclose/wire"
)

const (
	lastHost     = api.Hosts - 1
	lastThread   = api.Threads - 1
	lastCategory = api.Hosts*api.Categories - 1
	answerBytes  = 9
)

// beyond is numbers out of the bounds of what goes from 0 to last.
func beyond(last int) []int {
	return []int{math.MinInt, -1 << 32, -256, -1, last + 1, last + 256, last + 1<<32, math.MaxInt}
}

// at is a label that has some categories at a level.
func at(level int, categories ...int) api.Label {
	var l api.Label
	for _, c := range categories {
		l = append(l, api.Level{C: c, L: level})
	}
	return l
}

// letters is a text of n bytes, in which no byte is like its neighbours.
func letters(n int) string {
	var b strings.Builder
	for i := range n {
		b.WriteByte(byte('a' + i%26))
	}
	return b.String()
}

// called is the act in which a thread calls.
func called(h, who int, x api.Call) api.Act {
	return api.Act{Kind: api.ActCall, H: h, T: who, Call: x}
}

// sends is the act in which a thread sends a text to another one, with a label and grants.
func sends(h, who, to, whom int, text string, l api.Label, grants ...int) api.Act {
	return called(h, who, api.Call{Kind: api.CallSend, H: to, T: whom, Text: text, Label: l, Grants: grants})
}

// certifies is the act in which a thread says that a host may be trusted with a category.
func certifies(h, who, category, host, until int) api.Act {
	return called(h, who, api.Call{Kind: api.CallCertify, C: category, H: host, N: until})
}

func makes(h, who int) api.Act { return called(h, who, api.Call{Kind: api.CallCategory}) }

func raises(h, who, category, level int) api.Act {
	return called(h, who, api.Call{Kind: api.CallLevel, C: category, N: level})
}

func takes(h, who int) api.Act { return called(h, who, api.Call{Kind: api.CallTake}) }

func delivers(n int) api.Act { return api.Act{Kind: api.ActDeliver, N: n} }

func copies(n int) api.Act { return api.Act{Kind: api.ActCopy, N: n} }

func drops(n int) api.Act { return api.Act{Kind: api.ActDrop, N: n} }

func ticks(n int) api.Act { return api.Act{Kind: api.ActTick, N: n} }

// plain is a thread in which a list without elements is nil.
func plain(th api.Thread) api.Thread {
	if len(th.Label) == 0 {
		th.Label = nil
	}
	if len(th.Own) == 0 {
		th.Own = nil
	}
	if len(th.Objects) == 0 {
		th.Objects = nil
	}
	for i := range th.Objects {
		if len(th.Objects[i].Label) == 0 {
			th.Objects[i].Label = nil
		}
	}
	if len(th.Mails) == 0 {
		th.Mails = nil
	}
	for i, m := range th.Mails {
		th.Mails[i] = plainMail(m)
	}
	return th
}

func plainMail(m api.Mail) api.Mail {
	if len(m.Label) == 0 {
		m.Label = nil
	}
	if len(m.Grants) == 0 {
		m.Grants = nil
	}
	return m
}

// state is all that a cluster tells of itself, as a text: that shares no memory with the cluster, whatever this one answers.
func state(c *cluster.Cluster) string {
	var b strings.Builder
	fmt.Fprintf(&b, "time %d\n", c.Now())
	for h := range api.Hosts {
		for who := range api.Threads {
			fmt.Fprintf(&b, "%d %d: %#v\n", h, who, plain(c.Thread(h, who)))
		}
		fmt.Fprintf(&b, "certs %v\n", c.Certs(h))
	}
	for _, s := range c.Net() {
		fmt.Fprintf(&b, "%x\n", s)
	}
	return b.String()
}

// done does an act, and holds its reply against what it must be.
func done(t *testing.T, c *cluster.Cluster, a api.Act, want api.Reply) {
	t.Helper()
	if got := c.Do(a); got != want {
		t.Errorf("%+v: %+v; wanted %+v", a, got, want)
	}
}

// ok does acts to which nothing is replied but that they were done.
func ok(t *testing.T, c *cluster.Cluster, acts ...api.Act) {
	t.Helper()
	for _, a := range acts {
		done(t, c, a, api.Reply{})
	}
}

// refused does an act that must be refused, and holds the cluster to changing nothing by it.
func refused(t *testing.T, c *cluster.Cluster, a api.Act, e api.Errno) {
	t.Helper()
	before := state(c)
	done(t, c, a, api.Reply{Code: e})
	if after := state(c); before != after {
		t.Errorf("%+v: refused, but\n%s became\n%s", a, before, after)
	}
}

// frames is the frames under way.
func frames(t *testing.T, c *cluster.Cluster) []api.Frame {
	t.Helper()
	var list []api.Frame
	for _, s := range c.Net() {
		f, e := wire.Decode(s)
		if e != api.OK {
			t.Fatalf("%x is no frame: %d", s, e)
		}
		list = append(list, f)
	}
	return list
}

// bytesOf is a frame as it stands in the net.
func bytesOf(t *testing.T, f api.Frame) string {
	t.Helper()
	s, e := wire.Encode(f)
	if e != api.OK {
		t.Fatalf("%+v: %d", f, e)
	}
	return s
}

// inNet holds the net against the frames that must be there.
func inNet(t *testing.T, c *cluster.Cluster, want ...api.Frame) {
	t.Helper()
	var list []string
	for _, f := range want {
		list = append(list, bytesOf(t, f))
	}
	if got := c.Net(); !slices.Equal(got, list) {
		t.Errorf("under way: %+v; wanted %+v", frames(t, c), want)
	}
}

func answerTo(f api.Frame) api.Frame {
	return api.Frame{From: f.To, To: f.From, Seq: f.Seq, Ack: true}
}

// moved does an act of the net to its frame n, and holds the reply to telling how many bytes that has.
func moved(t *testing.T, c *cluster.Cluster, kind, n int) {
	t.Helper()
	net := c.Net()
	if n >= len(net) {
		t.Fatalf("%d are under way: no frame %d", len(net), n)
	}
	done(t, c, api.Act{Kind: kind, N: n}, api.Reply{N: len(net[n])})
}

// flush delivers until nothing is under way.
func flush(t *testing.T, c *cluster.Cluster) {
	t.Helper()
	for len(c.Net()) > 0 {
		moved(t, c, api.ActDeliver, 0)
	}
}

// texts is the texts of the mails in a thread's box.
func texts(c *cluster.Cluster, h, who int) []string {
	var list []string
	for _, m := range c.Thread(h, who).Mails {
		list = append(list, m.Text)
	}
	return list
}

// has holds a box against the texts of the mails that must be in it.
func has(t *testing.T, c *cluster.Cluster, h, who int, want ...string) {
	t.Helper()
	if got := texts(c, h, who); !slices.Equal(got, want) {
		t.Errorf("box of %d %d: %q; wanted %q", h, who, got, want)
	}
}

// certsAre holds a host's certs against those that it must have.
func certsAre(t *testing.T, c *cluster.Cluster, h int, want ...api.Cert) {
	t.Helper()
	if got := c.Certs(h); !slices.Equal(got, want) {
		t.Errorf("certs of %d: %v; wanted %v", h, got, want)
	}
}

// P6.1
func TestNew(t *testing.T) {
	c := cluster.New()
	if c.Now() != 0 || len(c.Net()) != 0 {
		t.Errorf("%d, %q", c.Now(), c.Net())
	}
	for h := range api.Hosts {
		certsAre(t, c, h)
		for who := range api.Threads {
			if th := plain(c.Thread(h, who)); !reflect.DeepEqual(th, api.Thread{}) {
				t.Errorf("%d %d: %+v", h, who, th)
			}
		}
	}
	for h := range api.Hosts {
		for i := range 3 {
			done(t, c, makes(h, i), api.Reply{N: h*api.Categories + i})
		}
	}
}

// P6.1: each line is one that nothing was sent on.
func TestNewLines(t *testing.T) {
	c := cluster.New()
	done(t, c, ticks(api.MaxTime-100), api.Reply{})
	for from := range api.Hosts {
		for to := range api.Hosts {
			if from == to {
				continue
			}
			ok(t, c, sends(from, 1, to, 2, "hi", nil))
			net := frames(t, c)
			if last := net[len(net)-1]; last.From != from || last.To != to || last.Seq != 1 {
				t.Errorf("%d to %d: %+v", from, to, last)
			}
		}
	}
}

// P6.1: what happens to one cluster does not happen to another one.
func TestClustersApart(t *testing.T) {
	a, b := cluster.New(), cluster.New()
	before := state(b)
	done(t, a, makes(0, 0), api.Reply{})
	ok(t, a, certifies(0, 0, 0, 1, 5), sends(0, 0, 1, 1, "x", nil), sends(0, 0, 0, 1, "x", nil))
	done(t, a, ticks(2), api.Reply{N: 1})
	if after := state(b); before != after {
		t.Errorf("%s became\n%s", before, after)
	}
	if c := state(cluster.New()); c != before {
		t.Errorf("a later one: %s", c)
	}
}

// busy is a cluster in which there is something of everything.
func busy(t *testing.T) *cluster.Cluster {
	t.Helper()
	c := cluster.New()
	for h := range api.Hosts {
		next := (h + 1) % api.Hosts
		first := h * api.Categories
		for i := range 3 {
			done(t, c, makes(h, i), api.Reply{N: first + i})
		}
		ok(t, c, raises(h, 3, first, 3), raises(next, 2, first, 2), certifies(h, 0, first, next, 40), certifies(h, 1, first+1, next, 41))
		ok(t, c, called(h, 3, api.Call{Kind: api.CallObject, Label: at(3, first)}), called(h, 3, api.Call{Kind: api.CallForget, Text: "known"}))
		ok(t, c, sends(h, 0, h, 3, "here", at(2, first), first), sends(h, 1, h, 2, "there", nil, first+1))
		ok(t, c, sends(h, 0, next, 2, "over", at(2, first), first), sends(h, 1, next, 1, "too", nil, first+1))
	}
	done(t, c, ticks(2), api.Reply{N: 2 * api.Hosts})
	for range api.Hosts {
		moved(t, c, api.ActDeliver, 0)
	}
	return c
}

// P6.1
func TestNoneSuch(t *testing.T) {
	c := busy(t)
	nothing := func(c *cluster.Cluster, h, who int) {
		t.Helper()
		if th := c.Thread(h, who); !reflect.DeepEqual(plain(th), api.Thread{}) {
			t.Errorf("thread %d of host %d: %+v", who, h, th)
		}
	}
	for _, n := range beyond(lastHost) {
		nothing(c, n, 0)
		nothing(c, n, n)
		if l := c.Certs(n); len(l) != 0 {
			t.Errorf("certs of host %d: %v", n, l)
		}
	}
	for _, n := range beyond(lastThread) {
		for h := range api.Hosts {
			nothing(c, h, n)
		}
	}
}

// P6.1
func TestNil(t *testing.T) {
	var c *cluster.Cluster
	if c.Now() != 0 || len(c.Net()) != 0 {
		t.Errorf("%d, %q", c.Now(), c.Net())
	}
	for _, n := range append(beyond(lastHost), 0, lastHost) {
		if len(c.Certs(n)) != 0 || !reflect.DeepEqual(c.Thread(n, 0), api.Thread{}) || !reflect.DeepEqual(c.Thread(0, n), api.Thread{}) {
			t.Errorf("%d: %v, %+v, %+v", n, c.Certs(n), c.Thread(n, 0), c.Thread(0, n))
		}
		done(t, c, api.Act{Kind: n}, api.Reply{Code: api.ErrNone})
	}
	for _, a := range []api.Act{
		{}, makes(0, 0), makes(9, 9), sends(0, 0, 0, 1, letters(99), nil), certifies(0, 0, 0, 0, -1), delivers(0), copies(0), drops(-1), ticks(1), ticks(0),
	} {
		for range 2 {
			done(t, c, a, api.Reply{Code: api.ErrNone})
		}
	}
	for range api.MaxActs + 1 {
		done(t, c, ticks(1), api.Reply{Code: api.ErrNone})
	}
}

// A cluster that was not made by New has no threads; it does not panic either.
func TestNotNew(t *testing.T) {
	var c cluster.Cluster
	for kind := range api.CallSay + 2 {
		for to := range 2 {
			if r := c.Do(called(0, 0, api.Call{Kind: kind, H: to})); r.Code == api.OK {
				t.Errorf("%d to %d: %+v", kind, to, r)
			}
		}
	}
	done(t, &c, ticks(1), api.Reply{})
	refused(t, &c, delivers(0), api.ErrNone)
}

// P6.2: every act counts, whatever was replied to it.
func TestMaxActs(t *testing.T) {
	long := called(0, 0, api.Call{Kind: api.CallForget, Text: letters(api.MaxText + 1)})
	for _, acts := range [][]api.Act{
		{{}},
		{ticks(1)},
		{ticks(0)},
		{makes(0, 0)},
		{makes(9, 0)},
		{delivers(0)},
		{long},
		{sends(0, 0, 1, 0, "x", nil)},
		{sends(0, 0, 9, 0, "x", nil), certifies(0, 0, 9, 1, 1)},
		{{}, ticks(1), copies(5), makes(1, 1), {Kind: -1}, long, sends(0, 1, 0, 2, "", nil), sends(0, 1, 3, 2, "", nil), drops(0)},
	} {
		c := cluster.New()
		for i := range api.MaxActs - 1 {
			c.Do(acts[i%len(acts)])
		}
		done(t, c, called(3, 3, api.Call{Kind: api.CallForget, Text: "the last"}), api.Reply{})
		for _, a := range append(acts, api.Act{}, api.Act{Kind: 99}, makes(1, 1), makes(-1, -1), ticks(1), ticks(0), delivers(0), copies(99), drops(0), called(3, 3, api.Call{Kind: api.CallSay})) {
			refused(t, c, a, api.ErrFull)
		}
		if th := c.Thread(3, 3); th.Text != "the last" {
			t.Errorf("%q", th.Text)
		}
	}
}

// P6.2
func TestKinds(t *testing.T) {
	c := busy(t)
	for _, n := range append(beyond(api.ActTick), 0) {
		refused(t, c, api.Act{Kind: n}, api.ErrKind)
		refused(t, c, api.Act{Kind: n, N: 1, Call: api.Call{Kind: api.CallCategory}}, api.ErrKind)
		refused(t, c, api.Act{Kind: n, H: 99, T: -1, N: -1, Call: api.Call{Kind: 99, Text: letters(99)}}, api.ErrKind)
	}
}

// P6.2: who calls is asked ahead of what.
func TestNoSuchCaller(t *testing.T) {
	c := busy(t)
	for _, kind := range []int{math.MinInt, -1, 0, 1, 2, 3, 4, 5, 6, 7, 8, 9, 10, 11, math.MaxInt} {
		for i, n := range beyond(lastHost) {
			x := api.Call{Kind: kind, H: i % api.Hosts, T: i % api.Threads, Text: letters(65 * (i % 2))}
			refused(t, c, called(n, i%api.Threads, x), api.ErrNone)
		}
		if kind%2 == 0 {
			c = busy(t)
		}
	}
	for kind := range 12 {
		for i, n := range beyond(lastThread) {
			x := api.Call{Kind: kind, H: i % api.Hosts, N: i % 3, Text: letters(65 * (i % 2))}
			refused(t, c, called(i%api.Hosts, n, x), api.ErrNone)
		}
		if kind%2 == 0 {
			c = busy(t)
		}
	}
}

// localCalls is calls that concern no other host, good ones and bad ones.
func localCalls() []api.Call {
	return []api.Call{
		{Kind: api.CallForget, Text: "known"},
		{Kind: api.CallSay},
		{Kind: api.CallCategory},
		{Kind: api.CallCategory},
		{Kind: api.CallLevel, C: 79, N: 3},
		{Kind: api.CallLevel, C: 79, N: 0},
		{Kind: api.CallLevel, C: 80, N: 0},
		{Kind: api.CallObject, Label: at(3, 79)},
		{Kind: api.CallObject},
		{Kind: api.CallObject, Label: at(1, 79)},
		{Kind: api.CallPut, T: 0, N: 0, Text: "more", H: 3},
		{Kind: api.CallPut, T: 9, N: 9},
		{Kind: api.CallGet, T: 0, N: 0, H: -1},
		{Kind: api.CallGet, T: 1, N: 0},
		{Kind: api.CallGet, T: 0, N: 7},
		{Kind: api.CallTake},
		{Kind: api.CallSay, H: 77, T: 77},
		{Kind: api.CallSay, Text: letters(api.MaxText + 1)},
		{Kind: api.CallPut, Text: letters(api.MaxText + 1)},
		{Kind: 0, Text: letters(api.MaxText + 1)},
		{Kind: 0},
		{Kind: 11},
		{Kind: -1},
		{Kind: math.MaxInt},
	}
}

// P6.2: each host has a kernel of its own, and each thread is told what that answers.
func TestCallsOfKernels(t *testing.T) {
	c := cluster.New()
	for h := range api.Hosts {
		k, e := kernel.New(h)
		if e != api.OK {
			t.Fatal(e)
		}
		for _, who := range []int{0, h, lastThread} {
			for _, x := range localCalls() {
				done(t, c, called(h, who, x), k.Call(who, x))
			}
		}
		for who := range api.Threads {
			if a, b := plain(c.Thread(h, who)), plain(k.Thread(who)); !reflect.DeepEqual(a, b) {
				t.Errorf("%d %d:\n%+v; wanted\n%+v", h, who, a, b)
			}
		}
	}
	if len(c.Net()) != 0 || c.Now() != 0 {
		t.Errorf("%q, %d", c.Net(), c.Now())
	}
}
