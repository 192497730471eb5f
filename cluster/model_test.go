package cluster_test

import (
	"fmt"
	"math/rand"
	"slices"
	"testing"

	"parclose/api"
	"parclose/cluster"
	"parclose/kernel"
	"parclose/wire"
)

// way is from one host to another one.
type way struct{ from, to int }

// waiting is a frame that its sender waits for an answer to.
type waiting struct {
	frame     api.Frame
	sent, due int
}

// model is a cluster worked out in another way: it remembers every number that ever came, holds frames and not bytes under way, and asks for trust by going through all certs as often as there are hosts.
type model struct {
	now, acts int
	kernels   []*kernel.Kernel
	certs     map[int][]api.Cert
	next      map[way]int
	waits     map[way][]waiting
	came      map[way][]int
	net       []api.Frame
	twice     int
	old       int
	mistrust  int
	full      int
}

func newModel() *model {
	m := &model{certs: map[int][]api.Cert{}, next: map[way]int{}, waits: map[way][]waiting{}, came: map[way][]int{}}
	for h := range api.Hosts {
		k, _ := kernel.New(h)
		m.kernels = append(m.kernels, k)
	}
	return m
}

func (m *model) trusts(h, host int, mail api.Mail) bool {
	names := slices.Clone(mail.Grants)
	for _, v := range mail.Label {
		names = append(names, v.C)
	}
	for _, c := range names {
		trusted := map[int]bool{c / api.Categories: true}
		for range api.Hosts {
			for _, v := range m.certs[h] {
				if v.C == c && trusted[v.By] && v.Until >= m.now {
					trusted[v.Host] = true
				}
			}
		}
		if !trusted[host] {
			return false
		}
	}
	return true
}

func (m *model) learnCert(h int, v api.Cert) api.Errno {
	if slices.Contains(m.certs[h], v) {
		return api.OK
	}
	if len(m.certs[h]) == api.MaxCerts {
		return api.ErrFull
	}
	m.certs[h] = append(m.certs[h], v)
	return api.OK
}

func (m *model) launch(f api.Frame) {
	if len(m.net) == api.MaxNet {
		m.full++
		return
	}
	m.net = append(m.net, f)
}

func within(n, first, last int) bool { return first <= n && n <= last }

func (m *model) send(h, who int, x api.Call) api.Errno {
	if len(x.Text) > api.MaxText {
		return api.ErrLong
	}
	if !within(x.H, 0, lastHost) || !within(x.T, 0, lastThread) {
		return api.ErrNone
	}
	mail, e := m.kernels[h].Letter(who, x)
	if e != api.OK {
		return e
	}
	if x.H == h {
		m.kernels[h].Deliver(x.T, mail)
		return api.OK
	}
	if !m.trusts(h, x.H, mail) {
		return api.ErrTrust
	}
	w := way{h, x.H}
	if len(m.waits[w]) == api.MaxOut {
		return api.ErrFull
	}
	m.next[w]++
	f := api.Frame{From: h, To: x.H, Seq: m.next[w], Thread: x.T, Mail: mail}
	for _, v := range m.certs[h] {
		if slices.Contains(mail.Grants, v.C) || slices.ContainsFunc(mail.Label, func(l api.Level) bool { return l.C == v.C }) {
			f.Certs = append(f.Certs, v)
		}
	}
	m.waits[w] = append(m.waits[w], waiting{f, 1, m.now + 2})
	m.launch(f)
	return api.OK
}

func (m *model) certify(h, who int, x api.Call) api.Errno {
	if !within(x.H, 0, lastHost) || x.H == h || !within(x.N, 0, api.MaxTime) {
		return api.ErrRange
	}
	if !slices.Contains(m.kernels[h].Thread(who).Own, x.C) {
		return api.ErrOwn
	}
	return m.learnCert(h, api.Cert{C: x.C, By: h, Host: x.H, Until: x.N})
}

func (m *model) arrive(f api.Frame) {
	w := way{f.From, f.To}
	if f.Ack {
		back := way{f.To, f.From}
		m.waits[back] = slices.DeleteFunc(slices.Clone(m.waits[back]), func(v waiting) bool { return v.frame.Seq == f.Seq })
		return
	}
	if len(m.came[w]) > 0 && f.Seq <= slices.Max(m.came[w])-api.Window {
		m.old++
		return
	}
	m.launch(answerTo(f))
	if slices.Contains(m.came[w], f.Seq) {
		m.twice++
		return
	}
	m.came[w] = append(m.came[w], f.Seq)
	for _, v := range f.Certs {
		m.learnCert(f.To, v)
	}
	if !m.trusts(f.To, f.From, f.Mail) {
		m.mistrust++
		return
	}
	m.kernels[f.To].Deliver(f.Thread, f.Mail)
}

func (m *model) tick(n int) api.Reply {
	if n < 1 || n > api.MaxTime || m.now+n > api.MaxTime {
		return api.Reply{Code: api.ErrRange}
	}
	m.now += n
	count := 0
	for i := range api.Hosts * api.Hosts {
		w := way{i / api.Hosts, i % api.Hosts}
		var left []waiting
		for _, v := range m.waits[w] {
			if v.due > m.now {
				left = append(left, v)
			} else if v.sent < api.MaxTries {
				wait := 2
				for range v.sent {
					wait *= 2
				}
				left = append(left, waiting{v.frame, v.sent + 1, m.now + wait})
				m.launch(v.frame)
				count++
			}
		}
		m.waits[w] = left
	}
	return api.Reply{N: count}
}

func (m *model) handle(a api.Act) api.Reply {
	if !within(a.N, 0, len(m.net)-1) {
		return api.Reply{Code: api.ErrNone}
	}
	f := m.net[a.N]
	if a.Kind != api.ActCopy {
		m.net = slices.Delete(slices.Clone(m.net), a.N, a.N+1)
	}
	if a.Kind != api.ActDrop {
		m.arrive(f)
	}
	s, _ := wire.Encode(f)
	return api.Reply{N: len(s)}
}

func (m *model) do(a api.Act) api.Reply {
	m.acts++
	if m.acts > api.MaxActs {
		return api.Reply{Code: api.ErrFull}
	}
	if !within(a.Kind, api.ActCall, api.ActTick) {
		return api.Reply{Code: api.ErrKind}
	}
	if a.Kind == api.ActTick {
		return m.tick(a.N)
	}
	if a.Kind != api.ActCall {
		return m.handle(a)
	}
	if !within(a.H, 0, lastHost) || !within(a.T, 0, lastThread) {
		return api.Reply{Code: api.ErrNone}
	}
	switch a.Call.Kind {
	case api.CallSend:
		return api.Reply{Code: m.send(a.H, a.T, a.Call)}
	case api.CallCertify:
		return api.Reply{Code: m.certify(a.H, a.T, a.Call)}
	}
	return m.kernels[a.H].Call(a.T, a.Call)
}

// against holds all that a cluster tells of itself against the model.
func (m *model) against(c *cluster.Cluster) error {
	if c.Now() != m.now {
		return fmt.Errorf("time %d; wanted %d", c.Now(), m.now)
	}
	for h := range api.Hosts {
		if got := c.Certs(h); !slices.Equal(got, m.certs[h]) {
			return fmt.Errorf("certs of %d: %v; wanted %v", h, got, m.certs[h])
		}
		for who := range api.Threads {
			got, want := fmt.Sprintf("%#v", plain(c.Thread(h, who))), fmt.Sprintf("%#v", plain(m.kernels[h].Thread(who)))
			if got != want {
				return fmt.Errorf("%d %d: %s; wanted %s", h, who, got, want)
			}
		}
	}
	var net []string
	for _, f := range m.net {
		s, _ := wire.Encode(f)
		net = append(net, s)
	}
	if got := c.Net(); !slices.Equal(got, net) {
		return fmt.Errorf("under way: %x; wanted %x", got, net)
	}
	return nil
}

// dice throws acts of all kinds, most of them such as may succeed.
type dice struct {
	*rand.Rand
	rate [5]int // how often there is a call, and each thing that the net does, and a tick
	one  bool   // most goes on one line, so that what lingers in the net gets old
}

// number is one from 0 to last, seldom one that is beyond.
func (d dice) number(last int) int {
	if d.Intn(60) == 0 {
		return beyond(last)[d.Intn(8)]
	}
	return d.Intn(last + 1)
}

// category is one of few, so that threads have to do with the same ones.
func (d dice) category() int {
	if d.Intn(30) == 0 {
		return d.number(lastCategory)
	}
	return api.Categories*d.Intn(api.Hosts) + d.Intn(2)
}

func (d dice) of(list []int) int {
	if len(list) == 0 || d.Intn(12) == 0 {
		return d.category()
	}
	return list[d.Intn(len(list))]
}

func (d dice) letter(th api.Thread) api.Call {
	x := api.Call{Kind: api.CallSend, H: d.number(lastHost), T: d.number(lastThread), Text: letters(d.Intn(8))}
	if d.Intn(3) > 0 {
		x.Label = slices.Clone(th.Label)
	}
	if d.Intn(3) == 0 {
		x.Label = at(d.Intn(api.Top+1), d.of(th.Own))
	}
	if d.Intn(3) == 0 {
		x.Grants = []int{d.of(th.Own)}
	}
	if d.Intn(40) == 0 {
		x.Text = letters(api.MaxText + d.Intn(2))
	}
	if d.one && d.Intn(4) > 0 {
		x.H, x.Label, x.Grants = 1, nil, nil
	}
	return x
}

func (d dice) call(th api.Thread, now int) api.Call {
	switch d.Intn(20) {
	case 0:
		return api.Call{Kind: api.CallCategory}
	case 1:
		return api.Call{Kind: api.CallLevel, C: d.category(), N: d.number(api.Top)}
	case 2, 3, 4:
		return api.Call{Kind: api.CallTake}
	case 5, 6, 7, 8:
		return api.Call{Kind: api.CallCertify, C: d.of(th.Own), H: d.number(lastHost), N: max(0, now-3+d.number(60))}
	case 9:
		return api.Call{Kind: d.number(api.CallSay), H: d.number(lastHost), T: d.number(lastThread), N: d.number(3), C: d.category(), Label: th.Label, Text: letters(d.Intn(api.MaxText + 3))}
	}
	return d.letter(th)
}

func (d dice) act(c *cluster.Cluster) api.Act {
	net := len(c.Net())
	sum := 0
	for _, n := range d.rate {
		sum += n
	}
	n, kind := d.Intn(sum), 0
	for n >= d.rate[kind] {
		n -= d.rate[kind]
		kind++
	}
	switch kind + 1 {
	case api.ActCall:
		// Few threads call, so that some lines get full.
		h, who := d.number(lastHost), d.number(lastThread)
		if d.Intn(2) == 0 {
			h, who = 0, 0
		}
		return called(h, who, d.call(c.Thread(h, who), c.Now()))
	case api.ActTick:
		if d.Intn(20) == 0 {
			return ticks(beyond(api.MaxTime)[d.Intn(8)])
		}
		return ticks(d.Intn(9))
	}
	if d.Intn(60) == 0 {
		return api.Act{Kind: d.number(api.ActTick), N: d.number(net)}
	}
	if d.one && d.Intn(4) > 0 {
		return api.Act{Kind: kind + 1, N: max(0, net-1-d.Intn(3))}
	}
	return api.Act{Kind: kind + 1, N: d.Intn(net + 1)}
}

// prologue is acts by which each host owns something, and some trust some.
func (d dice) prologue() []api.Act {
	var acts []api.Act
	for h := range api.Hosts {
		acts = append(acts, makes(h, 0), makes(h, 1))
		for who := range 2 {
			to := (h + 1 + d.Intn(3)) % api.Hosts
			acts = append(acts, certifies(h, who, api.Categories*h+who, to, 20+d.Intn(200)))
		}
	}
	return acts
}

// All promises: whatever is done, a cluster tells what the model tells.
func TestAgainstModel(t *testing.T) {
	codes := map[api.Errno]int{}
	sum := model{}
	boxes := 0
	for i, rate := range [][5]int{{8, 8, 1, 1, 1}, {8, 4, 4, 1, 1}, {6, 2, 1, 4, 2}, {10, 1, 1, 0, 4}, {8, 1, 12, 1, 2}, {3, 8, 3, 1, 3}} {
		for seed := range 25 {
			d := dice{rand.New(rand.NewSource(int64(100*i + seed))), rate, seed%3 == 0}
			c, m := cluster.New(), newModel()
			acts := d.prologue()
			var replies []api.Reply
			for n := range api.MaxActs + 3 {
				if n == len(acts) {
					acts = append(acts, d.act(c))
				}
				got, want := c.Do(acts[n]), m.do(acts[n])
				if got != want {
					t.Fatalf("%d %d, act %d %+v: %+v; wanted %+v", i, seed, n, acts[n], got, want)
				}
				if e := m.against(c); e != nil {
					t.Fatalf("%d %d, act %d %+v: %v", i, seed, n, acts[n], e)
				}
				if n < api.MaxActs && (acts[n].Call.Kind == api.CallSend || acts[n].Call.Kind == api.CallCertify) {
					codes[got.Code]++
				}
				replies = append(replies, got)
			}
			if l, e := cluster.Run(acts[:api.MaxActs]); e != api.OK || !slices.Equal(l, replies[:api.MaxActs]) {
				t.Fatalf("%d %d: run: %d", i, seed, e)
			}
			sum.twice, sum.old, sum.mistrust, sum.full = sum.twice+m.twice, sum.old+m.old, sum.mistrust+m.mistrust, sum.full+m.full
			for h := range api.Hosts {
				boxes += len(c.Thread(h, 2).Mails)
			}
		}
	}
	// The dice are thrown well if all there is has happened.
	for _, e := range []api.Errno{api.OK, api.ErrRange, api.ErrNone, api.ErrFull, api.ErrFlow, api.ErrOwn, api.ErrTrust, api.ErrLong} {
		if codes[e] < 10 {
			t.Errorf("%d was told %d times", e, codes[e])
		}
	}
	if sum.twice < 10 || sum.old < 10 || sum.mistrust < 10 || sum.full < 10 || boxes < 10 {
		t.Errorf("twice %d, old %d, not trusted %d, lost %d, came %d", sum.twice, sum.old, sum.mistrust, sum.full, boxes)
	}
}
