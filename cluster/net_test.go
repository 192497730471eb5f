package cluster_test

import (
	"fmt"
	"math"
	"slices"
	"testing"

	"parclose/api"
	"parclose/cluster"
)

// plainFrame is the frame of mail that names nothing, from thread 0 to thread 1.
func plainFrame(from, to, seq int, text string) api.Frame {
	return api.Frame{From: from, To: to, Seq: seq, Thread: 1, Mail: api.Mail{Host: from, Text: text}}
}

// says is the act that sends a plainFrame.
func says(from, to int, text string) api.Act { return sends(from, 0, to, 1, text, nil) }

// underWay is a cluster with five frames under way, and these.
func underWay(t *testing.T) (*cluster.Cluster, []api.Frame) {
	t.Helper()
	c := cluster.New()
	ok(t, c, says(0, 1, "a"), says(0, 2, "bb"), says(1, 0, "ccc"), says(0, 1, "dddd"), says(3, 2, "eeeee"))
	return c, []api.Frame{
		plainFrame(0, 1, 1, "a"), plainFrame(0, 2, 1, "bb"), plainFrame(1, 0, 1, "ccc"), plainFrame(0, 1, 2, "dddd"), plainFrame(3, 2, 1, "eeeee"),
	}
}

// P6.5
func TestUnderWay(t *testing.T) {
	c, want := underWay(t)
	inNet(t, c, want...)
	if s := c.Net()[0]; s != "\x00\x00\x01\x00\x00\x00\x00\x00\x01\x01\x00\x00\x00\x01a\x00" {
		t.Errorf("%x", s)
	}
}

// P6.5
func TestNoFrame(t *testing.T) {
	for _, kind := range []int{api.ActDeliver, api.ActCopy, api.ActDrop} {
		c := cluster.New()
		for _, n := range append(beyond(0), 0) {
			refused(t, c, api.Act{Kind: kind, N: n}, api.ErrNone)
		}
		c, _ = underWay(t)
		for _, n := range beyond(4) {
			refused(t, c, api.Act{Kind: kind, N: n}, api.ErrNone)
			refused(t, c, api.Act{Kind: kind, N: n, H: 1, T: 1, Call: api.Call{Kind: api.CallCategory, N: 1}}, api.ErrNone)
		}
	}
}

// P6.5: the first, one in between, the last.
func TestDrop(t *testing.T) {
	for n := range 5 {
		c, net := underWay(t)
		done(t, c, drops(n), api.Reply{N: 15 + len(net[n].Mail.Text)})
		inNet(t, c, slices.Delete(net, n, n+1)...)
		for h := range api.Hosts {
			has(t, c, h, 1)
		}
		refused(t, c, drops(4), api.ErrNone)
		// It came to nobody, so that it is sent again.
		done(t, c, ticks(2), api.Reply{N: 5})
	}
}

// P6.5, P6.6
func TestDeliver(t *testing.T) {
	for n := range 5 {
		c, net := underWay(t)
		f := net[n]
		done(t, c, delivers(n), api.Reply{N: 15 + len(f.Mail.Text)})
		inNet(t, c, append(slices.Delete(net, n, n+1), answerTo(f))...)
		for h := range api.Hosts {
			if h == f.To {
				has(t, c, h, 1, f.Mail.Text)
			} else {
				has(t, c, h, 1)
			}
		}
		done(t, c, delivers(4), api.Reply{N: answerBytes})
		refused(t, c, delivers(4), api.ErrNone)
	}
}

// P6.5, P6.6
func TestCopy(t *testing.T) {
	for n := range 5 {
		c, net := underWay(t)
		f := net[n]
		done(t, c, copies(n), api.Reply{N: 15 + len(f.Mail.Text)})
		net = append(net, answerTo(f))
		inNet(t, c, net...)
		has(t, c, f.To, 1, f.Mail.Text)
		done(t, c, copies(5), api.Reply{N: answerBytes})
		inNet(t, c, net...)
	}
}

// P6.5: of a frame with a label, grants and certs.
func TestHowManyBytes(t *testing.T) {
	c := owned(t)
	ok(t, c, certifies(0, 0, 0, 1, 9), certifies(0, 0, 0, 2, 9), sends(0, 0, 1, 1, letters(api.MaxText), at(3, 0), 0))
	want := api.Reply{N: 9 + 2 + 1 + 2 + 1 + 1 + 1 + api.MaxText + 1 + 2*9}
	done(t, c, copies(0), want)
	done(t, c, drops(0), want)
}

// fullNet is a cluster with n frames under way, from host 0 to 1 and 2, of which each is sent once more 16 behind now.
func fullNet(t *testing.T, n int) *cluster.Cluster {
	t.Helper()
	c := cluster.New()
	for i := range api.MaxOut {
		ok(t, c, says(0, 1, fmt.Sprint("a", i)), says(0, 2, fmt.Sprint("b", i)))
	}
	for _, wait := range []int{2, 4, 8} {
		done(t, c, ticks(wait), api.Reply{N: 2 * api.MaxOut})
	}
	for len(c.Net()) > n {
		moved(t, c, api.ActDrop, 0)
	}
	if len(c.Net()) != n {
		t.Fatalf("%d under way; wanted %d", len(c.Net()), n)
	}
	return c
}

// P6.5: what finds the net full is lost, and the sender is not told.
func TestNetFull(t *testing.T) {
	c := fullNet(t, api.MaxNet-1)
	ok(t, c, says(3, 1, "fits"))
	net := c.Net()
	if len(net) != api.MaxNet || net[api.MaxNet-1] != bytesOf(t, plainFrame(3, 1, 1, "fits")) {
		t.Fatalf("%d: %+v", len(net), frames(t, c))
	}
	ok(t, c, says(3, 1, "lost"))
	if got := c.Net(); !slices.Equal(got, net) {
		t.Errorf("%x became\n%x", net, got)
	}
	for range 3 {
		moved(t, c, api.ActDrop, 0)
	}
	// It was sent all the same: it has its number, and is sent again.
	done(t, c, ticks(2), api.Reply{N: 2})
	got := frames(t, c)
	if len(got) != api.MaxNet-1 || got[len(got)-1].Mail.Text != "lost" || got[len(got)-1].Seq != 2 || got[len(got)-2].Mail.Text != "fits" {
		t.Errorf("%+v", got)
	}
}

// P6.5: a frame is gone from the net ahead of its coming, so that there is room for its answer; a copy leaves none.
func TestAnswerInFullNet(t *testing.T) {
	c := fullNet(t, api.MaxNet)
	net := frames(t, c)
	moved(t, c, api.ActCopy, 5)
	inNet(t, c, net...)
	has(t, c, net[5].To, 1, net[5].Mail.Text)
	moved(t, c, api.ActDeliver, 5)
	inNet(t, c, append(slices.Delete(slices.Clone(net), 5, 6), answerTo(net[5]))...)
	has(t, c, net[5].To, 1, net[5].Mail.Text)
}

// P6.5, P6.7: what is sent again is counted also where the net loses it.
func TestTickInFullNet(t *testing.T) {
	c := fullNet(t, api.MaxNet-3)
	net := frames(t, c)
	done(t, c, ticks(16), api.Reply{N: 2 * api.MaxOut})
	for i := range 3 {
		net = append(net, plainFrame(0, 1, 1+i, fmt.Sprint("a", i)))
	}
	inNet(t, c, net...)
	done(t, c, ticks(32), api.Reply{})
	inNet(t, c, net...)
}

// P6.6: what comes to a host is for one thread, and goes by its label.
func TestComes(t *testing.T) {
	c := owned(t)
	ok(t, c, raises(1, 2, 0, 3), certifies(0, 0, 0, 1, 9))
	secret := api.Mail{Host: 0, Thread: 0, Label: at(3, 0), Grants: []int{0}, Text: "s"}
	for who := range api.Threads {
		ok(t, c, sends(0, 0, 1, who, "s", at(3, 0), 0))
	}
	for range api.Threads {
		moved(t, c, api.ActDeliver, 0)
	}
	for who := range api.Threads {
		mails := plain(c.Thread(1, who)).Mails
		if who != 2 {
			if len(mails) != 0 {
				t.Errorf("%d: %+v", who, mails)
			}
			continue
		}
		if len(mails) != 1 || fmt.Sprint(mails[0]) != fmt.Sprint(secret) {
			t.Errorf("%+v; wanted %+v", mails, secret)
		}
	}
	// Whether it came into a box or not, it is answered.
	var want []api.Frame
	for i := range api.Threads {
		want = append(want, api.Frame{From: 1, To: 0, Seq: 1 + i, Ack: true})
	}
	inNet(t, c, want...)
	certsAre(t, c, 1, api.Cert{C: 0, By: 0, Host: 1, Until: 9})
}

// P6.6: the box of a thread has room for MaxMail; what finds it full is answered, too.
func TestComesToFullBox(t *testing.T) {
	c := cluster.New()
	var want []string
	for i := range api.MaxMail + 1 {
		ok(t, c, says(0, 1, fmt.Sprint(i)))
		if i < api.MaxMail {
			want = append(want, fmt.Sprint(i))
		}
	}
	flush(t, c)
	has(t, c, 1, 1, want...)
	done(t, c, ticks(2), api.Reply{})
}

// P6.6: what comes once more is answered once more, and nothing else.
func TestComesTwice(t *testing.T) {
	c, net := underWay(t)
	for i := range 4 {
		moved(t, c, api.ActCopy, 0)
		net = append(net, answerTo(net[0]))
		inNet(t, c, net...)
		has(t, c, 1, 1, "a")
		if i == 2 {
			done(t, c, takes(1, 1), api.Reply{})
			ok(t, c, says(1, 1, "a"))
		}
	}
	// A frame with the same number of another line is another one.
	moved(t, c, api.ActDeliver, 1)
	has(t, c, 2, 1, "bb")
	moved(t, c, api.ActDeliver, 1)
	has(t, c, 0, 1, "ccc")
}

// P6.6: in whatever order frames come, each comes once.
func TestTurnedRound(t *testing.T) {
	c := cluster.New()
	for _, text := range []string{"a", "b", "c", "d"} {
		ok(t, c, says(2, 3, text))
	}
	for n := 3; n >= 0; n-- {
		moved(t, c, api.ActCopy, n)
		moved(t, c, api.ActCopy, n)
	}
	has(t, c, 3, 1, "d", "c", "b", "a")
	var seqs []int
	for _, f := range frames(t, c)[4:] {
		if !f.Ack || f.From != 3 || f.To != 2 {
			t.Errorf("%+v", f)
		}
		seqs = append(seqs, f.Seq)
	}
	if !slices.Equal(seqs, []int{4, 4, 3, 3, 2, 2, 1, 1}) {
		t.Errorf("%v", seqs)
	}
}

// P6.6: what is so old that nobody knows whether it came is not answered.
func TestComesOld(t *testing.T) {
	c := cluster.New()
	ok(t, c, says(0, 1, "old"), says(0, 1, "in time"))
	for range api.Window - 1 {
		ok(t, c, sends(0, 0, 1, 2, "x", nil))
		moved(t, c, api.ActDeliver, 2)
		moved(t, c, api.ActDeliver, 2)
	}
	net := frames(t, c)
	if len(net) != 2 || net[0].Seq != 1 || net[1].Seq != 2 {
		t.Fatalf("%+v", net)
	}
	moved(t, c, api.ActCopy, 0)
	inNet(t, c, net...)
	has(t, c, 1, 1)
	moved(t, c, api.ActCopy, 1)
	inNet(t, c, net[0], net[1], answerTo(net[1]))
	has(t, c, 1, 1, "in time")
	moved(t, c, api.ActDeliver, 0)
	inNet(t, c, net[1], answerTo(net[1]))
	// It is sent again, since nobody answers.
	moved(t, c, api.ActDeliver, 1)
	done(t, c, ticks(2), api.Reply{N: 1})
}

// P6.6: an answer is for the line that goes the other way.
func TestAnswerComes(t *testing.T) {
	c := cluster.New()
	ok(t, c, says(0, 1, "there"), says(1, 0, "back"), says(1, 2, "on"), says(0, 2, "off"))
	moved(t, c, api.ActDeliver, 0)
	before := state(c)
	net := frames(t, c)
	done(t, c, copies(3), api.Reply{N: answerBytes})
	if after := state(c); before != after {
		t.Errorf("an answer that comes:\n%s became\n%s", before, after)
	}
	done(t, c, ticks(2), api.Reply{N: 3})
	inNet(t, c, append(net, plainFrame(0, 2, 1, "off"), plainFrame(1, 0, 1, "back"), plainFrame(1, 2, 1, "on"))...)
	// To nothing that is waited for it is an answer, too.
	done(t, c, delivers(3), api.Reply{N: answerBytes})
	done(t, c, ticks(4), api.Reply{N: 3})
}

// P6.6: an answer is for its own number.
func TestAnswerOfItsNumber(t *testing.T) {
	c := cluster.New()
	ok(t, c, says(0, 1, "a"), says(0, 1, "b"), says(0, 1, "c"))
	moved(t, c, api.ActDeliver, 1)
	moved(t, c, api.ActDeliver, 2)
	inNet(t, c, plainFrame(0, 1, 1, "a"), plainFrame(0, 1, 3, "c"))
	done(t, c, ticks(2), api.Reply{N: 2})
	inNet(t, c, plainFrame(0, 1, 1, "a"), plainFrame(0, 1, 3, "c"), plainFrame(0, 1, 1, "a"), plainFrame(0, 1, 3, "c"))
}

// P6.6: certs that come are known to the host that they come to, behind those that it has.
func TestCertsCome(t *testing.T) {
	c := owned(t)
	ok(t, c, certifies(0, 0, 0, 1, 9), certifies(0, 0, 0, 2, 8), certifies(1, 0, 20, 0, 7))
	ok(t, c, sends(0, 0, 1, 1, "x", at(3, 0)))
	sent := []api.Cert{{C: 0, By: 0, Host: 1, Until: 9}, {C: 0, By: 0, Host: 2, Until: 8}}
	own := api.Cert{C: 20, By: 1, Host: 0, Until: 7}
	certsAre(t, c, 1, own)
	moved(t, c, api.ActDrop, 0)
	certsAre(t, c, 1, own)
	done(t, c, ticks(2), api.Reply{N: 1})
	moved(t, c, api.ActCopy, 0)
	certsAre(t, c, 1, own, sent[0], sent[1])
	moved(t, c, api.ActCopy, 0)
	certsAre(t, c, 1, own, sent[0], sent[1])
	certsAre(t, c, 0, sent...)
	certsAre(t, c, 2)
	// What was told once is not told twice.
	ok(t, c, certifies(0, 0, 0, 3, 7), sends(0, 0, 1, 1, "x", at(3, 0)))
	flush(t, c)
	certsAre(t, c, 1, own, sent[0], sent[1], api.Cert{C: 0, By: 0, Host: 3, Until: 7})
	// Mail that names nothing tells no certs.
	ok(t, c, says(0, 2, "x"))
	flush(t, c)
	certsAre(t, c, 2)
}

// P6.6: certs for which there is no room are left out, the others and the mail come.
func TestCertsComeToFullList(t *testing.T) {
	for room := range 4 {
		c := owned(t)
		// Two of those that come are there already, and need no room.
		ok(t, c, certifies(0, 0, 0, 2, 8), certifies(0, 0, 0, 1, 5), sends(0, 0, 1, 0, "", nil, 0))
		flush(t, c)
		want := c.Certs(1)
		for i := range api.MaxCerts - room - 2 {
			ok(t, c, certifies(1, 0, 20, 3, i))
			want = append(want, api.Cert{C: 20, By: 1, Host: 3, Until: i})
		}
		certsAre(t, c, 1, want...)
		ok(t, c, certifies(0, 0, 0, 3, 1), certifies(0, 0, 0, 3, 2), certifies(0, 0, 0, 3, 3))
		ok(t, c, raises(1, 1, 0, 3), sends(0, 0, 1, 1, "x", at(3, 0)))
		if f := frames(t, c)[0]; len(f.Certs) != 5 {
			t.Fatalf("%+v", f)
		}
		flush(t, c)
		for i := range room {
			want = append(want, api.Cert{C: 0, By: 0, Host: 3, Until: 1 + i})
		}
		certsAre(t, c, 1, want...)
		has(t, c, 1, 1, "x")
	}
}

// P6.6: mail counts by the certs that come with it.
func TestTrustedByWhatComes(t *testing.T) {
	c := granted(t, 9)
	ok(t, c, certifies(1, 0, 0, 2, 9), raises(2, 1, 0, 3), sends(1, 0, 2, 1, "x", at(3, 0)))
	certsAre(t, c, 2)
	moved(t, c, api.ActDeliver, 0)
	has(t, c, 2, 1, "x")
	certsAre(t, c, 2, api.Cert{C: 0, By: 0, Host: 1, Until: 9}, api.Cert{C: 0, By: 1, Host: 2, Until: 9})
}

// P6.6: by the certs that a host has, where there is no room for those that come.
func TestNotTrustedByWhatHasNoRoom(t *testing.T) {
	for _, room := range []int{0, 1} {
		c := granted(t, 9)
		for i := range api.MaxCerts - room {
			ok(t, c, certifies(2, 0, 40, 3, i))
		}
		ok(t, c, certifies(1, 0, 0, 2, 9), raises(2, 1, 0, 3), sends(1, 0, 2, 1, "x", at(3, 0)))
		f := frames(t, c)[0]
		moved(t, c, api.ActDeliver, 0)
		inNet(t, c, answerTo(f))
		if room == 0 {
			has(t, c, 2, 1)
		} else {
			has(t, c, 2, 1, "x")
		}
	}
}

// P6.6: mail from a host that may not be trusted with it is answered and gone, whoever it is for.
func TestComesFromUntrusted(t *testing.T) {
	c := owned(t)
	ok(t, c, raises(2, 1, 0, 3), raises(0, 1, 0, 3))
	ok(t, c, sends(2, 1, 0, 1, "x", at(3, 0)), sends(2, 1, 0, 0, "x", at(3, 0)), says(2, 0, "plain"))
	net := frames(t, c)
	for range 2 {
		moved(t, c, api.ActCopy, 0)
		moved(t, c, api.ActCopy, 1)
	}
	has(t, c, 0, 0)
	has(t, c, 0, 1)
	net = append(net, answerTo(net[0]), answerTo(net[1]), answerTo(net[0]), answerTo(net[1]))
	inNet(t, c, net...)
	// Once it came it has come: that its host is trusted later changes nothing.
	ok(t, c, certifies(0, 0, 0, 2, 9))
	moved(t, c, api.ActCopy, 0)
	has(t, c, 0, 1)
	ok(t, c, sends(2, 1, 0, 1, "y", at(3, 0)))
	moved(t, c, api.ActDeliver, len(c.Net())-1)
	has(t, c, 0, 1, "y")
	moved(t, c, api.ActDeliver, 2)
	has(t, c, 0, 1, "y", "plain")
}

// P6.6: trust is asked for all that mail names, grants, too.
func TestComesWithGrantOfUntrusted(t *testing.T) {
	c := granted(t, 1)
	done(t, c, ticks(2), api.Reply{})
	ok(t, c, sends(1, 0, 0, 1, "x", nil, 0), sends(1, 0, 0, 1, "own", nil))
	flush(t, c)
	has(t, c, 0, 1, "own")
}

// P6.6: trust is asked when mail comes, by the time of then.
func TestComesOutOfTime(t *testing.T) {
	for _, wait := range []int{1, 5, 6, 100} {
		c := granted(t, 5)
		ok(t, c, raises(0, 1, 0, 3), sends(1, 0, 0, 1, "x", at(3, 0)))
		c.Do(ticks(wait))
		moved(t, c, api.ActDeliver, 0)
		if wait <= 5 {
			has(t, c, 0, 1, "x")
		} else {
			has(t, c, 0, 1)
		}
	}
}

// P6.6: whether the host that it comes to may be trusted is asked when it is sent alone.
func TestComesBehindItsCert(t *testing.T) {
	c := owned(t)
	ok(t, c, certifies(0, 0, 0, 1, 1), raises(1, 1, 0, 3), sends(0, 0, 1, 1, "x", at(3, 0)))
	moved(t, c, api.ActDrop, 0)
	done(t, c, ticks(2), api.Reply{N: 1})
	refused(t, c, sends(0, 0, 1, 1, "x", at(3, 0)), api.ErrTrust)
	moved(t, c, api.ActDeliver, 0)
	has(t, c, 1, 1, "x")
}

// P6.7
func TestTick(t *testing.T) {
	c := owned(t)
	for _, n := range []int{0, -1, -256, math.MinInt, api.MaxTime + 1, api.MaxTime + 256, math.MaxInt} {
		refused(t, c, ticks(n), api.ErrRange)
	}
	for _, v := range []struct{ n, now int }{{1, 1}, {2, 3}, {1000, 1003}, {api.MaxTime - 1004, api.MaxTime - 1}} {
		done(t, c, ticks(v.n), api.Reply{})
		if c.Now() != v.now {
			t.Errorf("%d; wanted %d", c.Now(), v.now)
		}
		for _, n := range []int{0, -1, -v.now, math.MinInt, math.MinInt + v.now, api.MaxTime - v.now + 1, api.MaxTime, math.MaxInt - v.now, math.MaxInt - v.now + 1, math.MaxInt} {
			refused(t, c, ticks(n), api.ErrRange)
		}
	}
	done(t, c, ticks(1), api.Reply{})
	refused(t, c, ticks(1), api.ErrRange)
	if c.Now() != api.MaxTime {
		t.Errorf("%d", c.Now())
	}
	c = cluster.New()
	done(t, c, ticks(api.MaxTime), api.Reply{})
	refused(t, c, ticks(1), api.ErrRange)
}

// P6.7: at the last time there are calls yet, and what is due behind it.
func TestLastTime(t *testing.T) {
	c := owned(t)
	done(t, c, ticks(api.MaxTime), api.Reply{})
	ok(t, c, certifies(0, 0, 0, 1, api.MaxTime-1))
	refused(t, c, sends(0, 0, 1, 1, "x", at(3, 0)), api.ErrTrust)
	ok(t, c, certifies(0, 0, 0, 1, api.MaxTime), sends(0, 0, 1, 1, "x", at(3, 0)), raises(1, 1, 0, 3))
	flush(t, c)
	has(t, c, 1, 1, "x")
}

// P6.7: line by line, by the host it is from, then by the one it is to, and on it by number.
func TestOrderOfLines(t *testing.T) {
	c := cluster.New()
	var pairs [][2]int
	for from := range api.Hosts {
		for to := range api.Hosts {
			if from != to {
				pairs = append(pairs, [2]int{from, to})
			}
		}
	}
	for i := range pairs {
		p := pairs[i*5%len(pairs)]
		ok(t, c, says(p[1], p[0], "a"))
	}
	for i := range pairs {
		p := pairs[i*7%len(pairs)]
		ok(t, c, says(p[0], p[1], "b"))
	}
	for range 2 * len(pairs) {
		moved(t, c, api.ActDrop, 0)
	}
	done(t, c, ticks(2), api.Reply{N: 2 * len(pairs)})
	var want []api.Frame
	for _, p := range pairs {
		want = append(want, plainFrame(p[0], p[1], 1, "a"), plainFrame(p[0], p[1], 2, "b"))
	}
	inNet(t, c, want...)
}

// P6.7: what is due, no sooner, and once a tick, however long that is.
func TestDue(t *testing.T) {
	c := cluster.New()
	ok(t, c, says(0, 1, "a"))
	done(t, c, ticks(1), api.Reply{})
	ok(t, c, says(0, 1, "b"))
	done(t, c, ticks(1), api.Reply{N: 1})
	done(t, c, ticks(1), api.Reply{N: 1})
	inNet(t, c, plainFrame(0, 1, 1, "a"), plainFrame(0, 1, 2, "b"), plainFrame(0, 1, 1, "a"), plainFrame(0, 1, 2, "b"))
	done(t, c, ticks(1000), api.Reply{N: 2})
	done(t, c, ticks(7), api.Reply{})
	done(t, c, ticks(1), api.Reply{N: 2})
	done(t, c, ticks(15), api.Reply{})
	done(t, c, ticks(1), api.Reply{N: 2})
	done(t, c, ticks(31), api.Reply{})
	done(t, c, ticks(1), api.Reply{})
	done(t, c, ticks(1000), api.Reply{})
}

// P6.7: what is sent again is what was sent, whatever its thread and its host have learned since.
func TestSentAgainAsItWas(t *testing.T) {
	c := owned(t)
	ok(t, c, called(0, 0, api.Call{Kind: api.CallForget, Text: "then "}), certifies(0, 0, 0, 1, 9), sends(0, 0, 1, 2, "x", at(3, 0)))
	first := frames(t, c)[0]
	ok(t, c, called(0, 0, api.Call{Kind: api.CallForget, Text: "now"}), certifies(0, 0, 0, 2, 9))
	done(t, c, ticks(2), api.Reply{N: 1})
	inNet(t, c, first, first)
	done(t, c, ticks(100), api.Reply{N: 1})
	inNet(t, c, first, first, first)
}

// P6.8
func TestRun(t *testing.T) {
	for _, l := range [][]api.Act{nil, {}} {
		if got, e := cluster.Run(l); len(got) != 0 || e != api.OK {
			t.Errorf("of nothing: %v, %d", got, e)
		}
	}
	acts := []api.Act{
		makes(0, 0), certifies(0, 0, 0, 1, 50), sends(0, 0, 1, 1, "x", nil, 0), {}, delivers(0), delivers(9), takes(1, 1), ticks(3), makes(9, 9),
		called(1, 1, api.Call{Kind: api.CallSay}), ticks(0), sends(1, 1, 2, 2, "x", at(3, 0)),
	}
	want := []api.Reply{
		{}, {}, {}, {Code: api.ErrKind}, {N: 9 + 2 + 1 + 2 + 1 + 1 + 1 + 9}, {Code: api.ErrNone}, {}, {N: 1}, {Code: api.ErrNone},
		{Text: "x"}, {Code: api.ErrRange}, {Code: api.ErrTrust},
	}
	for n := range len(acts) + 1 {
		// A second run knows nothing of the first.
		for range 2 {
			if got, e := cluster.Run(acts[:n]); e != api.OK || !slices.Equal(got, want[:n]) {
				t.Errorf("%v, %d; wanted %v", got, e, want[:n])
			}
		}
	}
}

// P6.8
func TestRunMaxActs(t *testing.T) {
	acts := make([]api.Act, api.MaxActs+1)
	for i := range acts {
		acts[i] = ticks(i % 3)
	}
	for _, n := range []int{api.MaxActs - 1, api.MaxActs} {
		got, e := cluster.Run(acts[:n])
		if len(got) != n || e != api.OK {
			t.Fatalf("%d acts: %d replies, %d", n, len(got), e)
		}
		for i, r := range got {
			want := api.Reply{}
			if i%3 == 0 {
				want.Code = api.ErrRange
			}
			if r != want {
				t.Errorf("reply %d: %+v; wanted %+v", i, r, want)
			}
		}
	}
	for _, l := range [][]api.Act{acts, make([]api.Act, api.MaxActs+1), make([]api.Act, 100000)} {
		if got, e := cluster.Run(l); len(got) != 0 || e != api.ErrFull {
			t.Errorf("%d acts: %d replies, %d", len(l), len(got), e)
		}
	}
}
