package cluster_test

import (
	"fmt"
	"reflect"
	"testing"

	"parclose/api"
	"parclose/cluster"
)

// owned is a cluster in which thread 0 of each host owns its first category, thread 1 none; no host has a cert.
func owned(t *testing.T) *cluster.Cluster {
	t.Helper()
	c := cluster.New()
	for h := range api.Hosts {
		done(t, c, makes(h, 0), api.Reply{N: h * api.Categories})
	}
	return c
}

// P6.3: what goes to one's own host is there at once, and needs nobody's trust.
func TestSendAtHome(t *testing.T) {
	for h := range api.Hosts {
		c := owned(t)
		first := h * api.Categories
		ok(t, c, raises(h, 2, first, 3), called(h, 0, api.Call{Kind: api.CallForget, Text: "k:"}))
		ok(t, c, sends(h, 0, h, 2, "a", at(3, first), first), sends(h, 0, h, 3, "b", nil), sends(h, 0, h, 0, "c", at(0, first)))
		for who, want := range map[int][]api.Mail{
			0: {{Host: h, Label: at(0, first), Text: "k:c"}},
			1: nil,
			2: {{Host: h, Label: at(3, first), Grants: []int{first}, Text: "k:a"}},
			3: {{Host: h, Text: "k:b"}},
		} {
			if got := plain(c.Thread(h, who)).Mails; !reflect.DeepEqual(got, want) {
				t.Errorf("%d %d: %+v; wanted %+v", h, who, got, want)
			}
		}
		inNet(t, c)
		done(t, c, ticks(2), api.Reply{})
		done(t, c, takes(h, 2), api.Reply{N: h * api.Threads})
	}
}

// P6.3: nobody is told of mail that does not come.
func TestSendAtHomeInVain(t *testing.T) {
	c := owned(t)
	before := state(c)
	ok(t, c, sends(0, 0, 0, 1, "x", at(3, 0)), sends(0, 1, 0, 2, "x", at(2, 55)))
	if after := state(c); before != after {
		t.Errorf("%s became\n%s", before, after)
	}
	var want []string
	for i := range api.MaxMail + 2 {
		text := fmt.Sprint(i)
		ok(t, c, sends(0, 1, 0, 2, text, nil))
		if i < api.MaxMail {
			want = append(want, text)
		}
		has(t, c, 0, 2, want...)
	}
}

// P6.3
func TestSendAway(t *testing.T) {
	c := owned(t)
	done(t, c, makes(1, 0), api.Reply{N: 21})
	ok(t, c, certifies(1, 0, 20, 2, 9), certifies(1, 0, 21, 3, 8), certifies(1, 0, 20, 3, 7), certifies(1, 0, 21, 2, 6), certifies(1, 0, 20, 2, 50))
	shown := []api.Cert{{C: 20, By: 1, Host: 2, Until: 9}, {C: 20, By: 1, Host: 3, Until: 7}, {C: 20, By: 1, Host: 2, Until: 50}}
	all := []api.Cert{shown[0], {C: 21, By: 1, Host: 3, Until: 8}, shown[1], {C: 21, By: 1, Host: 2, Until: 6}, shown[2]}
	certsAre(t, c, 1, all...)
	ok(t, c, called(1, 0, api.Call{Kind: api.CallForget, Text: "k:"}))
	ok(t, c, sends(1, 0, 2, 3, "plain", nil))
	want := []api.Frame{{From: 1, To: 2, Seq: 1, Thread: 3, Mail: api.Mail{Host: 1, Text: "k:plain"}}}
	inNet(t, c, want...)
	ok(t, c, sends(1, 0, 2, 0, "label", at(3, 20)))
	want = append(want, api.Frame{From: 1, To: 2, Seq: 2, Mail: api.Mail{Host: 1, Label: at(3, 20), Text: "k:label"}, Certs: shown})
	ok(t, c, sends(1, 0, 3, 1, "grant", nil, 20))
	want = append(want, api.Frame{From: 1, To: 3, Seq: 1, Thread: 1, Mail: api.Mail{Host: 1, Grants: []int{20}, Text: "k:grant"}, Certs: shown})
	ok(t, c, sends(1, 0, 2, 2, "both", at(0, 20), 21))
	want = append(want, api.Frame{From: 1, To: 2, Seq: 3, Thread: 2, Mail: api.Mail{Host: 1, Label: at(0, 20), Grants: []int{21}, Text: "k:both"}, Certs: all})
	ok(t, c, sends(1, 3, 0, 3, "none", nil))
	want = append(want, api.Frame{From: 1, To: 0, Seq: 1, Thread: 3, Mail: api.Mail{Host: 1, Thread: 3, Text: "none"}})
	inNet(t, c, want...)
	for h := range api.Hosts {
		for who := range api.Threads {
			has(t, c, h, who)
		}
	}
	certsAre(t, c, 2)
	certsAre(t, c, 1, all...)
}

// P6.3: the call's Text has a bound; what is sent is the last of what is known and of that.
func TestSendLong(t *testing.T) {
	c := owned(t)
	most := letters(api.MaxText)
	for _, to := range []int{0, 1} {
		for _, n := range []int{api.MaxText + 1, api.MaxText + 2, 2 * api.MaxText, 100000} {
			refused(t, c, sends(0, 0, to, 1, letters(n), nil), api.ErrLong)
			refused(t, c, sends(0, 0, to, 9, letters(n), nil), api.ErrLong)
			refused(t, c, sends(0, 0, 9, to, letters(n), nil), api.ErrLong)
			refused(t, c, sends(0, 0, to, 1, letters(n), at(9, 99), 79), api.ErrLong)
			refused(t, c, sends(0, 0, to, 1, letters(n), at(3, 60)), api.ErrLong)
		}
		ok(t, c, sends(0, 0, to, 1, most, nil))
	}
	ok(t, c, called(0, 0, api.Call{Kind: api.CallForget, Text: "AB"}))
	ok(t, c, sends(0, 0, 0, 1, most, nil), sends(0, 0, 0, 1, most[1:], nil), sends(0, 0, 1, 1, most[1:], nil))
	has(t, c, 0, 1, most, most, "B"+most[1:])
	if net := frames(t, c); len(net) != 2 || net[0].Mail.Text != most || net[1].Mail.Text != "B"+most[1:] {
		t.Errorf("%+v", net)
	}
}

// P6.3: whom it goes to is asked ahead of what is sent.
func TestSendToNobody(t *testing.T) {
	c := owned(t)
	for _, n := range beyond(lastHost) {
		refused(t, c, sends(0, 0, n, 0, "x", nil), api.ErrNone)
		refused(t, c, sends(0, 0, n, 0, letters(api.MaxText), at(9, 99), 79), api.ErrNone)
	}
	for i, n := range beyond(lastThread) {
		refused(t, c, sends(0, 0, i%api.Hosts, n, "x", nil), api.ErrNone)
		refused(t, c, sends(0, 0, i%api.Hosts, n, "x", at(9, 99), 79), api.ErrNone)
		refused(t, c, sends(0, 0, i%api.Hosts, n, "x", nil, 79), api.ErrNone)
		refused(t, c, sends(0, 0, 0, n, "x", at(3, 60)), api.ErrNone)
	}
}

// P6.3: Letter's errors, at home and away, ahead of what a host may be trusted with.
func TestSendNoLetter(t *testing.T) {
	c := owned(t)
	ok(t, c, raises(0, 1, 60, 3))
	nine := []int{0, 1, 2, 3, 4, 5, 6, 7, 8}
	for _, to := range []int{0, 1} {
		refused(t, c, sends(0, 0, to, 1, "x", at(4, 60)), api.ErrRange)
		refused(t, c, sends(0, 0, to, 1, "x", at(api.Plain, 60)), api.ErrRange)
		refused(t, c, sends(0, 0, to, 1, "x", at(3, 61, 60)), api.ErrRange)
		refused(t, c, sends(0, 0, to, 1, "x", at(3, lastCategory+1)), api.ErrRange)
		refused(t, c, sends(0, 0, to, 1, "x", at(3, nine...)), api.ErrRange)
		refused(t, c, sends(0, 0, to, 1, "x", nil, nine...), api.ErrRange)
		refused(t, c, sends(0, 0, to, 1, "x", nil, 0, 0), api.ErrRange)
		refused(t, c, sends(0, 0, to, 1, "x", nil, -1), api.ErrRange)
		refused(t, c, sends(0, 0, to, 1, "x", nil, 1), api.ErrOwn)
		refused(t, c, sends(0, 1, to, 1, "x", nil, 0), api.ErrOwn)
		refused(t, c, sends(0, 1, to, 1, "x", nil), api.ErrFlow)
		refused(t, c, sends(0, 1, to, 1, "x", at(2, 60)), api.ErrFlow)
		refused(t, c, sends(0, 1, to, 1, "x", at(3, 61)), api.ErrFlow)
	}
	ok(t, c, sends(0, 1, 0, 2, "x", at(3, 60)))
	refused(t, c, sends(0, 1, 1, 2, "x", at(3, 60)), api.ErrTrust)
}

// P6.3: a host that no cert names is trusted with what names nothing, and with its own.
func TestSendWithoutCert(t *testing.T) {
	c := owned(t)
	for to := 1; to < api.Hosts; to++ {
		refused(t, c, sends(0, 0, to, 1, "x", at(3, 0)), api.ErrTrust)
		refused(t, c, sends(0, 0, to, 1, "x", at(0, 0)), api.ErrTrust)
		refused(t, c, sends(0, 0, to, 1, "x", nil, 0), api.ErrTrust)
		refused(t, c, sends(0, 0, to, 1, "x", at(3, 0, 20, 40, 60)), api.ErrTrust)
		ok(t, c, sends(0, 0, to, 1, "x", at(3, 20*to, 20*to+19)))
		ok(t, c, sends(0, 0, to, 1, "x", nil))
	}
	if n := len(c.Net()); n != 6 {
		t.Errorf("%d under way", n)
	}
}

// P6.3: each category that is named asks for trust, by its label or by a grant.
func TestSendNamesSeveral(t *testing.T) {
	c := owned(t)
	done(t, c, makes(0, 0), api.Reply{N: 1})
	ok(t, c, certifies(0, 0, 0, 1, 9), certifies(0, 0, 1, 2, 9))
	ok(t, c, sends(0, 0, 1, 1, "x", at(3, 0), 0), sends(0, 0, 2, 1, "x", at(3, 1), 1), sends(0, 0, 1, 1, "x", at(3, 0, 20)))
	refused(t, c, sends(0, 0, 1, 1, "x", at(3, 1)), api.ErrTrust)
	refused(t, c, sends(0, 0, 1, 1, "x", at(3, 0, 1)), api.ErrTrust)
	refused(t, c, sends(0, 0, 1, 1, "x", at(3, 0), 1), api.ErrTrust)
	refused(t, c, sends(0, 0, 2, 1, "x", at(3, 1), 0), api.ErrTrust)
	refused(t, c, sends(0, 0, 2, 1, "x", nil, 0, 1), api.ErrTrust)
	refused(t, c, sends(0, 0, 3, 1, "x", at(3, 1)), api.ErrTrust)
	refused(t, c, sends(0, 0, 1, 1, "x", at(3, 0, 40)), api.ErrTrust)
}

// P6.3: a cert counts up to its time.
func TestSendOutOfTime(t *testing.T) {
	c := owned(t)
	ok(t, c, certifies(0, 0, 0, 1, 5), certifies(0, 0, 0, 2, 0), sends(0, 0, 1, 1, "x", at(3, 0)), sends(0, 0, 2, 1, "x", at(3, 0)))
	flush(t, c)
	done(t, c, ticks(1), api.Reply{})
	refused(t, c, sends(0, 0, 2, 1, "x", at(3, 0)), api.ErrTrust)
	ok(t, c, sends(0, 0, 1, 1, "x", at(3, 0)))
	flush(t, c)
	done(t, c, ticks(4), api.Reply{})
	ok(t, c, sends(0, 0, 1, 1, "x", at(3, 0)))
	flush(t, c)
	done(t, c, ticks(1), api.Reply{})
	refused(t, c, sends(0, 0, 1, 1, "x", at(3, 0)), api.ErrTrust)
	ok(t, c, certifies(0, 0, 0, 1, 6), sends(0, 0, 1, 1, "x", at(3, 0)))
}

// granted is a cluster in which category 0 of host 0 was granted to thread 0 of host 1, which is trusted with it until a time.
func granted(t *testing.T, until int) *cluster.Cluster {
	t.Helper()
	c := owned(t)
	ok(t, c, certifies(0, 0, 0, 1, until), sends(0, 0, 1, 0, "", nil, 0))
	flush(t, c)
	done(t, c, takes(1, 0), api.Reply{})
	return c
}

// P6.3: what a host says whom nobody trusts any more counts for nothing.
func TestSendByCertOfNoOwner(t *testing.T) {
	c := granted(t, 5)
	ok(t, c, certifies(1, 0, 0, 2, 50), sends(1, 0, 2, 1, "x", at(3, 0)))
	flush(t, c)
	certsAre(t, c, 1, api.Cert{C: 0, By: 0, Host: 1, Until: 5}, api.Cert{C: 0, By: 1, Host: 2, Until: 50})
	done(t, c, ticks(5), api.Reply{})
	ok(t, c, sends(1, 0, 2, 1, "x", at(3, 0)))
	flush(t, c)
	done(t, c, ticks(1), api.Reply{})
	refused(t, c, sends(1, 0, 2, 1, "x", at(3, 0)), api.ErrTrust)
	refused(t, c, sends(1, 0, 2, 1, "x", nil, 0), api.ErrTrust)
	ok(t, c, sends(1, 0, 0, 1, "x", at(3, 0)), sends(1, 0, 1, 1, "x", at(3, 0)))
}

// P6.3: by the certs of the sender's host, not by another one's.
func TestSendByOwnCerts(t *testing.T) {
	c := granted(t, 50)
	ok(t, c, certifies(1, 0, 0, 2, 50))
	refused(t, c, sends(0, 0, 2, 1, "x", at(3, 0)), api.ErrTrust)
	refused(t, c, sends(3, 0, 2, 1, "x", at(3, 0)), api.ErrTrust)
	refused(t, c, sends(3, 0, 1, 1, "x", at(3, 0)), api.ErrTrust)
	refused(t, c, sends(1, 0, 3, 1, "x", at(3, 0)), api.ErrTrust)
	ok(t, c, sends(1, 0, 2, 1, "x", at(3, 0)))
}

// P6.3: each line has room of its own.
func TestSendLineFull(t *testing.T) {
	c := owned(t)
	ok(t, c, certifies(0, 0, 0, 1, 9))
	for i := range api.MaxOut {
		ok(t, c, sends(0, i%api.Threads, 1, 1, fmt.Sprint(i), nil))
	}
	refused(t, c, sends(0, 0, 1, 1, "x", nil), api.ErrFull)
	refused(t, c, sends(0, 0, 1, 2, "x", at(3, 0), 0), api.ErrFull)
	refused(t, c, sends(0, 0, 1, 1, "x", at(3, 40)), api.ErrTrust)
	refused(t, c, sends(0, 0, 1, 1, "x", nil, 20), api.ErrOwn)
	ok(t, c, sends(0, 0, 0, 1, "x", nil), sends(0, 0, 2, 1, "x", nil), sends(1, 0, 0, 1, "x", nil), sends(2, 0, 1, 1, "x", nil))

	// That a frame is lost, or comes, makes no room: its answer does.
	moved(t, c, api.ActDrop, 0)
	refused(t, c, sends(0, 0, 1, 1, "x", nil), api.ErrFull)
	moved(t, c, api.ActDeliver, 0)
	refused(t, c, sends(0, 0, 1, 1, "x", nil), api.ErrFull)
	moved(t, c, api.ActDeliver, len(c.Net())-1)
	ok(t, c, sends(0, 0, 1, 1, "x", nil))
	refused(t, c, sends(0, 0, 1, 1, "x", nil), api.ErrFull)
	net := frames(t, c)
	if last := net[len(net)-1]; last.Seq != api.MaxOut+1 || last.To != 1 {
		t.Errorf("%+v", last)
	}
}

// P6.4
func TestCertify(t *testing.T) {
	c := granted(t, 9)
	ok(t, c, certifies(2, 0, 40, 0, 0), certifies(2, 0, 40, 3, api.MaxTime), certifies(2, 0, 40, 1, 7), certifies(2, 0, 40, 1, 6))
	certsAre(t, c, 2,
		api.Cert{C: 40, By: 2, Host: 0, Until: 0}, api.Cert{C: 40, By: 2, Host: 3, Until: api.MaxTime},
		api.Cert{C: 40, By: 2, Host: 1, Until: 7}, api.Cert{C: 40, By: 2, Host: 1, Until: 6})
	certsAre(t, c, 0, api.Cert{C: 0, By: 0, Host: 1, Until: 9})
	certsAre(t, c, 3)
	// Who was granted a category says for its own host.
	ok(t, c, certifies(1, 0, 0, 0, 3), certifies(1, 0, 20, 3, 3))
	certsAre(t, c, 1, api.Cert{C: 0, By: 0, Host: 1, Until: 9}, api.Cert{C: 0, By: 1, Host: 0, Until: 3}, api.Cert{C: 20, By: 1, Host: 3, Until: 3})
	inNet(t, c)
	before := state(c)
	ok(t, c, certifies(1, 0, 0, 0, 3), certifies(2, 0, 40, 0, 0))
	if after := state(c); before != after {
		t.Errorf("said once more:\n%s became\n%s", before, after)
	}
	// A time that is over is a time.
	done(t, c, ticks(100), api.Reply{})
	ok(t, c, certifies(3, 0, 60, 0, 5))
	certsAre(t, c, 3, api.Cert{C: 60, By: 3, Host: 0, Until: 5})
}

// P6.4: the call's other parts are not asked.
func TestCertifyAsksNoMore(t *testing.T) {
	c := owned(t)
	a := certifies(1, 0, 20, 2, 5)
	a.N, a.Call.T, a.Call.Label, a.Call.Grants, a.Call.Text = -1, 99, at(9, 99), []int{-1}, letters(api.MaxText+1)
	ok(t, c, a)
	certsAre(t, c, 1, api.Cert{C: 20, By: 1, Host: 2, Until: 5})
}

// P6.4
func TestCertifyRefused(t *testing.T) {
	c := granted(t, 9)
	for h := range api.Hosts {
		first := h * api.Categories
		other := (h + 1) % api.Hosts
		refused(t, c, certifies(h, 0, first, h, 5), api.ErrRange)
		refused(t, c, certifies(h, 1, first, h, 5), api.ErrRange)
		for _, n := range beyond(lastHost) {
			refused(t, c, certifies(h, 0, first, n, 5), api.ErrRange)
		}
		for _, n := range beyond(api.MaxTime) {
			refused(t, c, certifies(h, 0, first, other, n), api.ErrRange)
		}
		refused(t, c, certifies(h, 1, -1, other, -1), api.ErrRange)
		refused(t, c, certifies(h, 1, -1, -1, 5), api.ErrRange)
		refused(t, c, certifies(h, 1, first, other, 5), api.ErrOwn)
		refused(t, c, certifies(h, 0, first+1, other, 5), api.ErrOwn)
		refused(t, c, certifies(h, 0, other*api.Categories, other, 5), api.ErrOwn)
		for _, n := range beyond(lastCategory) {
			refused(t, c, certifies(h, 0, n, other, 5), api.ErrOwn)
		}
	}
}

// P6.4: to stand high is not to own.
func TestCertifyByOneWhoStandsHigh(t *testing.T) {
	c := owned(t)
	ok(t, c, raises(0, 1, 0, 3))
	refused(t, c, certifies(0, 1, 0, 1, 5), api.ErrOwn)
	ok(t, c, sends(0, 0, 0, 1, "", nil, 0))
	refused(t, c, certifies(0, 1, 0, 1, 5), api.ErrOwn)
	done(t, c, takes(0, 1), api.Reply{})
	ok(t, c, certifies(0, 1, 0, 1, 5))
}

// P6.4
func TestCertifyFull(t *testing.T) {
	c := owned(t)
	for i := range api.MaxCerts {
		ok(t, c, certifies(3, 0, 60, i%3, i))
	}
	refused(t, c, certifies(3, 0, 60, 0, 99), api.ErrFull)
	refused(t, c, certifies(3, 0, 60, 1, 0), api.ErrFull)
	refused(t, c, certifies(3, 0, 61, 1, 0), api.ErrOwn)
	refused(t, c, certifies(3, 0, 60, 3, 0), api.ErrRange)
	before := state(c)
	for i := range api.MaxCerts {
		ok(t, c, certifies(3, 0, 60, i%3, i))
	}
	if after := state(c); before != after {
		t.Errorf("%s became\n%s", before, after)
	}
	ok(t, c, certifies(2, 0, 40, 0, 99))
}
