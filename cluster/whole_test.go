package cluster_test

import (
	"fmt"
	"math/rand"
	"slices"
	"testing"

	"parclose/api"
	"parclose/cluster"
	"parclose/label"
)

// say is the act in which a thread tells what it knows.
func say(h, who int) api.Act { return called(h, who, api.Call{Kind: api.CallSay}) }

func forgets(h, who int, text string) api.Act {
	return called(h, who, api.Call{Kind: api.CallForget, Text: text})
}

func puts(h, who, whose, n int, text string) api.Act {
	return called(h, who, api.Call{Kind: api.CallPut, T: whose, N: n, Text: text})
}

func gets(h, who, whose, n int) api.Act {
	return called(h, who, api.Call{Kind: api.CallGet, T: whose, N: n})
}

// secretStory is a cluster in which thread 0 of host 0 made category 0 and certified host 1, and thread 1 of host 0 raised its label in it.
func secretStory(t *testing.T) *cluster.Cluster {
	t.Helper()
	c := cluster.New()
	done(t, c, makes(0, 0), api.Reply{N: 0})
	ok(t, c, certifies(0, 0, 0, 1, 1000), raises(0, 1, 0, 3))
	return c
}

// Examples of the whole, 1.
func TestWritesToWhatStandsAsHigh(t *testing.T) {
	c := secretStory(t)
	ok(t, c, called(0, 2, api.Call{Kind: api.CallObject, Label: at(3, 0)}))
	done(t, c, called(0, 2, api.Call{Kind: api.CallObject}), api.Reply{N: 1})
	ok(t, c, forgets(0, 1, "secret"), puts(0, 1, 2, 0, ""), puts(0, 1, 2, 1, ""))
	if o := c.Thread(0, 2).Objects; o[0].Text != "secret" || o[1].Text != "" {
		t.Errorf("%+v", o)
	}
	refused(t, c, called(0, 1, api.Call{Kind: api.CallObject}), api.ErrFlow)
	refused(t, c, sends(0, 1, 0, 2, "", nil), api.ErrFlow)
	refused(t, c, sends(0, 1, 1, 2, "", nil), api.ErrFlow)
	refused(t, c, raises(0, 1, 0, api.Plain), api.ErrFlow)
	refused(t, c, certifies(0, 1, 0, 2, 5), api.ErrOwn)
}

// Examples of the whole, 2.
func TestMailGoesWhereItIsTrusted(t *testing.T) {
	c := secretStory(t)
	ok(t, c, raises(1, 2, 0, 3), raises(2, 2, 0, 3))
	for to := 2; to < api.Hosts; to++ {
		refused(t, c, sends(0, 1, to, 2, "secret", at(3, 0)), api.ErrTrust)
	}
	for who := range api.Threads {
		ok(t, c, sends(0, 1, 1, who, "secret", at(3, 0)))
	}
	flush(t, c)
	has(t, c, 1, 0)
	has(t, c, 1, 1)
	has(t, c, 1, 2, "secret")
	has(t, c, 1, 3)
	done(t, c, takes(1, 2), api.Reply{N: 1})
	// Who has read it hands it on to nobody else.
	refused(t, c, sends(1, 2, 3, 0, "", nil), api.ErrFlow)
	refused(t, c, sends(1, 2, 3, 0, "", at(3, 0)), api.ErrTrust)
	ok(t, c, sends(1, 2, 0, 1, "!", at(3, 0)), sends(1, 2, 0, 0, "!", at(3, 0)), sends(1, 2, 0, 2, "!", at(3, 0)))
	flush(t, c)
	has(t, c, 0, 1, "secret!")
	has(t, c, 0, 0, "secret!")
	has(t, c, 0, 2)
}

// Examples of the whole, 3.
func TestLostFourTimes(t *testing.T) {
	c := cluster.New()
	ok(t, c, says(2, 3, "at last"))
	f := plainFrame(2, 3, 1, "at last")
	for _, wait := range []int{2, 4, 8, 16} {
		inNet(t, c, f)
		moved(t, c, api.ActDrop, 0)
		if wait > 1 {
			done(t, c, ticks(wait-1), api.Reply{})
		}
		inNet(t, c)
		done(t, c, ticks(1), api.Reply{N: 1})
	}
	inNet(t, c, f)
	moved(t, c, api.ActCopy, 0)
	moved(t, c, api.ActCopy, 0)
	moved(t, c, api.ActDeliver, 0)
	has(t, c, 3, 1, "at last")
	inNet(t, c, answerTo(f), answerTo(f), answerTo(f))
	flush(t, c)
	done(t, c, ticks(1000), api.Reply{})
	inNet(t, c)
}

// A frame that is lost five times is given up: its number is not used again, and it takes no room.
func TestLostFiveTimes(t *testing.T) {
	c := cluster.New()
	for i := range api.MaxOut {
		ok(t, c, says(2, 3, fmt.Sprint(i)))
	}
	for _, wait := range []int{2, 4, 8, 16} {
		for len(c.Net()) > 0 {
			moved(t, c, api.ActDrop, 0)
		}
		done(t, c, ticks(wait), api.Reply{N: api.MaxOut})
	}
	late := plainFrame(2, 3, 1, "0")
	for len(c.Net()) > 1 {
		moved(t, c, api.ActDrop, 1)
	}
	done(t, c, ticks(31), api.Reply{})
	refused(t, c, says(2, 3, "next"), api.ErrFull)
	done(t, c, ticks(1), api.Reply{})
	ok(t, c, says(2, 3, "next"))
	inNet(t, c, late, plainFrame(2, 3, api.MaxOut+1, "next"))
	// What its sender gave up comes all the same, if the net has it yet; the answer to it is for nobody.
	moved(t, c, api.ActDeliver, 0)
	has(t, c, 3, 1, "0")
	moved(t, c, api.ActDeliver, 1)
	moved(t, c, api.ActDrop, 0)
	done(t, c, ticks(2), api.Reply{N: 1})
}

// Examples of the whole, 4.
func TestNothingFromAbove(t *testing.T) {
	told := map[string][]string{}
	for _, secret := range []string{"", "yes", "no"} {
		c := secretStory(t)
		ok(t, c, raises(1, 1, 0, 3))
		if secret != "" {
			ok(t, c, called(0, 1, api.Call{Kind: api.CallObject, Label: at(3, 0)}), puts(0, 1, 1, 0, secret))
			ok(t, c, sends(0, 1, 0, 2, secret, at(3, 0)), sends(0, 1, 1, 2, secret, at(3, 0)), sends(0, 1, 1, 1, secret, at(3, 0)))
			flush(t, c)
			done(t, c, takes(1, 1), api.Reply{N: 1})
		}
		for h := range 2 {
			for _, a := range []api.Act{
				gets(h, 2, 1, 0), puts(h, 2, 1, 0, "x"), puts(h, 2, 1, 3, "x"), puts(h, 2, 0, 0, "x"), takes(h, 2), say(h, 2),
				sends(h, 2, h, 1, "up", nil), sends(h, 2, 1-h, 1, "up", at(3, 0)), gets(h, 2, 1, 0), say(h, 2),
			} {
				told[secret] = append(told[secret], fmt.Sprint(c.Do(a)))
			}
		}
	}
	for secret, l := range told {
		if !slices.Equal(l, told[""]) {
			t.Errorf("%q: %v; of nothing %v", secret, l, told[""])
		}
	}
}

// lowCall is a call of one who stands below category 0, and goes on to.
func lowCall(r *rand.Rand) api.Call {
	x := api.Call{Kind: 1 + r.Intn(api.CallSay), H: r.Intn(2), T: r.Intn(api.Threads), N: r.Intn(4), C: 1 + r.Intn(60), Text: letters(r.Intn(5))}
	if r.Intn(2) == 0 {
		x.Label = at(r.Intn(api.Top+1), r.Intn(2))
	}
	if r.Intn(4) == 0 {
		x.Grants = []int{1 + r.Intn(3)}
	}
	return x
}

// highCall is a call of one who stands high in category 0; how many categories there are, and what was certified, is told to all.
func highCall(r *rand.Rand) api.Call {
	x := lowCall(r)
	for x.Kind == api.CallCategory || x.Kind == api.CallCertify {
		x.Kind = 1 + r.Intn(api.CallSay)
	}
	if r.Intn(2) == 0 {
		x.Label = at(3, 0)
	}
	return x
}

// All promises together: what is done above is not to be seen from below, on either host.
// So that it is not told by lines that are full, or by certs that come, all that is sent comes at once, and every host has the certs.
func TestNothingIsSeenFromBelow(t *testing.T) {
	r := rand.New(rand.NewSource(6))
	came := 0
	for range 150 {
		quiet, loud := secretStory(t), secretStory(t)
		for _, c := range []*cluster.Cluster{quiet, loud} {
			ok(t, c, raises(1, 1, 0, 3), sends(0, 0, 1, 1, "", at(3, 0)))
			flush(t, c)
			done(t, c, takes(1, 1), api.Reply{})
		}
		for range 60 {
			loud.Do(called(r.Intn(2), 1, highCall(r)))
			flush(t, loud)
			came += len(loud.Thread(1, 1).Mails)
			x := lowCall(r)
			h, who := r.Intn(2), 2+r.Intn(2)
			a, b := quiet.Do(called(h, who, x)), loud.Do(called(h, who, x))
			if a != b {
				t.Fatalf("%d %d %+v: %+v, but %+v", h, who, x, a, b)
			}
			flush(t, quiet)
			flush(t, loud)
			for h := range 2 {
				for who := 2; who < api.Threads; who++ {
					a, b := quiet.Thread(h, who), loud.Thread(h, who)
					if a.Text != b.Text || !slices.Equal(a.Own, b.Own) || !label.Same(a.Label, b.Label) || !slices.Equal(texts(quiet, h, who), texts(loud, h, who)) {
						t.Fatalf("%d %d:\n%+v, but\n%+v", h, who, a, b)
					}
				}
			}
		}
	}
	if came == 0 {
		t.Error("nothing was done above")
	}
}

// roomy is a list with a mark in its spare room.
func roomy[E any](mark E, list ...E) []E {
	all := append(slices.Clone(list), mark, mark, mark)
	return all[:len(list)]
}

// whole is a list with its spare room.
func whole[E any](list []E) []E { return slices.Clone(list[:cap(list)]) }

func wipe[E any](list []E) { clear(list[:cap(list)]) }

// What is handed in is not changed, its spare room neither.
func TestHandedInStays(t *testing.T) {
	levelMark, mark, actMark := api.Level{C: -5, L: -5}, -5, ticks(5)
	for kind := range api.CallSay + 2 {
		for to := range 3 {
			c := secretStory(t)
			l, g := roomy(levelMark, at(3, 0)...), roomy(mark, 0)
			wholeL, wholeG := whole(l), whole(g)
			acts := roomy(actMark, makes(0, 0), called(0, 0, api.Call{Kind: kind, H: to, T: 2, N: 3, Label: l, Grants: g, Text: "x"}), delivers(0), ticks(2))
			wholeActs := fmt.Sprint(whole(acts))
			for _, a := range acts {
				c.Do(a)
			}
			if _, e := cluster.Run(acts); e != api.OK {
				t.Errorf("%d", e)
			}
			if !slices.Equal(whole(l), wholeL) || !slices.Equal(whole(g), wholeG) || fmt.Sprint(whole(acts)) != wholeActs {
				t.Errorf("kind %d: changed: %v %v %v", kind, whole(l), whole(g), whole(acts))
			}
		}
	}
}

// What is handed in is not kept: not in a box, not in an object, not on a line.
func TestHandedInIsNotKept(t *testing.T) {
	c := secretStory(t)
	ok(t, c, raises(0, 2, 0, 3), raises(1, 2, 0, 3))
	l, g := roomy(api.Level{C: -5, L: -5}, at(3, 0)...), roomy(-5, 0)
	ok(t, c, sends(0, 0, 0, 2, "here", l, g...), sends(0, 0, 1, 2, "there", l, g...), called(0, 0, api.Call{Kind: api.CallObject, Label: l}))
	before := state(c)
	net := frames(t, c)
	wipe(l)
	wipe(g)
	if after := state(c); before != after {
		t.Errorf("%s became\n%s", before, after)
	}
	moved(t, c, api.ActDrop, 0)
	done(t, c, ticks(2), api.Reply{N: 1})
	inNet(t, c, net...)
	moved(t, c, api.ActDeliver, 0)
	for h := range 2 {
		if m := c.Thread(h, 2).Mails; len(m) != 1 || !label.Same(m[0].Label, at(3, 0)) || !slices.Equal(m[0].Grants, []int{0}) {
			t.Errorf("%+v", m)
		}
	}
}

// spoil writes over all that a thread's answer holds, its spare room too.
func spoil(th api.Thread) {
	wipe(th.Label)
	wipe(th.Own)
	for _, o := range th.Objects {
		wipe(o.Label)
	}
	for _, m := range th.Mails {
		wipe(m.Label)
		wipe(m.Grants)
	}
	wipe(th.Objects)
	wipe(th.Mails)
}

// What is answered is the caller's: writing over it changes nothing of what is answered later.
func TestAnswersAreTheCallers(t *testing.T) {
	c, untouched := busy(t), busy(t)
	same := func(what string) {
		t.Helper()
		if a, b := state(c), state(untouched); a != b {
			t.Errorf("%s:\n%s; wanted\n%s", what, a, b)
		}
	}
	scribble := func() {
		for h := range api.Hosts {
			for who := range api.Threads {
				spoil(c.Thread(h, who))
			}
			wipe(c.Certs(h))
			_ = append(c.Certs(h), api.Cert{C: 79})
		}
		wipe(c.Net())
		_ = append(c.Net(), "x")
	}
	scribble()
	same("written over")
	// What is kept for later, and told by no answer yet, is not touched either.
	for i := range 40 {
		for _, a := range []api.Act{ticks(1 + i%5), delivers(i % 7), copies(i % 5), takes(i%api.Hosts, i%api.Threads)} {
			if x, y := c.Do(a), untouched.Do(a); x != y {
				t.Errorf("%+v: %+v; wanted %+v", a, x, y)
			}
			scribble()
		}
		same(fmt.Sprint("round ", i))
	}
}

// An answer that was given stays as it is, whatever is done later.
func TestAnswersStay(t *testing.T) {
	c := busy(t)
	var ths []api.Thread
	for h := range api.Hosts {
		ths = append(ths, c.Thread(h, 2), c.Thread(h, 3))
	}
	net, certs := c.Net(), c.Certs(1)
	before := fmt.Sprintf("%#v %q %v", ths, net, certs)
	for h := range api.Hosts {
		ok(t, c, certifies(h, 0, h*api.Categories, (h+2)%api.Hosts, 3), raises(h, 3, 79, 3))
		for i := range 3 {
			c.Do(called(h, 3, api.Call{Kind: api.CallPut, T: 3, Text: fmt.Sprint(i)}))
			c.Do(takes(h, 3))
			c.Do(takes(h, 2))
			c.Do(drops(i))
			c.Do(delivers(i))
			c.Do(ticks(2))
			c.Do(says(h, (h+1)%api.Hosts, "x"))
		}
	}
	if after := fmt.Sprintf("%#v %q %v", ths, net, certs); before != after {
		t.Errorf("%s became\n%s", before, after)
	}
}
