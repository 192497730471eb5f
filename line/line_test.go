package line_test

import (
	"math"
	"math/rand"
	"reflect"
	"slices"
	"testing"

	"parclose/api"
	"parclose/line"
)

const (
	lastNext = api.MaxTime - 1
	lastDue  = 2 * api.MaxTime
)

// beyond is numbers out of the bounds of what goes from first to last.
func beyond(first, last int) []int {
	return []int{math.MinInt, first - 1<<32, first - 256, first - 1, last + 1, last + 256, last + 1<<32, math.MaxInt}
}

// letter is a frame with something of everything, told from others by its number.
func letter(n int) api.Frame {
	return api.Frame{
		From: 1, To: 3, Seq: n, Thread: 2,
		Mail:  api.Mail{Host: 1, Thread: 3, Label: api.Label{{C: 20, L: 3}, {C: 21, L: n % 4}}, Grants: []int{20, 22 + n%9}, Text: "hi"},
		Certs: []api.Cert{{C: 20, By: 1, Host: 3, Until: n}},
	}
}

func sent(seq, tries, due int) api.Sent {
	return api.Sent{Frame: letter(seq), Tries: tries, Due: due}
}

// filled is a good line on which numbers up to Next were sent; those in seqs are not answered.
func filled(next int, seqs ...int) api.Line {
	l := api.Line{Next: next, High: 30, Seen: [api.Window]bool{0: true, 2: true, 7: true}}
	for i, seq := range seqs {
		l.Sent = append(l.Sent, sent(seq, 1+i%api.MaxTries, 10*i))
	}
	return l
}

// copied is a line in memory of its own.
func copied(l api.Line) api.Line {
	l.Sent = slices.Clone(l.Sent)
	for i := range l.Sent {
		l.Sent[i].Frame = copiedFrame(l.Sent[i].Frame)
	}
	return l
}

func copiedFrame(f api.Frame) api.Frame {
	f.Mail.Label, f.Mail.Grants, f.Certs = slices.Clone(f.Mail.Label), slices.Clone(f.Mail.Grants), slices.Clone(f.Certs)
	return f
}

// changed is a line after a change, which the line itself does not see.
func changed(l api.Line, change func(l *api.Line)) api.Line {
	l = copied(l)
	change(&l)
	return l
}

// sameFrame is whether two frames are alike, where an empty list is like none.
func sameFrame(a, b api.Frame) bool {
	lists := slices.Equal(a.Mail.Label, b.Mail.Label) && slices.Equal(a.Mail.Grants, b.Mail.Grants) && slices.Equal(a.Certs, b.Certs)
	for _, f := range []*api.Frame{&a, &b} {
		f.Mail.Label, f.Mail.Grants, f.Certs = nil, nil, nil
	}
	return lists && reflect.DeepEqual(a, b)
}

func sameSent(a, b api.Sent) bool {
	return sameFrame(a.Frame, b.Frame) && a.Tries == b.Tries && a.Due == b.Due
}

func sameLine(a, b api.Line) bool {
	return a.Next == b.Next && a.High == b.High && a.Seen == b.Seen && slices.EqualFunc(a.Sent, b.Sent, sameSent)
}

// goodLines is good lines, with the edges of all that they are made of.
func goodLines() []api.Line {
	good := []api.Line{
		{},
		{Sent: []api.Sent{}},
		{Next: 1},
		{Next: lastNext},
		{High: 1},
		{High: api.MaxTime},
		{Next: lastNext, High: api.MaxTime, Seen: [api.Window]bool{true, true, true, true, true, true, true, true}},
		{Seen: [api.Window]bool{true, true, true, true, true, true, true, true}},
		filled(1, 1),
		filled(2, 1),
		filled(2, 2),
		filled(2, 1, 2),
		filled(9, 1, 9),
		filled(8, 1, 2, 3, 4, 5, 6, 7),
		filled(8, 1, 2, 3, 4, 5, 6, 7, 8),
		filled(100, 2, 3, 5, 7, 90, 97, 99, 100),
		filled(lastNext, 1),
		filled(lastNext, lastNext),
		filled(lastNext, 1, 2, lastNext-1, lastNext),
	}
	for _, tries := range []int{1, 2, 3, 4, api.MaxTries} {
		for _, due := range []int{0, 1, api.MaxTime, api.MaxTime + 1, lastDue - 1, lastDue} {
			good = append(good, api.Line{Next: 5, Sent: []api.Sent{sent(5, tries, due)}})
		}
	}
	// The frames themselves are for others to judge.
	for _, f := range []api.Frame{{Seq: 1}, {From: -1, To: 99, Seq: 1, Ack: true, Thread: -1}, {Seq: 1, Mail: api.Mail{Host: -1, Grants: []int{9, 9, -1}}, Certs: make([]api.Cert, 99)}} {
		good = append(good, api.Line{Next: 1, Sent: []api.Sent{{Frame: f, Tries: 1}}})
	}
	return good
}

// badSents is what may not stand on a line whose Next is 50, in one way each.
func badSents() []api.Sent {
	var bad []api.Sent
	for _, n := range beyond(1, 50) {
		bad = append(bad, sent(n, 1, 5))
	}
	for _, n := range beyond(1, api.MaxTries) {
		bad = append(bad, sent(20, n, 5))
	}
	for _, n := range beyond(0, lastDue) {
		bad = append(bad, sent(20, 1, n))
	}
	return bad
}

// badLines is lines that are not good, in one way each.
func badLines() []api.Line {
	bad := []api.Line{
		filled(9, 1, 2, 3, 4, 5, 6, 7, 8, 9),
		filled(0, 1),
		filled(0, 0),
		filled(7, 1, 8),
		filled(7, 0, 1),
		filled(7, 3, 3),
		filled(7, 2, 3, 3),
		filled(7, 3, 3, 4),
		filled(7, 4, 3),
		filled(7, 1, 4, 3, 5),
		filled(7, 1, 4, 2),
		filled(8, 1, 2, 3, 4, 5, 6, 8, 7),
		filled(lastNext, lastNext+1),
		{Next: 1, Sent: make([]api.Sent, 1)},
		{Next: 1, Sent: make([]api.Sent, api.MaxOut)},
	}
	for _, base := range []api.Line{{}, filled(0), filled(9, 1, 9)} {
		for _, n := range beyond(0, lastNext) {
			bad = append(bad, changed(base, func(l *api.Line) { l.Next = n }))
		}
		for _, n := range beyond(0, api.MaxTime) {
			bad = append(bad, changed(base, func(l *api.Line) { l.High = n }))
		}
	}
	around := []api.Sent{sent(19, 1, 5), sent(21, 1, 5)}
	for _, s := range badSents() {
		bad = append(bad, api.Line{Next: 50, Sent: []api.Sent{s}})
		for i := range len(around) + 1 {
			bad = append(bad, api.Line{Next: 50, Sent: slices.Insert(slices.Clone(around), i, s)})
		}
	}
	many := api.Line{Next: 1000}
	for i := range 1000 {
		many.Sent = append(many.Sent, sent(i+1, 1, 5))
	}
	return append(bad, many)
}

// P5.1
func TestGood(t *testing.T) {
	for _, l := range goodLines() {
		if !line.Good(l) {
			t.Errorf("%+v is good", l)
		}
	}
	for _, l := range badLines() {
		if line.Good(l) {
			t.Errorf("%+v is not good", l)
		}
	}
}

// sendRefused holds Send to an error, with which the line is as it was, and the frame nothing.
func sendRefused(t *testing.T, l api.Line, f api.Frame, now int, want api.Errno) {
	t.Helper()
	was := copied(l)
	got, frame, e := line.Send(l, f, now)
	if e != want || !reflect.DeepEqual(got, was) || !sameFrame(frame, api.Frame{}) {
		t.Errorf("%+v at %d: %+v, %+v, %d, not %d", was, now, got, frame, e, want)
	}
}

func answeredRefused(t *testing.T, l api.Line, seq int, want api.Errno) {
	t.Helper()
	was := copied(l)
	if got, e := line.Answered(l, seq); e != want || !reflect.DeepEqual(got, was) {
		t.Errorf("%+v: %d: %+v, %d, not %d", was, seq, got, e, want)
	}
}

func againRefused(t *testing.T, l api.Line, now int) {
	t.Helper()
	was := copied(l)
	got, frames, e := line.Again(l, now)
	if e != api.ErrRange || !reflect.DeepEqual(got, was) || len(frames) != 0 {
		t.Errorf("%+v at %d: %+v, %+v, %d", was, now, got, frames, e)
	}
}

func takeRefused(t *testing.T, l api.Line, seq int, want api.Errno) {
	t.Helper()
	was := copied(l)
	if got, e := line.Take(l, seq); e != want || !reflect.DeepEqual(got, was) {
		t.Errorf("%+v: %d: %+v, %d, not %d", was, seq, got, e, want)
	}
}

// P5.1: a line that is not good is refused first, whatever else there is to say.
func TestNotGood(t *testing.T) {
	for _, l := range badLines() {
		for _, now := range []int{-1, 0, 5, api.MaxTime, api.MaxTime + 1} {
			sendRefused(t, l, letter(3), now, api.ErrRange)
			againRefused(t, l, now)
		}
		for _, seq := range []int{math.MinInt, 0, 1, 3, 20, 31, l.High, l.High - api.Window, api.MaxTime, api.MaxTime + 1} {
			answeredRefused(t, l, seq, api.ErrRange)
			takeRefused(t, l, seq, api.ErrRange)
		}
	}
}

// P5.1: a now that is no time is refused first, also where there is no room, or nothing to send again.
func TestNoTime(t *testing.T) {
	for _, l := range goodLines() {
		for _, now := range beyond(0, api.MaxTime) {
			sendRefused(t, l, letter(3), now, api.ErrRange)
			againRefused(t, l, now)
		}
	}
}

// P5.1: a number that nothing can be sent with is refused first, also where it would be old.
func TestTakeOfNoNumber(t *testing.T) {
	for _, l := range goodLines() {
		for _, seq := range beyond(1, api.MaxTime) {
			takeRefused(t, l, seq, api.ErrRange)
		}
	}
}

// full is whether there is no room for one more on a good line.
func full(l api.Line) bool { return len(l.Sent) >= api.MaxOut || l.Next >= lastNext }

// P5.2
func TestSend(t *testing.T) {
	for _, l := range goodLines() {
		if full(l) {
			continue
		}
		for _, now := range []int{0, 1, 77, api.MaxTime - 1, api.MaxTime} {
			for _, f := range []api.Frame{{}, letter(0), letter(99), letter(-5), {Ack: true, From: 9, To: 9, Seq: math.MaxInt, Thread: -1}} {
				numbered := f
				numbered.Seq = l.Next + 1
				want := changed(l, func(l *api.Line) {
					l.Next++
					l.Sent = append(l.Sent, api.Sent{Frame: numbered, Tries: 1, Due: now + 2})
				})
				got, frame, e := line.Send(l, f, now)
				if e != api.OK || !sameLine(got, want) || !sameFrame(frame, numbered) || !line.Good(got) {
					t.Errorf("%+v, %+v at %d: %+v, %+v, %d", l, f, now, got, frame, e)
				}
			}
		}
	}
}

// P5.2: frame by frame, up to MaxOut; one more is refused, until one is answered.
func TestSendFull(t *testing.T) {
	var l api.Line
	for i := range api.MaxOut {
		got, f, e := line.Send(l, letter(7), i)
		if e != api.OK || f.Seq != i+1 || len(got.Sent) != i+1 {
			t.Fatalf("%d: %+v, %+v, %d", i, got, f, e)
		}
		l = got
	}
	for _, now := range []int{0, 8, api.MaxTime} {
		sendRefused(t, l, letter(7), now, api.ErrFull)
	}
	l, _ = line.Answered(l, 3)
	got, f, e := line.Send(l, letter(7), 50)
	if e != api.OK || f.Seq != api.MaxOut+1 || len(got.Sent) != api.MaxOut || got.Sent[api.MaxOut-1].Frame.Seq != api.MaxOut+1 || got.Sent[2].Frame.Seq != 4 {
		t.Errorf("%+v, %+v, %d", got, f, e)
	}
}

// P5.2: the greatest number is MaxTime - 1; then there is no more, though nothing be in Sent.
func TestSendLastNumber(t *testing.T) {
	l, f, e := line.Send(api.Line{Next: lastNext - 1}, letter(7), 3)
	if e != api.OK || f.Seq != lastNext || l.Next != lastNext || !line.Good(l) {
		t.Fatalf("%+v, %+v, %d", l, f, e)
	}
	sendRefused(t, l, letter(7), 3, api.ErrFull)
	sendRefused(t, api.Line{Next: lastNext}, letter(7), 0, api.ErrFull)
	sendRefused(t, filled(lastNext, 1, 2, 3, 4, 5, 6, 7, 8), letter(7), api.MaxTime, api.ErrFull)
}

// P5.3: each of those in Sent, wherever it stands, and that one alone.
func TestAnswered(t *testing.T) {
	for _, l := range goodLines() {
		for i, s := range l.Sent {
			want := changed(l, func(l *api.Line) { l.Sent = slices.Delete(l.Sent, i, i+1) })
			got, e := line.Answered(l, s.Frame.Seq)
			if e != api.OK || !sameLine(got, want) {
				t.Errorf("%+v: %d: %+v, %d", l, s.Frame.Seq, got, e)
			}
			answeredRefused(t, got, s.Frame.Seq, api.ErrNone)
		}
	}
}

// P5.3: a number that was never sent, or is gone; all numbers that none has are such.
func TestAnsweredNone(t *testing.T) {
	for _, seq := range append(beyond(1, api.MaxTime), 1, 2, api.MaxTime) {
		answeredRefused(t, api.Line{}, seq, api.ErrNone)
		answeredRefused(t, api.Line{Next: 5}, seq, api.ErrNone)
		answeredRefused(t, filled(9, 3, 5, 7), seq, api.ErrNone)
	}
	for _, seq := range []int{0, 2, 4, 6, 8, 9, 10, 30} {
		answeredRefused(t, filled(9, 3, 5, 7), seq, api.ErrNone)
	}
}

// P5.4: what is due just now, and what is due just behind; the Due behind each number of tries.
func TestAgain(t *testing.T) {
	waits := []int{2: 4, 3: 8, 4: 16, 5: 32}
	for _, now := range []int{0, 1, 63, 1 << 39, api.MaxTime - 1, api.MaxTime} {
		for tries := 1; tries <= api.MaxTries; tries++ {
			for _, due := range []int{0, now / 2, max(now-1, 0), now, now + 1, now + 2, lastDue} {
				l := api.Line{Next: 9, Sent: []api.Sent{sent(4, tries, due)}, High: 30, Seen: [api.Window]bool{0: true, 3: true}}
				want, frames := copied(l), []api.Frame{}
				switch {
				case due > now:
				case tries == api.MaxTries:
					want.Sent = nil
				default:
					want.Sent[0].Tries, want.Sent[0].Due = tries+1, now+waits[tries+1]
					frames = append(frames, letter(4))
				}
				got, again, e := line.Again(l, now)
				if e != api.OK || !sameLine(got, want) || !slices.EqualFunc(again, frames, sameFrame) || !line.Good(got) {
					t.Errorf("%d tries, due %d, at %d: %+v, %+v, %d", tries, due, now, got, again, e)
				}
			}
		}
	}
}

// P5.4: one by one: some stay as they are, some are sent again, some are given up; all in their order.
func TestAgainMany(t *testing.T) {
	l := filled(20)
	l.Sent = []api.Sent{
		sent(2, 5, 10), sent(3, 1, 10), sent(5, 5, 11), sent(6, 4, 0), sent(7, 5, 0), sent(11, 2, 11), sent(12, 3, 9), sent(20, 1, 12),
	}
	want := changed(l, func(l *api.Line) {
		l.Sent = []api.Sent{sent(3, 2, 14), sent(5, 5, 11), sent(6, 5, 42), sent(11, 2, 11), sent(12, 4, 26), sent(20, 1, 12)}
	})
	got, again, e := line.Again(l, 10)
	if e != api.OK || !sameLine(got, want) || !slices.EqualFunc(again, []api.Frame{letter(3), letter(6), letter(12)}, sameFrame) {
		t.Errorf("%+v, %+v, %d", got, again, e)
	}
	if got, again, e := line.Again(got, 10); e != api.OK || !sameLine(got, want) || len(again) != 0 {
		t.Errorf("once more: %+v, %+v, %d", got, again, e)
	}
	if got, again, e := line.Again(filled(20), 10); e != api.OK || !sameLine(got, filled(20)) || len(again) != 0 {
		t.Errorf("of nothing: %+v, %+v, %d", got, again, e)
	}
	all := api.Line{Next: 8}
	for i := range api.MaxOut {
		all.Sent = append(all.Sent, sent(i+1, api.MaxTries, i))
	}
	if got, again, e := line.Again(all, api.MaxOut-1); e != api.OK || !sameLine(got, api.Line{Next: 8}) || len(again) != 0 {
		t.Errorf("all given up: %+v, %+v, %d", got, again, e)
	}
}

// P5.2, P5.4: a frame that is lost is sent five times in all, and then given up; nobody can answer it any more.
func TestLost(t *testing.T) {
	for _, start := range []int{0, 100, api.MaxTime - 62} {
		l, f, e := line.Send(filled(3), letter(0), start)
		if e != api.OK {
			t.Fatal(e)
		}
		var times []int
		for now := start; now <= start+61; now++ {
			var again []api.Frame
			if l, again, e = line.Again(l, now); e != api.OK {
				t.Fatal(e)
			}
			for _, g := range again {
				if !sameFrame(f, g) {
					t.Errorf("%+v became %+v", f, g)
				}
				times = append(times, now-start)
			}
		}
		if !slices.Equal(times, []int{2, 6, 14, 30}) || len(l.Sent) != 1 {
			t.Errorf("from %d on: %v, %+v", start, times, l)
		}
		if _, e := line.Answered(l, f.Seq); e != api.OK {
			t.Errorf("answered at last: %d", e)
		}
		l, again, e := line.Again(l, start+62)
		if e != api.OK || !sameLine(l, filled(4)) || len(again) != 0 {
			t.Errorf("given up: %+v, %+v, %d", l, again, e)
		}
		answeredRefused(t, l, f.Seq, api.ErrNone)
	}
}

// seen is an array of truths that names how far behind the greatest number the ones are that came.
func seen(list ...int) [api.Window]bool {
	var in [api.Window]bool
	for _, k := range list {
		in[k] = true
	}
	return in
}

// P5.5
func TestTake(t *testing.T) {
	for _, v := range []struct {
		high int
		seen [api.Window]bool
		seq  int
		e    api.Errno
		want int
		then [api.Window]bool
	}{
		// From nothing on.
		{0, seen(), 1, api.OK, 1, seen(0)},
		{0, seen(), 7, api.OK, 7, seen(0)},
		{0, seen(), 8, api.OK, 8, seen(0)},
		{0, seen(), 9, api.OK, 9, seen(0)},
		{0, seen(), api.MaxTime, api.OK, api.MaxTime, seen(0)},
		// Above the greatest: what came lies farther behind, and at last nowhere.
		{20, seen(0, 1, 6, 7), 21, api.OK, 21, seen(0, 1, 2, 7)},
		{20, seen(0, 1, 6, 7), 22, api.OK, 22, seen(0, 2, 3)},
		{20, seen(0, 1), 26, api.OK, 26, seen(0, 6, 7)},
		{20, seen(0, 1), 27, api.OK, 27, seen(0, 7)},
		{20, seen(0, 1), 28, api.OK, 28, seen(0)},
		{20, seen(0, 1, 2, 3, 4, 5, 6, 7), 28, api.OK, 28, seen(0)},
		{20, seen(0, 1, 2, 3, 4, 5, 6, 7), 29, api.OK, 29, seen(0)},
		{20, seen(0, 1, 2, 3, 4, 5, 6, 7), api.MaxTime, api.OK, api.MaxTime, seen(0)},
		{1, seen(0), api.MaxTime, api.OK, api.MaxTime, seen(0)},
		// Below it, and new.
		{20, seen(0), 19, api.OK, 20, seen(0, 1)},
		{20, seen(0, 1, 3), 18, api.OK, 20, seen(0, 1, 2, 3)},
		{20, seen(0), 13, api.OK, 20, seen(0, 7)},
		{3, seen(0), 1, api.OK, 3, seen(0, 2)},
		{8, seen(0), 1, api.OK, 8, seen(0, 7)},
		{api.MaxTime, seen(0), api.MaxTime - 7, api.OK, api.MaxTime, seen(0, 7)},
		// It came.
		{20, seen(0), 20, api.ErrTwice, 20, seen(0)},
		{20, seen(0, 1), 19, api.ErrTwice, 20, seen(0, 1)},
		{20, seen(0, 7), 13, api.ErrTwice, 20, seen(0, 7)},
		{1, seen(0), 1, api.ErrTwice, 1, seen(0)},
		{api.MaxTime, seen(0), api.MaxTime, api.ErrTwice, api.MaxTime, seen(0)},
		// Nobody knows.
		{20, seen(0), 12, api.ErrOld, 20, seen(0)},
		{20, seen(0), 11, api.ErrOld, 20, seen(0)},
		{20, seen(0, 1, 2, 3, 4, 5, 6, 7), 1, api.ErrOld, 20, seen(0, 1, 2, 3, 4, 5, 6, 7)},
		{9, seen(0), 1, api.ErrOld, 9, seen(0)},
		{api.MaxTime, seen(0), api.MaxTime - 8, api.ErrOld, api.MaxTime, seen(0)},
		{api.MaxTime, seen(0), 1, api.ErrOld, api.MaxTime, seen(0)},
	} {
		l := filled(9, 3, 5, 7)
		l.High, l.Seen = v.high, v.seen
		want := copied(l)
		want.High, want.Seen = v.want, v.then
		if got, e := line.Take(l, v.seq); e != v.e || !sameLine(got, want) {
			t.Errorf("%d to %d, %v: %+v, %d", v.seq, v.high, v.seen, got, e)
		}
	}
}

// bits is an array of truths as the bits of a number, the nearest lowest.
func bits(in [api.Window]bool) int {
	n := 0
	for k, v := range in {
		if v {
			n |= 1 << k
		}
	}
	return n
}

// P5.5: whatever came, and whatever comes near it: against another way to work it out.
func TestTakeAll(t *testing.T) {
	for _, high := range []int{0, 1, 2, 7, 8, 9, 20, api.MaxTime - 10, api.MaxTime - 1, api.MaxTime} {
		for came := range 1 << api.Window {
			l := api.Line{High: high}
			for k := range l.Seen {
				l.Seen[k] = came>>k&1 == 1
			}
			for seq := max(high-12, 1); seq <= min(high+12, api.MaxTime); seq++ {
				wantHigh, want, wantE := max(high, seq), came, api.OK
				if seq > high {
					want = came<<(seq-high)&(1<<api.Window-1) | 1
				} else if high-seq >= api.Window {
					wantE = api.ErrOld
				} else if bit := 1 << (high - seq); came&bit != 0 {
					wantE = api.ErrTwice
				} else {
					want |= bit
				}
				if got, e := line.Take(l, seq); e != wantE || got.High != wantHigh || bits(got.Seen) != want {
					t.Fatalf("%d to %d, %08b: %d, %08b, %d", seq, high, came, got.High, bits(got.Seen), e)
				}
			}
		}
	}
}

// P5.5: against one who remembers all that ever came.
func TestTakeAgainstMemory(t *testing.T) {
	r := rand.New(rand.NewSource(1))
	for range 300 {
		var l api.Line
		came, high := map[int]bool{}, 0
		for range 100 {
			seq := max(high+r.Intn(16)-11, 1)
			if r.Intn(20) == 0 {
				seq += r.Intn(30)
			}
			want := api.OK
			if seq <= high-api.Window {
				want = api.ErrOld
			} else if came[seq] {
				want = api.ErrTwice
			}
			got, e := line.Take(l, seq)
			if e != want {
				t.Fatalf("%+v: %d: %d, not %d", l, seq, e, want)
			}
			if e == api.OK {
				came[seq], high = true, max(high, seq)
			}
			l = got
			for k, v := range l.Seen {
				if l.High != high || v != came[high-k] {
					t.Fatalf("%+v: %d behind %d", l, k, high)
				}
			}
		}
	}
}

// wait is what a number of a sender is waiting for, in a book that is kept by number.
type wait struct{ tries, due int }

// book writes down what a line should hold.
type book struct {
	next int
	open map[int]wait
}

func (b *book) line() api.Line {
	l := api.Line{Next: b.next}
	for seq := 1; seq <= b.next; seq++ {
		if w, ok := b.open[seq]; ok {
			l.Sent = append(l.Sent, sent(seq, w.tries, w.due))
		}
	}
	return l
}

func (b *book) send(now int) api.Errno {
	if len(b.open) == 8 {
		return api.ErrFull
	}
	b.next++
	b.open[b.next] = wait{1, now + 2}
	return api.OK
}

func (b *book) answered(seq int) api.Errno {
	if _, ok := b.open[seq]; !ok {
		return api.ErrNone
	}
	delete(b.open, seq)
	return api.OK
}

func (b *book) again(now int) []api.Frame {
	var again []api.Frame
	for seq := 1; seq <= b.next; seq++ {
		w, ok := b.open[seq]
		if !ok || w.due > now {
			continue
		}
		delete(b.open, seq)
		if w.tries < 5 {
			b.open[seq] = wait{w.tries + 1, now + []int{2, 4, 8, 16, 32}[w.tries]}
			again = append(again, letter(seq))
		}
	}
	return again
}

// P5.2, P5.3, P5.4: against a book that is kept by number; at times the time goes back.
func TestAgainstBook(t *testing.T) {
	r := rand.New(rand.NewSource(2))
	for range 200 {
		var l api.Line
		b := &book{open: map[int]wait{}}
		now := 0
		for range 150 {
			var e, want api.Errno
			switch r.Intn(3) {
			case 0:
				want = b.send(now)
				l, _, e = line.Send(l, letter(l.Next+1), now)
			case 1:
				seq := b.next - r.Intn(12)
				want = b.answered(seq)
				l, e = line.Answered(l, seq)
			case 2:
				now = max(now+r.Intn(12)-2, 0)
				frames := b.again(now)
				var again []api.Frame
				l, again, e = line.Again(l, now)
				if !slices.EqualFunc(again, frames, sameFrame) {
					t.Fatalf("at %d: %+v, not %+v", now, again, frames)
				}
			}
			if e != want || !sameLine(l, b.line()) || !line.Good(l) {
				t.Fatalf("at %d: %+v, not %+v; %d, not %d", now, l, b.line(), e, want)
			}
		}
	}
}

// spared is a list with room behind it that holds marks.
func spared[E any](list []E, mark E) []E {
	room := append(slices.Clone(list), mark, mark, mark)
	return room[:len(list)]
}

// whole is a list with its spare room, in memory of its own.
func whole[E any](list []E) []E { return slices.Clone(list[:cap(list)]) }

// sparedFrame is a frame whose lists have room behind them.
func sparedFrame(f api.Frame) api.Frame {
	f.Mail.Label = spared(f.Mail.Label, api.Level{C: -7, L: -7})
	f.Mail.Grants = spared(f.Mail.Grants, -7)
	f.Certs = spared(f.Certs, api.Cert{C: -7})
	return f
}

// wholeFrame is a frame with all that lies in its lists and behind them.
func wholeFrame(f api.Frame) api.Frame {
	f.Mail.Label, f.Mail.Grants, f.Certs = whole(f.Mail.Label), whole(f.Mail.Grants), whole(f.Certs)
	return f
}

// sparedLine is a line all of whose lists have room behind them.
func sparedLine(l api.Line) api.Line {
	l.Sent = spared(l.Sent, sent(-7, -7, -7))
	for i := range l.Sent {
		l.Sent[i].Frame = sparedFrame(l.Sent[i].Frame)
	}
	return l
}

func wholeLine(l api.Line) api.Line {
	l.Sent = whole(l.Sent)
	for i := range l.Sent {
		l.Sent[i].Frame = wholeFrame(l.Sent[i].Frame)
	}
	return l
}

// Lists that are handed in are not changed, their spare room neither, whether the call is refused or not.
func TestHandedInStays(t *testing.T) {
	for _, v := range append(goodLines(), badLines()...) {
		l, f := sparedLine(v), sparedFrame(letter(3))
		lineBefore, frameBefore := wholeLine(l), wholeFrame(f)
		line.Good(l)
		for _, now := range []int{-1, 0, 10, 50, api.MaxTime} {
			line.Send(l, f, now)
			line.Again(l, now)
		}
		for _, seq := range []int{0, 1, 2, 3, 5, 9, 20, 29, 30, 31, 99, lastNext} {
			line.Answered(l, seq)
			line.Take(l, seq)
		}
		if !reflect.DeepEqual(lineBefore, wholeLine(l)) || !reflect.DeepEqual(frameBefore, wholeFrame(f)) {
			t.Fatalf("%+v became %+v; %+v became %+v", lineBefore, wholeLine(l), frameBefore, wholeFrame(f))
		}
	}
}

// scribbleFrame writes over all that a frame's lists hold, and behind it.
func scribbleFrame(f api.Frame) {
	for i := range f.Mail.Label {
		f.Mail.Label[i].C = -9
	}
	for i := range f.Mail.Grants {
		f.Mail.Grants[i] = -9
	}
	for i := range f.Certs {
		f.Certs[i].C = -9
	}
	_ = append(f.Mail.Label, api.Level{C: -9})
	_ = append(f.Mail.Grants, -9)
	_ = append(f.Certs, api.Cert{C: -9})
}

func scribbleLine(l api.Line) {
	for i := range l.Sent {
		scribbleFrame(l.Sent[i].Frame)
		l.Sent[i] = api.Sent{}
	}
	_ = append(l.Sent, api.Sent{})
}

// What is answered is new each time: who changes it, or lays something behind it, changes nothing else, not even what was answered with it.
func TestAnswersAreNew(t *testing.T) {
	calls := map[string]func(l api.Line, f api.Frame) (api.Line, []api.Frame, api.Errno){
		"send": func(l api.Line, f api.Frame) (api.Line, []api.Frame, api.Errno) {
			got, frame, e := line.Send(l, f, 40)
			return got, []api.Frame{frame}, e
		},
		"answered": func(l api.Line, f api.Frame) (api.Line, []api.Frame, api.Errno) {
			got, e := line.Answered(l, f.Seq)
			return got, nil, e
		},
		"again": func(l api.Line, f api.Frame) (api.Line, []api.Frame, api.Errno) { return line.Again(l, 20) },
		"take": func(l api.Line, f api.Frame) (api.Line, []api.Frame, api.Errno) {
			got, e := line.Take(l, f.Seq+26)
			return got, nil, e
		},
	}
	for name, call := range calls {
		codes := map[api.Errno]bool{}
		for _, v := range []api.Line{filled(9, 3, 5, 7), filled(9, 2, 4), filled(9, 1, 2, 3, 4, 5, 6, 7, 8), filled(8, 5, 3), {Next: 9, High: 40, Sent: []api.Sent{sent(9, 1, 9)}}} {
			l, f := sparedLine(v), sparedFrame(letter(3))
			lineBefore, frameBefore := wholeLine(l), wholeFrame(f)
			wantLine, wantFrames, e := call(l, f)
			codes[e] = true
			keptLine, keptFrames, _ := call(l, f)
			scribbleLine(wantLine)
			if !slices.EqualFunc(wantFrames, keptFrames, sameFrame) {
				t.Errorf("%s: %+v changed with the line", name, wantFrames)
			}
			wantLine, wantFrames, _ = call(l, f)
			for _, g := range wantFrames {
				scribbleFrame(g)
			}
			if !sameLine(wantLine, keptLine) {
				t.Errorf("%s: %+v changed with the frames", name, wantLine)
			}
			if !reflect.DeepEqual(lineBefore, wholeLine(l)) || !reflect.DeepEqual(frameBefore, wholeFrame(f)) {
				t.Errorf("%s: what was handed in became %+v, %+v", name, wholeLine(l), wholeFrame(f))
			}
		}
		if !codes[api.OK] || len(codes) < 2 {
			t.Errorf("%s: not all of its ways were gone: %v", name, codes)
		}
	}
}

// Long lines and long frames come to an end soon.
func TestLong(t *testing.T) {
	const n = 1 << 18
	l := api.Line{Next: n}
	f := api.Frame{Mail: api.Mail{Grants: make([]int, n), Label: make(api.Label, n)}, Certs: make([]api.Cert, n)}
	for i := range n {
		l.Sent = append(l.Sent, api.Sent{Frame: api.Frame{Seq: i + 1}, Tries: 1, Due: 5})
		f.Mail.Grants[i] = i
	}
	sendRefused(t, l, f, 3, api.ErrRange)
	answeredRefused(t, l, n, api.ErrRange)
	againRefused(t, l, 9)
	takeRefused(t, l, 9, api.ErrRange)
	got, frame, e := line.Send(api.Line{}, f, 3)
	f.Seq = 1
	if e != api.OK || !sameFrame(frame, f) || !sameFrame(got.Sent[0].Frame, f) {
		t.Errorf("a long frame: %d", e)
	}
}
