package wire_test

import (
	"math"
	"reflect"
	"slices"
	"strings"
	"testing"

	"parclose/api"
	"parclose/label"
	"parclose/wire"
)

const (
	lastHost     = api.Hosts - 1
	lastThread   = api.Threads - 1
	lastCategory = api.Hosts*api.Categories - 1
)

// beyond is numbers out of the bounds of what goes from 0 to last.
func beyond(last int) []int {
	return []int{math.MinInt, -1 << 32, -256, -1, last + 1, last + 256, last + 1<<32, math.MaxInt}
}

// rising is n categories that rise, each once.
func rising(n int) []int {
	var list []int
	for i := range n {
		list = append(list, 3*i)
	}
	return list
}

// levels is a label of n categories that rise, each once.
func levels(n int) api.Label {
	var l api.Label
	for i := range n {
		l = append(l, api.Level{C: 7 * i, L: api.Top})
	}
	return l
}

// certs is n good certs.
func certs(n int) []api.Cert {
	var list []api.Cert
	for i := range n {
		list = append(list, api.Cert{C: i, By: i % api.Hosts, Host: (i + 1) % api.Hosts, Until: i << 35})
	}
	return list
}

// letter is a good frame with something of everything.
func letter() api.Frame {
	return api.Frame{
		From: 2, To: 3, Seq: 0x0203040506, Thread: 1,
		Mail:  api.Mail{Host: 2, Thread: 3, Label: api.Label{{C: 4, L: 3}, {C: 50, L: 0}}, Grants: []int{0, 4, 79}, Text: "hi\x00\xff"},
		Certs: []api.Cert{{C: 4, By: 0, Host: 3, Until: api.MaxTime}, {C: 79, By: 3, Host: 2, Until: 0x0a0b}},
	}
}

// fullest is a good frame with as much as there may be.
func fullest() api.Frame {
	return api.Frame{
		From: lastHost, To: 0, Seq: api.MaxTime, Thread: lastThread,
		Mail: api.Mail{
			Host: lastHost, Thread: lastThread, Label: levels(api.MaxLevels),
			Grants: rising(api.MaxOwn), Text: strings.Repeat("\xfe", api.MaxText),
		},
		Certs: certs(api.MaxCerts),
	}
}

// changed is a frame after a change.
func changed(f api.Frame, change func(f *api.Frame)) api.Frame {
	change(&f)
	return f
}

// same is whether two frames are alike, where an empty list is like none.
func same(a, b api.Frame) bool {
	return a.From == b.From && a.To == b.To && a.Seq == b.Seq && a.Ack == b.Ack && a.Thread == b.Thread &&
		a.Mail.Host == b.Mail.Host && a.Mail.Thread == b.Mail.Thread && label.Same(a.Mail.Label, b.Mail.Label) &&
		slices.Equal(a.Mail.Grants, b.Mail.Grants) && a.Mail.Text == b.Mail.Text && slices.Equal(a.Certs, b.Certs)
}

// P2.1
func TestGoodCert(t *testing.T) {
	for _, c := range []api.Cert{
		{C: 0, By: 0, Host: 1, Until: 0},
		{C: 0, By: 1, Host: 0, Until: 1},
		{C: lastCategory, By: lastHost, Host: 0, Until: api.MaxTime},
		{C: 5, By: 0, Host: lastHost, Until: api.MaxTime - 1},
	} {
		if !wire.GoodCert(c) {
			t.Errorf("%v is good", c)
		}
	}
	bad := []api.Cert{{}, {C: 4, By: 2, Host: 2, Until: 5}, {C: 4, By: lastHost, Host: lastHost, Until: 5}}
	for _, n := range beyond(lastCategory) {
		bad = append(bad, api.Cert{C: n, By: 0, Host: 1, Until: 5})
	}
	for _, n := range beyond(lastHost) {
		bad = append(bad, api.Cert{C: 4, By: n, Host: 1, Until: 5}, api.Cert{C: 4, By: 1, Host: n, Until: 5}, api.Cert{C: 4, By: n, Host: n, Until: 5})
	}
	for _, n := range beyond(api.MaxTime) {
		bad = append(bad, api.Cert{C: 4, By: 0, Host: 1, Until: n})
	}
	for _, c := range bad {
		if wire.GoodCert(c) {
			t.Errorf("%v is not good", c)
		}
	}
}

// P2.1
func TestGoodMail(t *testing.T) {
	for _, m := range []api.Mail{
		{},
		{Label: api.Label{}, Grants: []int{}},
		{Host: lastHost, Thread: lastThread},
		{Label: levels(api.MaxLevels)},
		{Grants: []int{0, lastCategory}},
		{Grants: []int{5, 6, 7}},
		{Grants: rising(api.MaxOwn)},
		{Text: strings.Repeat("a", api.MaxText)},
		letter().Mail,
		fullest().Mail,
	} {
		if e := wire.GoodMail(m); e != api.OK {
			t.Errorf("%v: %d", m, e)
		}
	}
}

// badMails is mail that is out of bounds, in one way each.
func badMails() []api.Mail {
	bad := []api.Mail{
		{Label: api.Label{{C: 3, L: api.Plain}}},
		{Label: api.Label{{C: 3, L: 2}, {C: 3, L: 3}}},
		{Label: api.Label{{C: 4, L: 2}, {C: 3, L: 3}}},
		{Label: api.Label{{C: lastCategory + 1, L: 2}}},
		{Label: api.Label{{C: 4, L: api.Top + 1}}},
		{Label: levels(api.MaxLevels + 1)},
		{Grants: []int{5, 5}},
		{Grants: []int{6, 5}},
		{Grants: []int{1, 2, 4, 3}},
		{Grants: []int{1, 2, 2}},
		{Grants: rising(api.MaxOwn + 1)},
		{Grants: make([]int, 1000)},
	}
	for _, n := range beyond(lastHost) {
		bad = append(bad, api.Mail{Host: n})
	}
	for _, n := range beyond(lastThread) {
		bad = append(bad, api.Mail{Thread: n})
	}
	for _, n := range beyond(lastCategory) {
		bad = append(bad, api.Mail{Grants: []int{n}})
	}
	bad = append(bad, api.Mail{Grants: []int{-1, 3}}, api.Mail{Grants: []int{3, lastCategory + 1}})
	return bad
}

// P2.1
func TestGoodMailErrors(t *testing.T) {
	long := strings.Repeat("a", api.MaxText+1)
	for _, m := range badMails() {
		if e := wire.GoodMail(m); e != api.ErrRange {
			t.Errorf("%v: %d", m, e)
		}
		m.Text = long
		if e := wire.GoodMail(m); e != api.ErrRange {
			t.Errorf("%v: %d, the bounds come first", m, e)
		}
	}
	for _, text := range []string{long, strings.Repeat("\xff", 1000), strings.Repeat("é", api.MaxText/2+1)} {
		if e := wire.GoodMail(api.Mail{Host: 1, Text: text}); e != api.ErrLong {
			t.Errorf("%d bytes: %d", len(text), e)
		}
	}
}

// P2.2
func TestGoodFrames(t *testing.T) {
	for _, f := range []api.Frame{
		{From: 0, To: 1, Seq: 1},
		{From: 0, To: lastHost, Seq: api.MaxTime, Ack: true},
		{From: lastHost, To: 0, Seq: 1, Ack: true},
		{From: 0, To: 1, Seq: 1, Ack: true, Mail: api.Mail{Label: api.Label{}, Grants: []int{}}, Certs: []api.Cert{}},
		{From: 0, To: 1, Seq: 1, Thread: lastThread},
		{From: 1, To: 0, Seq: 1, Mail: api.Mail{Host: 1}},
		{From: 0, To: 1, Seq: 1, Certs: certs(api.MaxCerts)},
		{From: 0, To: 1, Seq: 1, Certs: []api.Cert{certs(3)[2], certs(3)[2]}},
		letter(),
		fullest(),
	} {
		if e := wire.Good(f); e != api.OK {
			t.Errorf("%v: %d", f, e)
		}
	}
}

// badHeads is frames whose head is out of bounds, in one way each.
func badHeads() []api.Frame {
	bad := []api.Frame{{To: 1}, {Seq: 1}, {From: 2, To: 2, Seq: 1}, {From: lastHost, To: lastHost, Seq: 1}}
	for _, n := range beyond(lastHost) {
		bad = append(bad, api.Frame{From: n, Seq: 1}, api.Frame{To: n, Seq: 1}, api.Frame{From: n, To: n, Seq: 1})
	}
	for _, n := range beyond(api.MaxTime) {
		bad = append(bad, api.Frame{To: 1, Seq: n})
	}
	for _, n := range beyond(lastThread) {
		bad = append(bad, api.Frame{To: 1, Seq: 1, Thread: n})
	}
	return bad
}

// P2.2: what is wrong with the head comes first, of an answer and of mail, whatever else is wrong.
func TestGoodHead(t *testing.T) {
	for _, f := range badHeads() {
		answer := changed(f, func(f *api.Frame) { f.Ack = true })
		laden := changed(f, func(f *api.Frame) { f.Mail = api.Mail{Host: f.From + 1, Text: strings.Repeat("a", 99)} })
		full := changed(f, func(f *api.Frame) { f.Certs = make([]api.Cert, 25) })
		both := changed(laden, func(f *api.Frame) { f.Ack = true })
		for _, g := range []api.Frame{f, answer, laden, full, both} {
			if e := wire.Good(g); e != api.ErrRange {
				t.Errorf("%v: %d", g, e)
			}
		}
	}
}

// P2.2: an answer has nothing, not even what would be good or is out of bounds.
func TestGoodAnswer(t *testing.T) {
	for _, change := range []func(f *api.Frame){
		func(f *api.Frame) { f.Thread = 1 },
		func(f *api.Frame) { f.Thread = lastThread },
		func(f *api.Frame) { f.Mail.Host = 1 },
		func(f *api.Frame) { f.Mail.Host = -1 },
		func(f *api.Frame) { f.Mail.Thread = 1 },
		func(f *api.Frame) { f.Mail.Thread = lastThread + 1 },
		func(f *api.Frame) { f.Mail.Label = api.Label{{C: 0, L: 0}} },
		func(f *api.Frame) { f.Mail.Label = api.Label{{C: -1, L: 9}} },
		func(f *api.Frame) { f.Mail.Grants = []int{0} },
		func(f *api.Frame) { f.Mail.Grants = []int{9, 8} },
		func(f *api.Frame) { f.Mail.Text = "\x00" },
		func(f *api.Frame) { f.Mail.Text = strings.Repeat("a", api.MaxText+1) },
		func(f *api.Frame) { f.Certs = certs(1) },
		func(f *api.Frame) { f.Certs = make([]api.Cert, 1) },
		func(f *api.Frame) { f.Certs = make([]api.Cert, api.MaxCerts+1) },
	} {
		f := changed(api.Frame{From: 1, To: 2, Seq: 5, Ack: true}, change)
		if e := wire.Good(f); e != api.ErrForm {
			t.Errorf("%v: %d", f, e)
		}
	}
}

// P2.2: the errors of mail and certs, by the order in which the chapter names them.
func TestGoodLoad(t *testing.T) {
	long := strings.Repeat("a", api.MaxText+1)
	full := make([]api.Cert, api.MaxCerts+1)
	head := api.Frame{From: 0, To: 1, Seq: 1}
	for _, m := range badMails() {
		f := changed(head, func(f *api.Frame) { f.Mail = m; f.Certs = full })
		if e := wire.Good(f); e != api.ErrRange {
			t.Errorf("%v: %d", f, e)
		}
	}
	for _, c := range []struct {
		mail  api.Mail
		certs []api.Cert
		want  api.Errno
	}{
		{api.Mail{Text: long}, nil, api.ErrLong},
		{api.Mail{Host: 1, Text: long}, full, api.ErrLong},
		{api.Mail{Host: 1}, nil, api.ErrForm},
		{api.Mail{Host: lastHost}, nil, api.ErrForm},
		{api.Mail{Host: 1}, full, api.ErrForm},
		{api.Mail{Host: 1}, make([]api.Cert, 1), api.ErrForm},
		{api.Mail{}, full, api.ErrFull},
		{api.Mail{}, certs(api.MaxCerts + 1), api.ErrFull},
		{api.Mail{}, make([]api.Cert, 1), api.ErrRange},
		{api.Mail{}, make([]api.Cert, api.MaxCerts), api.ErrRange},
		{api.Mail{}, append(certs(5), api.Cert{C: lastCategory + 1, By: 0, Host: 1}), api.ErrRange},
		{api.Mail{}, append([]api.Cert{{C: 1, By: 0, Host: 1, Until: api.MaxTime + 1}}, certs(5)...), api.ErrRange},
	} {
		f := changed(head, func(f *api.Frame) { f.Mail = c.mail; f.Certs = c.certs })
		if e := wire.Good(f); e != c.want {
			t.Errorf("%v: %d, not %d", f, e, c.want)
		}
	}
	elsewhere := api.Frame{From: 3, To: 1, Seq: 1, Mail: api.Mail{Host: 0}}
	if e := wire.Good(elsewhere); e != api.ErrForm {
		t.Errorf("%v: %d", elsewhere, e)
	}
}

// coded is frames and their bytes, written by hand.
func coded() []struct {
	f api.Frame
	s string
} {
	return []struct {
		f api.Frame
		s string
	}{
		{api.Frame{From: 1, To: 3, Seq: 1, Ack: true}, "\x01\x01\x03\x00\x00\x00\x00\x00\x01"},
		{api.Frame{From: 3, To: 0, Seq: 1 << 40, Ack: true}, "\x01\x03\x00\x01\x00\x00\x00\x00\x00"},
		{api.Frame{From: 0, To: 3, Seq: 0x0102030405}, "\x00\x00\x03\x00\x01\x02\x03\x04\x05" + "\x00\x00\x00\x00\x00\x00"},
		{
			letter(),
			"\x00\x02\x03\x00\x02\x03\x04\x05\x06" +
				"\x01\x03" + "\x02\x04\x03\x32\x00" + "\x03\x00\x04\x4f" + "\x04hi\x00\xff" +
				"\x02" + "\x04\x00\x03\x01\x00\x00\x00\x00\x00" + "\x4f\x03\x02\x00\x00\x00\x00\x0a\x0b",
		},
	}
}

// P2.3
func TestEncode(t *testing.T) {
	for _, c := range coded() {
		if s, e := wire.Encode(c.f); s != c.s || e != api.OK {
			t.Errorf("%v: %q, %d, not %q", c.f, s, e, c.s)
		}
	}
	s, e := wire.Encode(fullest())
	if want := 9 + 2 + 1 + 2*api.MaxLevels + 1 + api.MaxOwn + 1 + api.MaxText + 1 + 9*api.MaxCerts; len(s) != want || e != api.OK {
		t.Errorf("%d bytes, %d, not %d", len(s), e, want)
	}
}

// badFrames is frames that are not good, in many ways.
func badFrames() []api.Frame {
	bad := badHeads()
	for _, m := range badMails() {
		bad = append(bad, api.Frame{To: 1, Seq: 1, Mail: m})
	}
	return append(bad,
		api.Frame{To: 1, Seq: 1, Ack: true, Thread: 1},
		api.Frame{To: 1, Seq: 1, Ack: true, Mail: api.Mail{Text: "a"}},
		api.Frame{To: 1, Seq: 1, Ack: true, Certs: certs(1)},
		api.Frame{To: 1, Seq: 1, Mail: api.Mail{Text: strings.Repeat("a", api.MaxText+1)}},
		api.Frame{To: 1, Seq: 1, Mail: api.Mail{Host: 1}},
		api.Frame{To: 1, Seq: 1, Certs: certs(api.MaxCerts + 1)},
		api.Frame{To: 1, Seq: 1, Certs: make([]api.Cert, 1)},
	)
}

// P2.3: Good's error, and no bytes.
func TestEncodeErrors(t *testing.T) {
	for _, f := range badFrames() {
		if s, e := wire.Encode(f); s != "" || e == api.OK || e != wire.Good(f) {
			t.Errorf("%v: %q, %d, not %d", f, s, e, wire.Good(f))
		}
	}
}

// P2.4
func TestDecode(t *testing.T) {
	for _, c := range coded() {
		if f, e := wire.Decode(c.s); !same(f, c.f) || e != api.OK {
			t.Errorf("%q: %v, %d, not %v", c.s, f, e, c.f)
		}
	}
}

// P2.3, P2.4: what Encode answers is read by Decode as the frame that it was.
func TestThereAndBack(t *testing.T) {
	frames := []api.Frame{letter(), fullest()}
	for _, seq := range []int{1, 255, 256, 1<<32 - 1, 1 << 32, api.MaxTime - 1, api.MaxTime} {
		frames = append(frames, api.Frame{From: 2, To: 1, Seq: seq, Ack: true},
			changed(letter(), func(f *api.Frame) { f.Seq = seq; f.Certs = []api.Cert{{C: 1, By: 2, Host: 1, Until: seq}} }))
	}
	for n := range api.MaxText + 1 {
		frames = append(frames, changed(letter(), func(f *api.Frame) {
			f.Mail.Text = strings.Repeat("\x01", n)
			f.Mail.Grants = rising(n % (api.MaxOwn + 1))
			f.Mail.Label = levels(n % (api.MaxLevels + 1))
			f.Certs = certs(n % (api.MaxCerts + 1))
			f.Thread = n % api.Threads
			f.Mail.Thread = n / 2 % api.Threads
		}))
	}
	for _, f := range frames {
		s, e := wire.Encode(f)
		if e != api.OK {
			t.Errorf("%v: %d", f, e)
		}
		if g, e := wire.Decode(s); !same(f, g) || e != api.OK {
			t.Errorf("%q: %v, %d, not %v", s, g, e, f)
		}
	}
}

// refused checks that bytes have no frame, but an error.
func refused(t *testing.T, s string, want api.Errno) {
	t.Helper()
	if f, e := wire.Decode(s); !same(f, api.Frame{}) || e != want {
		t.Errorf("%q: %v, %d, not %d", s, f, e, want)
	}
}

// P2.4: bytes that end too early, that have something behind, or whose first byte is none.
func TestDecodeForm(t *testing.T) {
	for _, f := range []api.Frame{{From: 1, To: 3, Seq: 9, Ack: true}, {From: 0, To: 3, Seq: 9, Ack: true}, {From: 0, To: 3, Seq: 9}, letter(), fullest()} {
		s, _ := wire.Encode(f)
		for n := range len(s) {
			refused(t, s[:n], api.ErrForm)
		}
		for _, behind := range []string{"\x00", "\x01", "x", s} {
			refused(t, s+behind, api.ErrForm)
		}
		for n := 2; n < 256; n++ {
			refused(t, string([]byte{byte(n)})+s[1:], api.ErrForm)
		}
	}
	mail, _ := wire.Encode(letter())
	refused(t, "\x01"+mail[1:], api.ErrForm)
	answer, _ := wire.Encode(api.Frame{From: 1, To: 3, Seq: 9, Ack: true})
	refused(t, "\x00"+answer[1:], api.ErrForm)
	for n := range 256 {
		refused(t, string([]byte{byte(n)}), api.ErrForm)
	}
	for _, count := range []string{"\xff", "\x40", "\x01"} {
		head := "\x00\x00\x01\x00\x00\x00\x00\x00\x01\x00\x00"
		refused(t, head+count, api.ErrForm)
		refused(t, head+"\x00"+count, api.ErrForm)
		refused(t, head+"\x00\x00"+count, api.ErrForm)
		refused(t, head+"\x00\x00\x00"+count, api.ErrForm)
	}
}

// P2.4: bytes of a frame that is not good have Good's error; but what is wrong with their form comes first.
func TestDecodeNotGood(t *testing.T) {
	const head = "\x00\x00\x01\x00\x00\x00\x00\x00\x01"
	const empty = "\x00\x00\x00\x00\x00\x00"
	cert := "\x00\x00\x01\x00\x00\x00\x00\x00\x00"
	for _, c := range []struct {
		s    string
		want api.Errno
	}{
		{"\x01\x00\x00\x00\x00\x00\x00\x00\x01", api.ErrRange},
		{"\x01\x04\x00\x00\x00\x00\x00\x00\x01", api.ErrRange},
		{"\x01\x00\x04\x00\x00\x00\x00\x00\x01", api.ErrRange},
		{"\x01\x00\x01\x00\x00\x00\x00\x00\x00", api.ErrRange},
		{"\x01\x00\x01\x01\x00\x00\x00\x00\x01", api.ErrRange},
		{"\x01\x00\x01\xff\xff\xff\xff\xff\xff", api.ErrRange},
		{"\x00\xff\x01\x00\x00\x00\x00\x00\x01" + empty, api.ErrRange},
		{"\x00\x01\x01\x00\x00\x00\x00\x00\x01" + empty, api.ErrRange},
		{head + "\x04\x00\x00\x00\x00\x00", api.ErrRange},
		{head + "\x00\x04\x00\x00\x00\x00", api.ErrRange},
		{head + "\x00\x00\x01\x05\x01\x00\x00\x00", api.ErrRange},
		{head + "\x00\x00\x01\x05\x04\x00\x00\x00", api.ErrRange},
		{head + "\x00\x00\x01\x50\x03\x00\x00\x00", api.ErrRange},
		{head + "\x00\x00\x02\x05\x03\x05\x02\x00\x00\x00", api.ErrRange},
		{head + "\x00\x00\x00\x01\x50\x00\x00", api.ErrRange},
		{head + "\x00\x00\x00\x02\x05\x05\x00\x00", api.ErrRange},
		{head + "\x00\x00\x00\x09\x00\x01\x02\x03\x04\x05\x06\x07\x08\x00\x00", api.ErrRange},
		{head + "\x00\x00\x00\x00\x41" + strings.Repeat("a", 65) + "\x00", api.ErrLong},
		{head + "\x00\x00\x00\x00\xff" + strings.Repeat("a", 255) + "\xff" + strings.Repeat(cert, 255), api.ErrLong},
		{head + "\x00\x00\x00\x00\x00\x19" + strings.Repeat(cert, 25), api.ErrFull},
		{head + "\x00\x00\x00\x00\x00\xff" + strings.Repeat("\xff", 255*9), api.ErrFull},
		{head + "\x00\x00\x00\x00\x00\x01" + "\x50\x00\x01\x00\x00\x00\x00\x00\x00", api.ErrRange},
		{head + "\x00\x00\x00\x00\x00\x01" + "\x00\x01\x01\x00\x00\x00\x00\x00\x00", api.ErrRange},
		{head + "\x00\x00\x00\x00\x00\x01" + "\x00\x04\x01\x00\x00\x00\x00\x00\x00", api.ErrRange},
		{head + "\x00\x00\x00\x00\x00\x01" + "\x00\x00\x04\x00\x00\x00\x00\x00\x00", api.ErrRange},
		{head + "\x00\x00\x00\x00\x00\x01" + "\x00\x00\x01\x01\x00\x00\x00\x00\x01", api.ErrRange},
	} {
		refused(t, c.s, c.want)
		refused(t, c.s+"\x00", api.ErrForm)
		refused(t, c.s[:len(c.s)-1], api.ErrForm)
	}
}

// P2.3, P2.4: whatever is changed in bytes, they are either refused or the bytes of what they are read as.
func TestDecodeChangedBytes(t *testing.T) {
	for _, f := range []api.Frame{{From: 1, To: 3, Seq: 9, Ack: true}, {From: 0, To: 3, Seq: 9, Ack: true}, {From: 0, To: 3, Seq: 9}, letter(), fullest()} {
		s, _ := wire.Encode(f)
		for i := range len(s) {
			for n := range 256 {
				other := s[:i] + string([]byte{byte(n)}) + s[i+1:]
				g, e := wire.Decode(other)
				back, again := wire.Encode(g)
				if e == api.OK && (back != other || again != api.OK) {
					t.Fatalf("%q: %v, whose bytes are %q, %d", other, g, back, again)
				}
				if e != api.OK && !same(g, api.Frame{}) {
					t.Fatalf("%q: %d, %v", other, e, g)
				}
			}
		}
	}
}

// spared is a list with room behind it that holds marks.
func spared[E any](list []E, mark E) []E {
	room := append(slices.Clone(list), mark, mark, mark)
	return room[:len(list)]
}

// Lists that are handed in are not changed, their spare room neither.
func TestHandedInStays(t *testing.T) {
	whole := func(f api.Frame) []any {
		return []any{f.Mail.Label[:cap(f.Mail.Label)], f.Mail.Grants[:cap(f.Mail.Grants)], f.Certs[:cap(f.Certs)]}
	}
	bad := changed(letter(), func(f *api.Frame) { f.Mail.Grants = []int{6, 5}; f.Mail.Label = levels(9) })
	for _, f := range []api.Frame{letter(), fullest(), bad} {
		f.Mail.Label = spared(f.Mail.Label, api.Level{C: -7, L: -7})
		f.Mail.Grants = spared(f.Mail.Grants, -7)
		f.Certs = spared(f.Certs, api.Cert{C: -7, By: -7, Host: -7, Until: -7})
		var before []any
		for _, list := range whole(f) {
			before = append(before, cloned(list))
		}
		wire.GoodMail(f.Mail)
		wire.Good(f)
		wire.Encode(f)
		if after := whole(f); !reflect.DeepEqual(before, after) {
			t.Errorf("%v became %v", before, after)
		}
	}
}

// cloned is a list of one of the three kinds that a frame has, in memory of its own.
func cloned(list any) any {
	switch l := list.(type) {
	case api.Label:
		return slices.Clone(l)
	case []int:
		return slices.Clone(l)
	case []api.Cert:
		return slices.Clone(l)
	}
	return nil
}

// What Decode answers is new each time: who changes it changes nothing else.
func TestAnswersAreNew(t *testing.T) {
	s, _ := wire.Encode(letter())
	first, _ := wire.Decode(s)
	second, _ := wire.Decode(s)
	first.Mail.Label[0].C = -1
	first.Mail.Grants[0] = -1
	first.Certs[0].C = -1
	_ = append(first.Mail.Label, api.Level{C: -1})
	_ = append(first.Mail.Grants, -1)
	if !same(second, letter()) {
		t.Errorf("%v", second)
	}
}
