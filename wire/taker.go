package wire

import "parclose/api"

// taker takes what stands in front of some bytes.
// Behind their end it gives nothing and zeros, and remembers that it did, so that whoever takes need ask only once, when all is taken.
type taker struct {
	rest   string
	failed bool
}

// done is whether there were just as many bytes as were taken, of the form that was wanted.
func (t *taker) done() bool { return !t.failed && t.rest == "" }

func (t *taker) fail() { t.rest, t.failed = "", true }

func (t *taker) text(n int) string {
	if n > len(t.rest) {
		t.fail()
		return ""
	}
	front := t.rest[:n]
	t.rest = t.rest[n:]
	return front
}

// number is the number that some bytes say, the highest first.
func (t *taker) number(size int) int {
	n := 0
	for _, b := range []byte(t.text(size)) {
		n = n<<8 | int(b)
	}
	return n
}

func takeFrame(t *taker) api.Frame {
	kind := t.number(1)
	f := api.Frame{From: t.number(1), To: t.number(1), Seq: t.number(timeBytes)}
	switch kind {
	case kindAnswer:
		f.Ack = true
	case kindMail:
		f.Thread = t.number(1)
		f.Mail = takeMail(t, f.From)
		f.Certs = takeCerts(t)
	default:
		t.fail()
	}
	return f
}

func takeMail(t *taker, from int) api.Mail {
	m := api.Mail{Host: from, Thread: t.number(1)}
	for range t.number(1) {
		m.Label = append(m.Label, api.Level{C: t.number(1), L: t.number(1)})
	}
	for range t.number(1) {
		m.Grants = append(m.Grants, t.number(1))
	}
	m.Text = t.text(t.number(1))
	return m
}

func takeCerts(t *taker) []api.Cert {
	var certs []api.Cert
	for range t.number(1) {
		certs = append(certs, api.Cert{C: t.number(1), By: t.number(1), Host: t.number(1), Until: t.number(timeBytes)})
	}
	return certs
}
