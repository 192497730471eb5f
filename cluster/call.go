package cluster

import (
	"slices"

	"parclose/api"
	"parclose/line"
	"parclose/trust"
)

// call is what a thread's call does: a kernel knows no other host, so that what concerns one is done here.
func (c *Cluster) call(h, t int, x api.Call) api.Reply {
	if !isHost(h) || !isThread(t) {
		return answer(api.ErrNone)
	}
	switch x.Kind {
	case api.CallSend:
		return answer(c.send(h, t, x))
	case api.CallCertify:
		return answer(c.certify(h, t, x))
	}
	return c.kernels[h].Call(t, x)
}

func (c *Cluster) send(h, t int, x api.Call) api.Errno {
	if len(x.Text) > api.MaxText {
		return api.ErrLong
	}
	if !isHost(x.H) || !isThread(x.T) {
		return api.ErrNone
	}
	m, e := c.kernels[h].Letter(t, x)
	if e != api.OK {
		return e
	}
	if x.H == h {
		c.kernels[h].Deliver(x.T, m)
		return api.OK
	}
	return c.sendAway(h, x.H, x.T, m)
}

// sendAway shows with the mail why its host may be trusted, which the other host may not know yet.
func (c *Cluster) sendAway(from, to, t int, m api.Mail) api.Errno {
	certs := c.certs[from]
	if !trust.May(certs, to, m, c.now) {
		return api.ErrTrust
	}
	f := api.Frame{From: from, To: to, Thread: t, Mail: m, Certs: trust.Show(certs, m)}
	l, f, e := line.Send(c.lines[from][to], f, c.now)
	if e != api.OK {
		return e
	}
	c.lines[from][to] = l
	c.put(f)
	return api.OK
}

func (c *Cluster) certify(h, t int, x api.Call) api.Errno {
	if !isHost(x.H) || x.H == h || !isTime(x.N) {
		return api.ErrRange
	}
	if !slices.Contains(c.kernels[h].Thread(t).Own, x.C) {
		return api.ErrOwn
	}
	return c.add(h, api.Cert{C: x.C, By: h, Host: x.H, Until: x.N})
}

// add leaves a host's certs as they are where there is an error.
func (c *Cluster) add(h int, cert api.Cert) api.Errno {
	l, e := trust.Add(c.certs[h], cert)
	if e == api.OK {
		c.certs[h] = l
	}
	return e
}
