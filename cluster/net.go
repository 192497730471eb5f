package cluster

import (
	"slices"

	"parclose/api"
	"parclose/line"
	"parclose/trust"
	"parclose/wire"
)

// put puts a frame under way; nobody is told whether the net loses it.
func (c *Cluster) put(f api.Frame) {
	s, e := wire.Encode(f)
	if e == api.OK && len(c.net) < api.MaxNet {
		c.net = append(c.net, s)
	}
}

// move lets the net do something to a frame under way.
func (c *Cluster) move(kind, n int) api.Reply {
	if n < 0 || n >= len(c.net) {
		return answer(api.ErrNone)
	}
	s := c.net[n]
	// It is gone ahead of its coming, so that there is room for the answer to it.
	if kind != api.ActCopy {
		c.net = slices.Delete(c.net, n, n+1)
	}
	if kind != api.ActDrop {
		c.come(s)
	}
	return api.Reply{N: len(s)}
}

// come is the coming of a frame; nobody is told what becomes of it.
func (c *Cluster) come(s string) {
	f, e := wire.Decode(s)
	if e != api.OK {
		return
	}
	if f.Ack {
		// It answers what went the other way. A line that nothing waits on any more stays as it was.
		l := &c.lines[f.To][f.From]
		*l, _ = line.Answered(*l, f.Seq)
		return
	}
	l := &c.lines[f.From][f.To]
	*l, e = line.Take(*l, f.Seq)
	// What came twice is answered once more: the first answer may be lost.
	if e == api.OK || e == api.ErrTwice {
		c.put(api.Frame{From: f.To, To: f.From, Seq: f.Seq, Ack: true})
	}
	if e == api.OK {
		c.accept(f)
	}
}

// accept takes a frame's certs ahead of its mail: they may be what its host is trusted by.
func (c *Cluster) accept(f api.Frame) {
	for _, cert := range f.Certs {
		c.add(f.To, cert)
	}
	if trust.May(c.certs[f.To], f.From, f.Mail, c.now) {
		c.kernels[f.To].Deliver(f.Thread, f.Mail)
	}
}

func (c *Cluster) tick(n int) api.Reply {
	// Said so that no sum overflows.
	if n < 1 || n > api.MaxTime-c.now {
		return answer(api.ErrRange)
	}
	c.now += n
	count := 0
	for from := range c.lines {
		for to := range c.lines[from] {
			count += c.again(&c.lines[from][to])
		}
	}
	return api.Reply{N: count}
}

// again is how many frames of a line are sent again, those that the net loses, too.
func (c *Cluster) again(l *api.Line) int {
	var frames []api.Frame
	*l, frames, _ = line.Again(*l, c.now)
	for _, f := range frames {
		c.put(f)
	}
	return len(frames)
}
