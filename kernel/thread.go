package kernel

import (
	"slices"

	"parclose/api"
	"parclose/label"
	"parclose/wire"
)

// mayMail is what forbids a thread to send mail.
func mayMail(th *api.Thread, m api.Mail) api.Errno {
	if e := wire.GoodMail(m); e != api.OK {
		return e
	}
	for _, c := range m.Grants {
		if !slices.Contains(th.Own, c) {
			return api.ErrOwn
		}
	}
	if !label.Flows(th.Label, m.Label, th.Own) {
		return api.ErrFlow
	}
	return api.OK
}

// own lets a thread own a category more; one that it owns already takes no room.
func own(th *api.Thread, c int) api.Errno {
	i, found := slices.BinarySearch(th.Own, c)
	if found {
		return api.OK
	}
	if len(th.Own) >= api.MaxOwn {
		return api.ErrFull
	}
	th.Own = slices.Insert(th.Own, i, c)
	return api.OK
}

func learn(th *api.Thread, text string) { th.Text = last(th.Text + text) }

func makeObject(th *api.Thread, l api.Label) api.Reply {
	if !label.Good(l) {
		return answer(api.ErrRange)
	}
	if !label.Flows(th.Label, l, th.Own) {
		return answer(api.ErrFlow)
	}
	n := len(th.Objects)
	if n >= api.MaxObjects {
		return answer(api.ErrFull)
	}
	th.Objects = append(th.Objects, api.Object{Label: slices.Clone(l)})
	return api.Reply{N: n}
}

func setLevel(th *api.Thread, c, level int) api.Errno {
	l, e := label.Set(th.Label, c, level)
	if e != api.OK {
		return e
	}
	if !label.Flows(th.Label, l, th.Own) {
		return api.ErrFlow
	}
	th.Label = l
	return api.OK
}

// takeMail asks anew whether mail may flow to the thread: its label may have changed since the mail came.
func takeMail(th *api.Thread) api.Reply {
	for len(th.Mails) > 0 {
		m := th.Mails[0]
		th.Mails = slices.Delete(th.Mails, 0, 1)
		if label.Flows(m.Label, th.Label, th.Own) {
			readMail(th, m)
			return api.Reply{N: m.Host*api.Threads + m.Thread}
		}
	}
	return answer(api.ErrNone)
}

func readMail(th *api.Thread, m api.Mail) {
	learn(th, m.Text)
	for _, c := range m.Grants {
		if own(th, c) != api.OK {
			return
		}
	}
}

// last is the last of a text, in memory of its own, so that nothing that is handed in is kept.
func last(text string) string {
	b := []byte(text)
	return string(b[max(0, len(b)-api.MaxText):])
}

func copyMail(m api.Mail) api.Mail {
	m.Label = slices.Clone(m.Label)
	m.Grants = slices.Clone(m.Grants)
	m.Text = last(m.Text)
	return m
}

func copyThread(th api.Thread) api.Thread {
	th.Label = slices.Clone(th.Label)
	th.Own = slices.Clone(th.Own)
	th.Objects = slices.Clone(th.Objects)
	for i := range th.Objects {
		o := &th.Objects[i]
		o.Label = slices.Clone(o.Label)
	}
	th.Mails = slices.Clone(th.Mails)
	for i, m := range th.Mails {
		th.Mails[i] = copyMail(m)
	}
	return th
}
