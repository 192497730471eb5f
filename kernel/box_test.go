package kernel

import (
	"reflect"
	"testing"
	"unsafe"

	"parclose/api"
)

// secretAt is mail of a category that no thread here stands high in.
func secretAt(c int, text string) api.Mail {
	return api.Mail{Host: 3, Thread: 3, Label: api.Label{{C: c, L: 3}}, Grants: []int{c}, Text: text}
}

// P3.7: by calls alone no label goes so low that mail of the box may not flow any more, so the box is filled by hand here.
func TestTakeWhatMayNotFlowAnyMore(t *testing.T) {
	open := api.Mail{Host: 2, Thread: 1, Grants: []int{50}, Text: "open"}
	opened := api.Thread{Own: []int{50}, Text: "k:open"}
	nothing := api.Reply{Code: api.ErrNone}
	taken := api.Reply{N: 2*api.Threads + 1}
	for _, v := range []struct {
		box  []api.Mail
		want api.Reply
		left api.Thread
	}{
		{[]api.Mail{secretAt(40, "a")}, nothing, api.Thread{Text: "k:"}},
		{[]api.Mail{secretAt(40, "a"), secretAt(50, "b"), secretAt(40, "c")}, nothing, api.Thread{Text: "k:"}},
		{[]api.Mail{secretAt(40, "a"), open}, taken, opened},
		{[]api.Mail{secretAt(40, "a"), secretAt(41, "b"), open}, taken, opened},
	} {
		k := &Kernel{}
		k.threads[1] = api.Thread{Text: "k:", Mails: v.box}
		if got := k.Call(1, api.Call{Kind: api.CallTake}); got != v.want {
			t.Errorf("%+v; wanted %+v", got, v.want)
		}
		got := k.Thread(1)
		if len(got.Mails) != 0 {
			t.Errorf("in the box yet: %+v", got.Mails)
		}
		got.Mails = nil
		if !reflect.DeepEqual(got, v.left) {
			t.Errorf("%+v; wanted %+v", got, v.left)
		}
	}
}

// P3.7: what stands behind mail that is taken is not asked yet, and may flow once its category is owned.
func TestTakeLeavesTheRest(t *testing.T) {
	k := &Kernel{}
	k.threads[0].Mails = []api.Mail{secretAt(40, "gone"), {Grants: []int{41}, Text: "a"}, secretAt(41, "b"), secretAt(42, "gone, too")}
	for _, want := range []api.Reply{{}, {N: 3*api.Threads + 3}, {Code: api.ErrNone}} {
		if got := k.Call(0, api.Call{Kind: api.CallTake}); got != want {
			t.Errorf("%+v; wanted %+v", got, want)
		}
	}
	if th := k.Thread(0); th.Text != "ab" || !reflect.DeepEqual(th.Own, []int{41}) || len(th.Mails) != 0 {
		t.Errorf("%+v", th)
	}
}

// Of a text that is handed in the bytes are known, not its memory, which may be a piece of something long.
func TestTextsAreNotKept(t *testing.T) {
	k := &Kernel{}
	text := string([]byte("a text"))
	k.Call(0, api.Call{Kind: api.CallForget, Text: text})
	k.Deliver(0, api.Mail{Text: text})
	m, e := k.Letter(1, api.Call{Text: text})
	if e != api.OK {
		t.Fatal(e)
	}
	for _, kept := range []string{k.threads[0].Text, k.threads[0].Mails[0].Text, m.Text} {
		if kept != text || unsafe.StringData(kept) == unsafe.StringData(text) {
			t.Errorf("%q is kept", kept)
		}
	}
}
