package world

import (
	"slices"
	"strings"
	"testing"

	"manyhands/api"
	"manyhands/op"
	"manyhands/server"
)

// wantLawful holds w, which came from New, to what holds at each moment: the server has what the log makes, each client what the log up to its Rev makes, and its own operations on it.
func wantLawful(t *testing.T, w api.World) {
	t.Helper()
	wantCheck(t, w, api.OK)
	d := w.S.First
	revisions := []api.Doc{d}
	for _, x := range w.S.Log {
		d, _ = op.Apply(d, x.O)
		revisions = append(revisions, d)
	}
	if !slices.Equal(w.S.Now, d) {
		t.Fatalf("the server has %v, the log makes %v", w.S.Now, d)
	}
	for who, c := range w.Clients {
		if c.Rev > len(w.S.Log) || !slices.Equal(c.Base, revisions[c.Rev]) {
			t.Fatalf("client %d has %v at revision %d, the log makes %v", who, c.Base, c.Rev, revisions)
		}
		now := c.Base
		for _, o := range []api.Op{c.Sent, c.Held} {
			if len(o) > 0 {
				now, _ = op.Apply(now, o)
			}
		}
		if !slices.Equal(c.Now, now) {
			t.Fatalf("client %d shows %v, its operations make %v", who, c.Now, now)
		}
		if !c.Joined && len(w.Up[who])+len(w.Down[who]) > 0 {
			t.Fatalf("client %d isn't connected, and something is on its way", who)
		}
		if len(w.Up[who]) > api.MaxQueue {
			t.Fatalf("%d are on their way from client %d", len(w.Up[who]), who)
		}
	}
}

// settled answers w once all are Joined, and all is served and heard: all have the same then, and nobody anything of their own.
func settled(t *testing.T, w api.World) api.World {
	t.Helper()
	for isMoving := true; isMoving; {
		isMoving = false
		for who := range w.Clients {
			for _, kind := range []int{api.Join, api.Serve, api.Hear} {
				if next, e := Do(w, api.Happening{Kind: kind, Client: who}); e == api.OK {
					w, isMoving = next, true
				} else if e != api.ErrLate {
					t.Fatalf("of kind %d client %d is told %d", kind, who, e)
				}
			}
		}
	}
	wantSettled(t, w)
	return w
}

func wantSettled(t *testing.T, w api.World) {
	t.Helper()
	wantLawful(t, w)
	for who, c := range w.Clients {
		if c.Rev != len(w.S.Log) || len(c.Sent)+len(c.Held) > 0 || !slices.Equal(c.Now, w.S.Now) {
			t.Fatalf("client %d has %v, the server %v", who, c, w.S.Now)
		}
	}
}

// isSettled answers whether the premise holds: nothing is on its way, and all are Joined.
func isSettled(w api.World) bool {
	for who, c := range w.Clients {
		if !c.Joined || len(w.Up[who])+len(w.Down[who]) > 0 {
			return false
		}
	}
	return true
}

// choices answers what may happen next to two clients: the one puts something ahead of all or bold, the other one something behind the first item, or cuts it, and all else that there is.
func choices(w api.World) []api.Happening {
	one, two := len(w.Clients[0].Now), len(w.Clients[1].Now)
	l := []api.Happening{
		doing(0, puts("x"), api.Part{Kind: api.Keep, N: one, Set: api.Bold}),
		doing(1, keeps(1), puts("y"), keeps(two-1)),
		doing(1, cuts(1), keeps(two-1)),
		pasting(0, one-1, "<li>"),
	}
	for who := range 2 {
		l = append(l, serving(who), hearing(who), dropping(who), joining(who))
	}
	return l
}

// All scripts of so many happenings, each of which changes something.
func TestEveryShortScript(t *testing.T) {
	count := 0
	var walk func(w api.World, n int)
	walk = func(w api.World, n int) {
		wantLawful(t, w)
		if isSettled(w) {
			wantSettled(t, w)
		}
		if n == 0 {
			count++
			settled(t, w)
			return
		}
		for _, x := range choices(w) {
			if next, e := Do(w, x); e == api.OK && !alike(next, w) {
				walk(next, n-1)
			}
		}
	}
	w := begun(t, "ab\n", 2)
	walk(w, 5)
	// From there on, too, where both have something on its way, and waiting.
	walk(after(t, w, doing(0, puts("p"), keeps(3)), doing(0, puts("q"), keeps(4)), doing(1, keeps(2), puts("r"), keeps(1)), doing(1, keeps(2), puts("s"), keeps(2)), serving(1)), 4)
	if count < 10000 {
		t.Fatalf("there were only %d scripts", count)
	}
}

// seeded hands on numbers below n, one after the other, always the same ones.
func seeded(seed uint32) func(n int) int {
	return func(n int) int {
		seed = seed*1664525 + 1013904223
		return int(seed>>16) % n
	}
}

// someOp answers an operation for n items.
func someOp(below func(n int) int, n int) api.Op {
	var o api.Op
	long := 1 + below(20)
	for n > 1 && len(o) < api.MaxParts-1 {
		p := somePart(below, min(n-1, 1+below(long)))
		o = append(o, p)
		n -= p.N
	}
	return append(o, keeps(n))
}

// somePart answers a Keep or a Cut of n items, or a Put of some.
func somePart(below func(n int) int, n int) api.Part {
	switch below(6) {
	case 0:
		return api.Part{Kind: api.Put, Items: text(1 + below(4))}
	case 1:
		return cuts(min(n, 1+below(4)))
	case 2:
		return keeps(n)
	}
	set := below(4)
	p := api.Part{Kind: api.Keep, N: n, Set: set, Clear: below(4) &^ set}
	if below(2) == 0 {
		p.To, p.Link = true, [3]string{"", "http:x", "http:y"}[below(3)]
	}
	return p
}

// some answers what may happen next in w; one of ten times nobody asked for it, and it is wrong, or of nobody.
func some(below func(n int) int, w api.World) api.Happening {
	who := below(len(w.Clients))
	now := len(w.Clients[who].Now)
	switch below(10) {
	case 0, 1:
		return api.Happening{Kind: api.Edit, Client: who, O: someOp(below, now)}
	case 2:
		return pasting(who, below(now), [4]string{"<b>k", "<script>no</script>", "<ul><li>a<li><a href=http:x>b", "</p>x<p>y"}[below(4)])
	case 3, 4:
		return serving(who)
	case 5, 6, 7:
		return hearing(who)
	case 8:
		return api.Happening{Kind: api.Drop + below(2), Client: who}
	}
	return api.Happening{Kind: below(9) - 1, Client: who + below(2), N: below(9) - 4, O: someOp(below, max(1, now-1+below(3)))}
}

// counts is how often something came to pass.
type counts struct{ taken, again, refused, turned, gaveUp, rejoined int }

func (n *counts) add(w, next api.World, x api.Happening) {
	c, is := w.Clients[x.Client], next.Clients[x.Client]
	switch {
	case x.Kind == api.Serve && len(next.S.Log) > len(w.S.Log):
		n.taken++
	case x.Kind == api.Serve && server.Has(w.S, x.Client, w.Up[x.Client][0].E.Seq):
		n.again++
	case x.Kind == api.Serve:
		n.refused++
	case x.Kind == api.Join:
		n.rejoined++
	case x.Kind != api.Hear || len(c.Sent) == 0:
		return
	case len(is.Sent) > 0 && is.Seq == c.Seq:
		n.turned++
	case !slices.Equal(is.Now, c.Now):
		n.gaveUp++
	}
}

// Whoever did what, and heard what when, or was cut: where all is served and heard, all have the same.
func TestManyHands(t *testing.T) {
	below := seeded(11)
	var n counts
	for range 40 {
		w, _ := New(text(1+below(api.MaxItems)), 1+below(api.MaxClients))
		first := w
		var script []api.Happening
		var said []api.Errno
		for range api.MaxScript {
			x := some(below, w)
			next, e := Do(w, x)
			script, said = append(script, x), append(said, e)
			if e != api.OK {
				if !isNothing(next) {
					t.Fatalf("Do(%v, %v) = %v, %d", w, x, next, e)
				}
				continue
			}
			wantLawful(t, next)
			if isSettled(next) {
				wantSettled(t, next)
			}
			n.add(w, next, x)
			w = next
		}
		wantRun(t, first, script, w, said)
		settled(t, w)
	}
	if n.taken < 300 || n.again < 20 || n.refused < 20 || n.turned < 100 || n.gaveUp < 20 || n.rejoined < 100 {
		t.Fatalf("there was too little of something: %+v", n)
	}
}

// From New on, too, as many may be on their way as may be: who gives up what is still on its way may do the next one.
func TestAQueueThatIsFull(t *testing.T) {
	w := begun(t, "\n", 2)
	fill := func() api.Happening {
		n := len(w.Clients[0].Now)
		return doing(0, puts(strings.Repeat("a", api.MaxItems-n)), keeps(n))
	}
	for i := range api.MaxQueue {
		w = after(t, w, fill())
		if len(w.Up[0]) != i+1 || !w.Clients[0].Joined {
			t.Fatalf("%d are on their way from %v, want %d", len(w.Up[0]), w.Clients[0], i+1)
		}
		// There is no room for all of it behind what the other one did.
		w = after(t, w, doing(1, puts("b"), keeps(i+1)), serving(1), hearing(1), hearing(0))
		if len(w.Clients[0].Sent) > 0 {
			t.Fatalf("it doesn't give up: %v", w.Clients[0])
		}
		wantLawful(t, w)
	}
	full := w
	w = after(t, w, fill())
	if w.Clients[0].Joined || len(w.Up[0])+len(w.Down[0]) > 0 || len(w.Clients[0].Now) != api.MaxItems {
		t.Fatalf("it isn't cut: %v, %v", w.Clients[0], w.Up[0])
	}
	settled(t, w)
	settled(t, full)
	// Where one is served there is room again.
	w = after(t, full, serving(0))
	w = after(t, w, fill())
	if !w.Clients[0].Joined || len(w.Up[0]) != api.MaxQueue {
		t.Fatalf("it is cut: %v", w.Clients[0])
	}
	settled(t, w)
}

// Where the log is full, what was done behind it is given up.
func TestALogThatIsFull(t *testing.T) {
	w := begun(t, "\n", 3)
	for range 2 * api.MaxLog {
		for who, c := range w.Clients {
			w = after(t, w, doing(who, api.Part{Kind: api.Keep, N: len(c.Now), Set: 1 + who}))
			if len(w.Up[who]) > 0 {
				w = after(t, w, serving(who))
			}
			if len(w.Down[who]) > 0 {
				w = after(t, w, hearing(who))
			}
			wantLawful(t, w)
		}
	}
	if len(w.S.Log) != api.MaxLog {
		t.Fatalf("the log has %d", len(w.S.Log))
	}
	settled(t, w)
}
