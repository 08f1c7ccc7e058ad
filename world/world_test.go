package world

import (
	"math"
	"slices"
	"strings"
	"testing"

	"manyhands/api"
	"manyhands/client"
	"manyhands/op"
)

func keeps(n int) api.Part { return api.Part{Kind: api.Keep, N: n} }

func cuts(n int) api.Part { return api.Part{Kind: api.Cut, N: n} }

func puts(s string) api.Part { return api.Part{Kind: api.Put, Items: items(s)} }

// items answers those of s, without marks and links.
func items(s string) []api.Item {
	var l []api.Item
	for i := 0; i < len(s); i++ {
		l = append(l, api.Item{C: s[i]})
	}
	return l
}

// text answers a document of n items with all marks, links and ends of blocks in it.
func text(n int) api.Doc {
	l := []api.Item{{C: 'a', Marks: 1}, {C: 'b', Link: "http:&"}, {C: '\n', Marks: 3}, {C: 'c', Marks: 2, Link: "http:x"}, {C: '\n'}}
	var d api.Doc
	for i := range n - 1 {
		d = append(d, l[i%len(l)])
	}
	return append(d, api.Item{C: '\n', Marks: 2})
}

// message answers what tells of operation seq of the client, and of revision rev.
func message(rev, client, seq int, parts ...api.Part) api.Message {
	return api.Message{Rev: rev, E: api.Entry{Client: client, Seq: seq, O: parts}}
}

// several answers n messages that aren't alike.
func several(n int) []api.Message {
	var l []api.Message
	for i := range n {
		l = append(l, message(1000+i, i, 2000+i))
	}
	return l
}

func doing(who int, parts ...api.Part) api.Happening {
	return api.Happening{Kind: api.Edit, Client: who, O: parts}
}

func pasting(who, n int, page string) api.Happening {
	return api.Happening{Kind: api.Paste, Client: who, N: n, B: []byte(page)}
}

func serving(who int) api.Happening { return api.Happening{Kind: api.Serve, Client: who} }

func hearing(who int) api.Happening { return api.Happening{Kind: api.Hear, Client: who} }

func dropping(who int) api.Happening { return api.Happening{Kind: api.Drop, Client: who} }

func joining(who int) api.Happening { return api.Happening{Kind: api.Join, Client: who} }

// begun answers a world of so many clients that have what s says.
func begun(t *testing.T, s string, clients int) api.World {
	t.Helper()
	w, e := New(items(s), clients)
	if e != api.OK {
		t.Fatalf("New(%q, %d) tells %d", s, clients, e)
	}
	return w
}

// after answers w once all of l happened, none of which may have an error.
func after(t *testing.T, w api.World, l ...api.Happening) api.World {
	t.Helper()
	for _, x := range l {
		next, e := Do(w, x)
		if e != api.OK {
			t.Fatalf("Do(%v, %v) tells %d", w, x, e)
		}
		w = next
	}
	return w
}

// with answers w with what change makes of it; w stays as it is.
func with(w api.World, change func(w *api.World)) api.World {
	w = copyOf(w)
	change(&w)
	return w
}

// logged answers a world of two clients who have the document "ab" at revision 0, while the log has n entries of client 1, which keep all.
func logged(t *testing.T, n int) api.World {
	t.Helper()
	return with(begun(t, "ab\n", 2), func(w *api.World) {
		for i := range n {
			w.S.Log = append(w.S.Log, api.Entry{Client: 1, Seq: 1 + i, O: api.Op{keeps(3)}})
		}
	})
}

// alikeOps holds operations against each other without the program's Same.
func alikeOps(a, b api.Op) bool {
	return slices.EqualFunc(a, b, func(p, q api.Part) bool {
		return p.Kind == q.Kind && p.N == q.N && p.Set == q.Set && p.Clear == q.Clear && p.To == q.To && p.Link == q.Link && slices.Equal(p.Items, q.Items)
	})
}

func alikeEntries(a, b api.Entry) bool {
	return a.Client == b.Client && a.Seq == b.Seq && alikeOps(a.O, b.O)
}

func alikeClients(a, b api.Client) bool {
	return a.Rev == b.Rev && a.Seq == b.Seq && a.Joined == b.Joined && slices.Equal(a.Base, b.Base) && slices.Equal(a.Now, b.Now) && alikeOps(a.Sent, b.Sent) && alikeOps(a.Held, b.Held)
}

func alikeQueues(a, b []api.Message) bool {
	return slices.EqualFunc(a, b, func(m, n api.Message) bool { return m.Rev == n.Rev && alikeEntries(m.E, n.E) })
}

// alike holds worlds against each other without the program's Same.
func alike(a, b api.World) bool {
	return slices.Equal(a.S.First, b.S.First) && slices.Equal(a.S.Now, b.S.Now) && slices.EqualFunc(a.S.Log, b.S.Log, alikeEntries) &&
		slices.EqualFunc(a.Clients, b.Clients, alikeClients) && slices.EqualFunc(a.Up, b.Up, alikeQueues) && slices.EqualFunc(a.Down, b.Down, alikeQueues)
}

// isNothing answers whether no field of w has anything.
func isNothing(w api.World) bool {
	return w.S.First == nil && w.S.Log == nil && w.S.Now == nil && w.Clients == nil && w.Up == nil && w.Down == nil
}

func wantCheck(t *testing.T, w api.World, want api.Errno) {
	t.Helper()
	if e := Check(w); e != want {
		t.Fatalf("Check(%v) = %d, want %d", w, e, want)
	}
}

// wantDo asks for want, which is a world, too.
func wantDo(t *testing.T, w api.World, x api.Happening, want api.World) {
	t.Helper()
	if got, e := Do(w, x); !alike(got, want) || e != api.OK {
		t.Fatalf("Do(%v, %v) = %v, %d, want %v, OK", w, x, got, e, want)
	}
	wantCheck(t, want, api.OK)
}

func wantNoDo(t *testing.T, w api.World, x api.Happening, want api.Errno) {
	t.Helper()
	if got, e := Do(w, x); !isNothing(got) || e != want {
		t.Fatalf("Do(%v, %v) = %v, %d, want nothing, %d", w, x, got, e, want)
	}
}

// Documents that are none, and how that is told.
var wrongDocs = []struct {
	d api.Doc
	e api.Errno
}{
	{nil, api.ErrForm},
	{api.Doc{}, api.ErrForm},
	{api.Doc{{C: 'a'}}, api.ErrForm},
	{api.Doc{{C: 'a', Link: "javascript:x"}, {C: '\n'}}, api.ErrForm},
	{api.Doc{{C: 9}, {C: '\n'}}, api.ErrText},
	{api.Doc{{C: '\n', Marks: 4}}, api.ErrRange},
	{api.Doc{{C: '\n', Marks: math.MinInt}}, api.ErrRange},
	{text(api.MaxItems + 1), api.ErrMany},
}

// Numbers that a world has no clients of.
var wrongCounts = []int{0, -1, api.MaxClients + 1, math.MinInt, math.MaxInt}

// Operations that are none, but have parts, and how that is told.
var wrongOps = []struct {
	o api.Op
	e api.Errno
}{
	{make(api.Op, api.MaxParts+1), api.ErrMany},
	{api.Op{{}}, api.ErrForm},
	{api.Op{keeps(0)}, api.ErrRange},
	{api.Op{keeps(math.MaxInt)}, api.ErrRange},
	{api.Op{cuts(1)}, api.ErrForm},
	{api.Op{puts("\t"), keeps(1)}, api.ErrText},
	{api.Op{keeps(api.MaxItems), keeps(1)}, api.ErrMany},
}

func TestNew(t *testing.T) {
	for n := 1; n <= api.MaxItems; n++ {
		for clients := 1; clients <= api.MaxClients; clients++ {
			d := text(n)
			want := api.World{S: api.Server{First: d, Now: d}}
			for range clients {
				want.Clients = append(want.Clients, api.Client{Base: d, Now: d, Joined: true})
				want.Up, want.Down = append(want.Up, nil), append(want.Down, nil)
			}
			w, e := New(d, clients)
			if !alike(w, want) || e != api.OK {
				t.Fatalf("New(%v, %d) = %v, %d", d, clients, w, e)
			}
			wantCheck(t, w, api.OK)
		}
	}
}

func TestNewOfWhatIsWrong(t *testing.T) {
	wantNoNew := func(d api.Doc, clients int, want api.Errno) {
		t.Helper()
		if w, e := New(d, clients); !isNothing(w) || e != want {
			t.Fatalf("New(%v, %d) = %v, %d, want nothing, %d", d, clients, w, e, want)
		}
	}
	for _, clients := range wrongCounts {
		wantNoNew(text(3), clients, api.ErrRange)
	}
	for _, l := range wrongDocs {
		for clients := 1; clients <= api.MaxClients; clients++ {
			wantNoNew(l.d, clients, l.e)
		}
		for _, clients := range wrongCounts {
			wantNoNew(l.d, clients, l.e)
		}
	}
}

func TestCheckOfWorlds(t *testing.T) {
	w := after(t, begun(t, "ab\n", 3), doing(0, puts("x"), keeps(3)), doing(0, puts("y"), keeps(4)), serving(0), doing(1, keeps(3)), dropping(2), hearing(0))
	wantCheck(t, w, api.OK)
	// As many as may wait, in each of the queues; what they say isn't asked, but for the operation.
	for i := range 3 {
		for n := range api.MaxQueue + api.MaxLog + 1 {
			wantCheck(t, with(w, func(w *api.World) { w.Up[i] = several(n) }), api.OK)
			wantCheck(t, with(w, func(w *api.World) { w.Down[i] = several(n) }), api.OK)
		}
		for _, m := range []api.Message{message(math.MinInt, math.MaxInt, math.MinInt), message(math.MaxInt, -1, -1, keeps(1)), {E: api.Entry{O: api.Op{}}}, message(0, 0, 0, puts("x"), keeps(api.MaxItems))} {
			wantCheck(t, with(w, func(w *api.World) { w.Up[i] = append(w.Up[i], m) }), api.OK)
			wantCheck(t, with(w, func(w *api.World) { w.Down[i] = append(w.Down[i], m) }), api.OK)
		}
		// A client that isn't connected may have something on its way, one may have a revision that the log hasn't, and nobody needs to have what the log makes.
		wantCheck(t, with(w, func(w *api.World) { w.Clients[i].Joined = false }), api.OK)
		wantCheck(t, with(w, func(w *api.World) { w.Clients[i].Rev = api.MaxLog }), api.OK)
		wantCheck(t, with(w, func(w *api.World) { w.Clients[i], _ = client.New(text(7)) }), api.OK)
	}
	wantCheck(t, api.World{}, api.ErrForm)
}

// fault is something that is wrong with a world of two clients.
type fault struct {
	name string
	lay  func(w *api.World)
	e    api.Errno
}

// faults answers what may be wrong, in the order in which it is told; those of one place are one group.
func faults() [][]fault {
	counts := []fault{
		{"no clients", func(w *api.World) { w.Clients, w.Up, w.Down = nil, nil, nil }, api.ErrForm},
		{"too many clients", func(w *api.World) {
			for range api.MaxClients {
				w.Clients, w.Up, w.Down = append(w.Clients, w.Clients[1]), append(w.Up, w.Up[1]), append(w.Down, w.Down[1])
			}
		}, api.ErrForm},
		{"a client more", func(w *api.World) { w.Clients = append(w.Clients, w.Clients[1]) }, api.ErrForm},
		{"a client less", func(w *api.World) { w.Clients = w.Clients[:1] }, api.ErrForm},
		{"one of Up more", func(w *api.World) { w.Up = append(w.Up, nil) }, api.ErrForm},
		{"one of Up less", func(w *api.World) { w.Up = w.Up[:1] }, api.ErrForm},
		{"none of Up", func(w *api.World) { w.Up = nil }, api.ErrForm},
		{"one of Down more", func(w *api.World) { w.Down = append(w.Down, nil) }, api.ErrForm},
		{"one of Down less", func(w *api.World) { w.Down = w.Down[:1] }, api.ErrForm},
		{"none of Down", func(w *api.World) { w.Down = nil }, api.ErrForm},
	}
	l := [][]fault{{
		{"a long log", func(w *api.World) { w.S.Log = make([]api.Entry, api.MaxLog+1) }, api.ErrMany},
		{"an entry of nobody", func(w *api.World) { w.S.Log = []api.Entry{{Client: -1}} }, api.ErrWho},
		{"an entry that is no operation", func(w *api.World) { w.S.Log = []api.Entry{{Seq: 1, O: api.Op{cuts(1)}}} }, api.ErrForm},
		{"an entry that can't be done", func(w *api.World) { w.S.Log = []api.Entry{{Seq: 1, O: api.Op{keeps(1)}}} }, api.ErrBase},
		{"a server with something else", func(w *api.World) { w.S.Now = text(7) }, api.ErrForm},
		{"no document", func(w *api.World) { w.S.First = api.Doc{{C: 9}} }, api.ErrText},
	}, counts}
	for i := range 2 {
		l = append(l, []fault{
			{"a wrong Rev", func(w *api.World) { w.Clients[i].Rev = -1 }, api.ErrRange},
			{"a wrong Base", func(w *api.World) { w.Clients[i].Base = api.Doc{{C: 9}} }, api.ErrText},
			{"another Now", func(w *api.World) { w.Clients[i].Now = text(7) }, api.ErrForm},
			{"something for other lengths", func(w *api.World) { w.Clients[i].Seq, w.Clients[i].Sent = 1, api.Op{keeps(1)} }, api.ErrBase},
		})
	}
	queues := [2]func(w *api.World) [][]api.Message{func(w *api.World) [][]api.Message { return w.Up }, func(w *api.World) [][]api.Message { return w.Down }}
	for _, of := range queues {
		for i := range 2 {
			l = append(l, queueFaults(func(w *api.World) *[]api.Message { return &of(w)[i] })...)
		}
	}
	return l
}

// queueFaults answers what may be wrong with a queue, in order: that it is too long, then with the first one of its messages, then with others.
func queueFaults(of func(w *api.World) *[]api.Message) [][]fault {
	many := api.MaxQueue + api.MaxLog + 1
	l := [][]fault{{{"too much on its way", func(w *api.World) { *of(w) = append(*of(w), several(many-len(*of(w)))...) }, api.ErrMany}}}
	for k := range 2 {
		var group []fault
		for _, x := range wrongOps {
			group = append(group, fault{"a message that is no operation", func(w *api.World) {
				queue := slices.Clone(*of(w))
				queue = append(queue, several(max(0, k+1-len(queue)))...)
				queue[k].E.O = x.o
				*of(w) = queue
			}, x.e})
		}
		l = append(l, group)
	}
	return l
}

// Each fault alone, and any two of them: the one that is told first is the answer, to whoever asks.
func TestCheckTellsTheFirstError(t *testing.T) {
	fine := begun(t, "ab\n", 2)
	l := faults()
	for i, group := range l {
		for _, first := range group {
			wantTold(t, with(fine, first.lay), first)
			for _, others := range l[i+1:] {
				for _, other := range others {
					w := copyOf(fine)
					other.lay(&w)
					first.lay(&w)
					wantTold(t, w, first)
				}
			}
		}
	}
}

// wantTold asks Check, Do and Run for the error of the fault, ahead of all that is wrong with what should happen.
func wantTold(t *testing.T, w api.World, x fault) {
	t.Helper()
	if e := Check(w); e != x.e {
		t.Fatalf("%s: Check(%v) = %d, want %d", x.name, w, e, x.e)
	}
	for _, h := range []api.Happening{{}, {Client: -1}, serving(9), dropping(0), doing(0)} {
		wantNoDo(t, w, h, x.e)
	}
	for _, n := range []int{0, 1, api.MaxScript + 1} {
		if got, said, e := Run(w, make([]api.Happening, n)); !isNothing(got) || said != nil || e != x.e {
			t.Fatalf("%s: Run(%v) = %v, %v, %d, want nothing, %d", x.name, w, got, said, e, x.e)
		}
	}
}

func TestSameLooksAtAllFields(t *testing.T) {
	base := with(after(t, begun(t, "ab\n", 2), doing(0, puts("x"), keeps(3)), doing(0, puts("y"), keeps(4))), func(w *api.World) {
		w.Up = [][]api.Message{{message(1, 2, 3, keeps(4)), message(5, 6, 7)}, nil}
		w.Down = [][]api.Message{nil, {message(1, 2, 3, keeps(4)), message(5, 6, 7)}}
		w.S.Log = []api.Entry{{Client: 1, Seq: 2, O: api.Op{keeps(3)}}}
	})
	others := []api.World{base, {}, {S: api.Server{First: text(1)}}, {Clients: make([]api.Client, 1)}, {Up: make([][]api.Message, 1)}, {Down: make([][]api.Message, 1)}, {Down: make([][]api.Message, 2)}, {Up: [][]api.Message{{{}}}}}
	for _, change := range []func(w *api.World){
		func(w *api.World) { w.S.First[0].C = 'z' },
		func(w *api.World) { w.S.Now[0].C = 'z' },
		func(w *api.World) { w.S.Log[0].Client = 0 },
		func(w *api.World) { w.S.Log[0].Seq = 3 },
		func(w *api.World) { w.S.Log[0].O[0].N = 4 },
		func(w *api.World) { w.S.Log = nil },
		func(w *api.World) { w.Clients = w.Clients[:1] },
		func(w *api.World) { w.Clients = append(w.Clients, w.Clients[1]) },
		func(w *api.World) { w.Clients[0], w.Clients[1] = w.Clients[1], w.Clients[0] },
		func(w *api.World) { w.Clients[0].Rev++ },
		func(w *api.World) { w.Clients[1].Seq++ },
		func(w *api.World) { w.Clients[0].Base[0].Marks = 1 },
		func(w *api.World) { w.Clients[1].Now[0].Link = "http:x" },
		func(w *api.World) { w.Clients[0].Sent[0].Items[0].C = 'z' },
		func(w *api.World) { w.Clients[0].Held[1].N++ },
		func(w *api.World) { w.Clients[1].Joined = false },
		func(w *api.World) { w.Up = w.Up[:1] },
		func(w *api.World) { w.Up = append(w.Up, nil) },
		func(w *api.World) { w.Up[0], w.Up[1] = w.Up[1], w.Up[0] },
		func(w *api.World) { w.Up[0] = w.Up[0][:1] },
		func(w *api.World) { w.Up[0][0].Rev++ },
		func(w *api.World) { w.Up[0][1].E.Client++ },
		func(w *api.World) { w.Up[0][1].E.Seq++ },
		func(w *api.World) { w.Up[0][0].E.O[0].N++ },
		func(w *api.World) { w.Up[0][0].E.O = nil },
		func(w *api.World) { w.Up[0][0], w.Up[0][1] = w.Up[0][1], w.Up[0][0] },
		func(w *api.World) { w.Down = w.Down[:1] },
		func(w *api.World) { w.Down = append(w.Down, nil) },
		func(w *api.World) { w.Down[1] = w.Down[1][1:] },
		func(w *api.World) { w.Down[1][0].Rev++ },
		func(w *api.World) { w.Down[1][0].E.Client++ },
		func(w *api.World) { w.Down[1][1].E.Seq++ },
		func(w *api.World) { w.Down[1][0].E.O[0].To = true },
		func(w *api.World) { w.Down[1][0].E.O = nil },
		func(w *api.World) { w.Up, w.Down = w.Down, w.Up },
	} {
		others = append(others, with(base, change))
	}
	for i, a := range others {
		for k, b := range others {
			if Same(a, copyOf(b)) != (i == k) {
				t.Fatalf("Same(%v, %v) = %t", a, b, i != k)
			}
		}
	}
	a := api.World{Up: [][]api.Message{nil, {{}}}}
	b := api.World{S: api.Server{First: api.Doc{}, Log: []api.Entry{}, Now: api.Doc{}}, Clients: []api.Client{}, Up: [][]api.Message{{}, {{E: api.Entry{O: api.Op{}}}}}, Down: [][]api.Message{}}
	if !Same(a, b) || !Same(b, a) {
		t.Fatal("lists that have nothing in them aren't told to be the same")
	}
}

func TestDoOfNobodyAndOfNoKind(t *testing.T) {
	for n := 1; n <= api.MaxClients; n++ {
		w := begun(t, "ab\n", n)
		for _, kind := range []int{math.MinInt, -1, 0, api.Edit, api.Paste, api.Serve, api.Hear, api.Drop, api.Join, api.Join + 1, math.MaxInt} {
			for _, who := range []int{math.MinInt, -1, n, n + 1, math.MaxInt} {
				wantNoDo(t, w, api.Happening{Kind: kind, Client: who, N: -1, B: make([]byte, api.MaxText+1)}, api.ErrWho)
			}
			for who := range n {
				if kind < api.Edit || kind > api.Join {
					wantNoDo(t, w, api.Happening{Kind: kind, Client: who, O: api.Op{keeps(3)}}, api.ErrForm)
				}
			}
		}
	}
}

func TestEdit(t *testing.T) {
	w := begun(t, "ab\n", 2)
	x, y, z := api.Op{keeps(1), puts("x"), keeps(2)}, api.Op{keeps(2), puts("y"), keeps(2)}, api.Op{cuts(1), keeps(4)}
	first := with(w, func(w *api.World) {
		w.Clients[1] = api.Client{Base: items("ab\n"), Now: items("axb\n"), Seq: 1, Sent: x, Joined: true}
		w.Up[1] = []api.Message{message(0, 1, 1, x...)}
	})
	wantDo(t, w, doing(1, x...), first)
	// While something is on its way, nothing more goes.
	second := with(first, func(w *api.World) { w.Clients[1].Now, w.Clients[1].Held = items("axyb\n"), y })
	wantDo(t, first, doing(1, y...), second)
	wantDo(t, second, doing(1, z...), with(second, func(w *api.World) {
		w.Clients[1].Now, w.Clients[1].Held = items("xyb\n"), api.Op{cuts(1), keeps(1), puts("y"), keeps(2)}
	}))
	// It tells the revision and the number that the client has.
	late := with(w, func(w *api.World) { w.Clients[1].Rev, w.Clients[1].Seq = 7, api.MaxSeq-1 })
	wantDo(t, late, doing(1, x...), with(first, func(w *api.World) {
		w.Clients[1].Rev, w.Clients[1].Seq = 7, api.MaxSeq
		w.Up[1] = []api.Message{message(7, 1, api.MaxSeq, x...)}
	}))
	// A client that isn't connected does it for itself.
	off := with(w, func(w *api.World) { w.Clients[1].Joined = false })
	wantDo(t, off, doing(1, x...), with(first, func(w *api.World) { w.Clients[1].Joined, w.Up[1] = false, nil }))
}

func TestEditWhereMuchWaits(t *testing.T) {
	x := api.Op{keeps(1), puts("x"), keeps(2)}
	for n := range api.MaxQueue + api.MaxLog + 1 {
		w := with(begun(t, "ab\n", 2), func(w *api.World) {
			w.Up[0], w.Down[0] = several(n), several(4)
			w.Up[1], w.Down[1] = several(5), several(6)
		})
		want := with(w, func(w *api.World) {
			w.Clients[0].Now, w.Clients[0].Seq, w.Clients[0].Sent = items("axb\n"), 1, x
			if n < api.MaxQueue {
				w.Up[0] = append(w.Up[0], message(0, 0, 1, x...))
			} else {
				w.Clients[0].Joined, w.Up[0], w.Down[0] = false, nil, nil
			}
		})
		wantDo(t, w, doing(0, x...), want)
		// What isn't connected isn't cut.
		off := func(w *api.World) { w.Clients[0].Joined, w.Up[0], w.Down[0] = false, several(n), several(4) }
		wantDo(t, with(w, off), doing(0, x...), with(want, off))
		// What is Held doesn't go, so there is nothing to cut for.
		held := with(w, func(w *api.World) {
			w.Clients[0].Now, w.Clients[0].Seq, w.Clients[0].Sent = items("axb\n"), 1, x
		})
		wantDo(t, held, doing(0, keeps(4)), with(held, func(w *api.World) { w.Clients[0].Held = api.Op{keeps(4)} }))
	}
}

func TestEditOfWhatIsWrong(t *testing.T) {
	w := begun(t, "ab\n", 2)
	busy := after(t, w, doing(0, keeps(3)))
	full := with(begun(t, "ab\n", 1), func(w *api.World) { w.Up[0] = several(api.MaxQueue) })
	for _, w := range []api.World{w, busy, full} {
		for _, x := range wrongOps {
			wantNoDo(t, w, doing(0, x.o...), x.e)
		}
		wantNoDo(t, w, doing(0), api.ErrMany)
		wantNoDo(t, w, doing(0, keeps(2)), api.ErrBase)
		wantNoDo(t, w, doing(0, puts(strings.Repeat("a", api.MaxItems-2)), keeps(3)), api.ErrMany)
	}
	last := func(w *api.World) { w.Clients[0].Seq = api.MaxSeq }
	wantNoDo(t, with(w, last), doing(0, keeps(3)), api.ErrMany)
	if _, e := Do(with(busy, last), doing(0, keeps(3))); e != api.OK {
		t.Fatalf("what is Held needs no number, and yet: %d", e)
	}
}

func TestPaste(t *testing.T) {
	page := `<h1>k<b>l</b></h1><script>no</script><a href="http:z">m`
	put := api.Part{Kind: api.Put, Items: []api.Item{{C: 'k'}, {C: 'l', Marks: api.Bold}, {C: '\n', Marks: api.Bold}, {C: 'm', Link: "http:z"}, {C: '\n'}}}
	d := text(7)
	w, _ := New(d, 2)
	idle := after(t, w, doing(1, keeps(7)))
	for n := range d {
		o := api.Op{keeps(n), put, keeps(len(d) - n)}
		if n == 0 {
			o = o[1:]
		}
		now := slices.Concat(d[:n], put.Items, d[n:])
		wantDo(t, w, pasting(1, n, page), with(w, func(w *api.World) {
			w.Clients[1] = api.Client{Base: d, Now: now, Seq: 1, Sent: o, Joined: true}
			w.Up[1] = []api.Message{message(0, 1, 1, o...)}
		}))
		// The place is one of what the client has now, and it is Held as any Edit is.
		wantDo(t, idle, pasting(1, n, page), with(idle, func(w *api.World) { w.Clients[1].Now, w.Clients[1].Held = now, o }))
	}
	// Where the client has more than the log makes.
	more := after(t, w, doing(1, puts("x"), keeps(7)))
	wantDo(t, more, pasting(1, 7, ""), with(more, func(w *api.World) {
		w.Clients[1].Now = slices.Concat(items("x"), d[:6], items("\n"), d[6:])
		w.Clients[1].Held = api.Op{keeps(7), puts("\n"), keeps(1)}
	}))
}

func TestPasteOfWhatIsWrong(t *testing.T) {
	w := begun(t, "ab\n", 2)
	long, many := strings.Repeat(" ", api.MaxText+1), strings.Repeat("a", api.MaxItems)
	for _, n := range []int{math.MinInt, -1, 3, 4, math.MaxInt} {
		wantNoDo(t, w, pasting(0, n, "x"), api.ErrRange)
		// What the page tells comes first.
		wantNoDo(t, w, pasting(0, n, long), api.ErrMany)
		wantNoDo(t, w, pasting(0, n, many), api.ErrMany)
		// The place comes ahead of what the Edit tells.
		wantNoDo(t, with(w, func(w *api.World) { w.Clients[0].Seq = api.MaxSeq }), pasting(0, n, "x"), api.ErrRange)
		wantNoDo(t, w, pasting(0, n, many[1:]), api.ErrRange)
	}
	wantNoDo(t, w, pasting(0, 1, long), api.ErrMany)
	wantNoDo(t, w, pasting(0, 1, many), api.ErrMany)
	wantNoDo(t, with(w, func(w *api.World) { w.Clients[0].Seq = api.MaxSeq }), pasting(0, 1, "x"), api.ErrMany)
	// The end of its block counts, too.
	for n, e := range map[int]api.Errno{api.MaxItems - 4: api.OK, api.MaxItems - 3: api.ErrMany, api.MaxItems - 1: api.ErrMany} {
		if _, got := Do(w, pasting(0, 1, many[:n])); got != e {
			t.Fatalf("a page of %d characters: %d, want %d", n, got, e)
		}
	}
}

func TestServe(t *testing.T) {
	w := after(t, begun(t, "ab\n", 3), doing(0, keeps(1), puts("x"), keeps(2)), doing(2, keeps(1), puts("y"), keeps(2)))
	x, y := api.Op{keeps(1), puts("x"), keeps(2)}, api.Op{keeps(2), puts("y"), keeps(2)}
	first := with(w, func(w *api.World) {
		w.S.Log, w.S.Now = []api.Entry{{Client: 0, Seq: 1, O: x}}, items("axb\n")
		w.Up[0] = nil
		for i := range w.Down {
			w.Down[i] = []api.Message{message(1, 0, 1, x...)}
		}
	})
	wantDo(t, w, serving(0), first)
	// The next one is turned behind it, and told to all as it is then.
	second := with(first, func(w *api.World) {
		w.S.Log, w.S.Now = append(w.S.Log, api.Entry{Client: 2, Seq: 1, O: y}), items("axyb\n")
		w.Up[2] = nil
		for i := range w.Down {
			w.Down[i] = append(w.Down[i], message(2, 2, 1, y...))
		}
	})
	wantDo(t, first, serving(2), second)
	for who := range 3 {
		wantNoDo(t, second, serving(who), api.ErrLate)
	}
	wantNoDo(t, w, serving(1), api.ErrLate)
	// Nobody is told who isn't connected, be it the one whose it is.
	for off := range 3 {
		apart := func(w *api.World) { w.Clients[off].Joined = false }
		wantDo(t, with(w, apart), serving(0), with(first, func(w *api.World) {
			apart(w)
			w.Down[off] = nil
		}))
	}
}

// The first one goes, the others stay, in order.
func TestServeTakesTheFirstOne(t *testing.T) {
	w := with(begun(t, "ab\n", 2), func(w *api.World) {
		w.Up[1] = []api.Message{message(0, 1, 5, cuts(1), keeps(2)), message(0, 1, 4, keeps(3)), message(1, 1, 6, keeps(2))}
	})
	want := with(w, func(w *api.World) {
		w.S.Log, w.S.Now = []api.Entry{{Client: 1, Seq: 5, O: api.Op{cuts(1), keeps(2)}}}, items("b\n")
		w.Up[1] = w.Up[1][1:]
		w.Down = [][]api.Message{{message(1, 1, 5, cuts(1), keeps(2))}, {message(1, 1, 5, cuts(1), keeps(2))}}
	})
	wantDo(t, w, serving(1), want)
}

// Whatever a message says of whose it is: it is the client's it comes from.
func TestServeOfAnEntryAsTheClients(t *testing.T) {
	for _, says := range []int{math.MinInt, -1, 0, 1, api.MaxClients, math.MaxInt} {
		w := with(logged(t, 2), func(w *api.World) { w.Up[0] = []api.Message{message(2, says, 2, cuts(1), keeps(2))} })
		wantDo(t, w, serving(0), with(w, func(w *api.World) {
			w.S.Log, w.S.Now = append(w.S.Log, api.Entry{Client: 0, Seq: 2, O: api.Op{cuts(1), keeps(2)}}), items("b\n")
			w.Up[0] = nil
			w.Down = [][]api.Message{{message(3, 0, 2, cuts(1), keeps(2))}, {message(3, 0, 2, cuts(1), keeps(2))}}
		}))
		refused := with(logged(t, 2), func(w *api.World) { w.Up[0] = []api.Message{message(3, says, 2, keeps(3))} })
		wantDo(t, refused, serving(0), with(refused, func(w *api.World) { w.Up[0], w.Down[0] = nil, []api.Message{message(0, 0, 2)} }))
	}
}

// What the server has it doesn't take again, and nobody is told.
func TestServeOfWhatIsThere(t *testing.T) {
	for _, rev := range []int{math.MinInt, 0, 2, 3, math.MaxInt} {
		w := with(logged(t, 2), func(w *api.World) { w.Up[1] = []api.Message{message(rev, 1, 2, keeps(1)), message(0, 1, 3)} })
		wantDo(t, w, serving(1), with(w, func(w *api.World) { w.Up[1] = w.Up[1][1:] }))
	}
	// Not even where the log is full, or no more may wait.
	w := with(logged(t, api.MaxLog), func(w *api.World) {
		w.Up[1], w.Down[1] = []api.Message{message(0, 1, 2, keeps(3))}, several(api.MaxQueue+api.MaxLog)
	})
	wantDo(t, w, serving(1), with(w, func(w *api.World) { w.Up[1] = nil }))
}

func TestServeOfWhatIsRefused(t *testing.T) {
	for _, m := range []api.Message{
		message(0, 1, 9),
		message(0, 1, 2),
		message(0, 1, 0, keeps(3)),
		message(0, 1, -1, keeps(3)),
		message(0, 1, api.MaxSeq+1, keeps(3)),
		message(0, 1, math.MinInt, keeps(3)),
		message(-1, 1, 9, keeps(3)),
		message(3, 1, 9, keeps(3)),
		message(math.MaxInt, 1, 9, keeps(3)),
		message(0, 1, 9, keeps(2)),
		message(2, 1, 9, keeps(2)),
		message(2, 1, 9, puts(strings.Repeat("a", api.MaxItems-2)), keeps(3)),
	} {
		w := with(logged(t, 2), func(w *api.World) {
			w.Up[1], w.Down[1] = append([]api.Message{m}, several(2)...), several(3)
		})
		wantDo(t, w, serving(1), with(w, func(w *api.World) {
			w.Up[1], w.Down[1] = w.Up[1][1:], append(w.Down[1], message(0, 1, m.E.Seq))
		}))
		off := func(w *api.World) { w.Clients[1].Joined = false }
		wantDo(t, with(w, off), serving(1), with(w, func(w *api.World) {
			off(w)
			w.Up[1] = w.Up[1][1:]
		}))
	}
	// The log is full.
	for n := api.MaxLog - 2; n <= api.MaxLog; n++ {
		w := with(logged(t, n), func(w *api.World) { w.Up[0] = []api.Message{message(n, 0, 1, keeps(3))} })
		want := with(w, func(w *api.World) { w.Up[0], w.Down[0] = nil, []api.Message{message(0, 0, 1)} })
		if n < api.MaxLog {
			want.S.Log = append(want.S.Log, api.Entry{Client: 0, Seq: 1, O: api.Op{keeps(3)}})
			want.Down = [][]api.Message{{message(n+1, 0, 1, keeps(3))}, {message(n+1, 0, 1, keeps(3))}}
		}
		wantDo(t, w, serving(0), want)
	}
}

func TestServeWhereMuchWaits(t *testing.T) {
	for n := api.MaxQueue - 1; n <= api.MaxQueue+api.MaxLog; n++ {
		for who := range 3 {
			for other := range 3 {
				w := with(begun(t, "ab\n", 3), func(w *api.World) {
					for i := range 3 {
						w.Up[i] = []api.Message{message(0, i, 1, keeps(3)), message(0, i, 2)}
					}
					w.Down[other] = several(n)
				})
				cutOff := func(w *api.World) {
					if n == api.MaxQueue+api.MaxLog {
						w.Clients[other].Joined, w.Up[other], w.Down[other] = false, nil, nil
					}
				}
				wantDo(t, w, serving(who), with(w, func(w *api.World) {
					w.S.Log = []api.Entry{{Client: who, Seq: 1, O: api.Op{keeps(3)}}}
					w.Up[who] = w.Up[who][1:]
					for i := range 3 {
						w.Down[i] = append(w.Down[i], message(1, who, 1, keeps(3)))
					}
					cutOff(w)
				}))
				// A refusal is told to the one alone.
				w.Up[who] = w.Up[who][1:]
				wantDo(t, w, serving(who), with(w, func(w *api.World) {
					w.Up[who] = nil
					w.Down[who] = append(w.Down[who], message(0, who, 2))
					if who == other {
						cutOff(w)
					}
				}))
				// Who isn't connected isn't cut.
				off := with(w, func(w *api.World) {
					w.Clients[other].Joined = false
					w.Up[who] = []api.Message{message(0, who, 1, keeps(3))}
				})
				wantDo(t, off, serving(who), with(off, func(w *api.World) {
					w.S.Log = []api.Entry{{Client: who, Seq: 1, O: api.Op{keeps(3)}}}
					w.Up[who] = nil
					for i := range 3 {
						if i != other {
							w.Down[i] = append(w.Down[i], message(1, who, 1, keeps(3)))
						}
					}
				}))
			}
		}
	}
}

func TestHear(t *testing.T) {
	w := after(t, begun(t, "ab\n", 2), doing(0, keeps(1), puts("x"), keeps(2)), doing(1, keeps(1), puts("y"), keeps(2)), doing(1, keeps(2), puts("z"), keeps(2)), serving(0), serving(1))
	x, y, z := message(1, 0, 1, keeps(1), puts("x"), keeps(2)), message(2, 1, 1, keeps(2), puts("y"), keeps(2)), api.Op{keeps(3), puts("z"), keeps(2)}
	// Another one's: what it did is turned behind it.
	first := with(w, func(w *api.World) {
		w.Clients[1] = api.Client{Rev: 1, Base: items("axb\n"), Now: items("axyzb\n"), Seq: 1, Sent: y.E.O, Held: z, Joined: true}
		w.Down[1] = []api.Message{y}
	})
	wantDo(t, w, hearing(1), first)
	// Its own: what was Held goes up, with the revision that it has now.
	second := with(first, func(w *api.World) {
		w.Clients[1] = api.Client{Rev: 2, Base: items("axyb\n"), Now: items("axyzb\n"), Seq: 2, Sent: z, Joined: true}
		w.Up[1], w.Down[1] = []api.Message{message(2, 1, 2, z...)}, nil
	})
	wantDo(t, first, hearing(1), second)
	wantNoDo(t, second, hearing(1), api.ErrLate)
	// Nothing was Held: nothing goes up.
	third := with(second, func(w *api.World) {
		w.Clients[0] = api.Client{Rev: 1, Base: items("axb\n"), Now: items("axb\n"), Seq: 1, Joined: true}
		w.Down[0] = []api.Message{y}
	})
	wantDo(t, second, hearing(0), third)
	fourth := with(third, func(w *api.World) {
		w.Clients[0] = api.Client{Rev: 2, Base: items("axyb\n"), Now: items("axyb\n"), Seq: 1, Joined: true}
		w.Down[0] = nil
	})
	wantDo(t, third, hearing(0), fourth)
	wantNoDo(t, fourth, hearing(0), api.ErrLate)
	wantNoDo(t, begun(t, "ab\n", 2), hearing(1), api.ErrLate)
	// Who isn't connected hears what is there all the same, but nothing goes up.
	off := func(w *api.World) { w.Clients[1].Joined = false }
	wantDo(t, with(first, off), hearing(1), with(second, func(w *api.World) {
		off(w)
		w.Up[1] = nil
	}))
	if !slices.Equal(w.Down[0][0].E.O[1].Items, x.E.O[1].Items) {
		t.Fatalf("all were told something else: %v", w.Down)
	}
}

func TestHearOfWhatWasRefused(t *testing.T) {
	w := after(t, begun(t, "ab\n", 2), doing(1, puts("y"), keeps(3)), doing(1, puts("z"), keeps(4)))
	for _, m := range []api.Message{message(0, 1, 1), message(7, 1, 1), {E: api.Entry{Client: 1, Seq: 1, O: api.Op{}}}} {
		told := with(w, func(w *api.World) { w.Down[1] = append([]api.Message{m}, several(3)...) })
		wantDo(t, told, hearing(1), with(told, func(w *api.World) {
			w.Clients[1] = api.Client{Base: items("ab\n"), Now: items("ab\n"), Seq: 1, Joined: true}
			w.Down[1] = several(3)
		}))
	}
	// Of something else nothing comes, but it is gone.
	for _, m := range []api.Message{message(0, 0, 1), message(0, 1, 2), message(0, 1, 0), message(5, 0, 1, keeps(3)), message(0, 1, 1, keeps(3)), message(1, 0, 1, keeps(7))} {
		told := with(w, func(w *api.World) { w.Down[1] = append([]api.Message{m}, several(3)...) })
		wantDo(t, told, hearing(1), with(told, func(w *api.World) { w.Down[1] = several(3) }))
	}
}

// What comes as its own, but can't be done, is an error of the client's: it is cut.
func TestHearCuts(t *testing.T) {
	for _, held := range []api.Op{nil, {keeps(4)}} {
		w := with(after(t, begun(t, "ab\n", 2), doing(0, keeps(3)), doing(1, puts("y"), keeps(3))), func(w *api.World) { w.Clients[1].Held = held })
		for _, joined := range []bool{true, false} {
			for _, m := range []api.Message{message(1, 1, 1, keeps(2)), message(1, 1, 1, puts(strings.Repeat("a", api.MaxItems-2)), keeps(3))} {
				told := with(w, func(w *api.World) {
					w.Clients[1].Joined = joined
					w.Down = [][]api.Message{several(3), append([]api.Message{m}, several(3)...)}
				})
				wantDo(t, told, hearing(1), with(told, func(w *api.World) { w.Clients[1].Joined, w.Up[1], w.Down[1] = false, nil, nil }))
			}
		}
	}
}

func TestHearWhereMuchWaits(t *testing.T) {
	x, y := api.Op{puts("x"), keeps(3)}, api.Op{puts("y"), keeps(4)}
	for n := range api.MaxQueue + api.MaxLog + 1 {
		w := with(begun(t, "ab\n", 2), func(w *api.World) {
			w.Clients[1] = api.Client{Base: items("ab\n"), Now: items("yxab\n"), Seq: 1, Sent: x, Held: y, Joined: true}
			w.Up = [][]api.Message{several(2), several(n)}
			w.Down = [][]api.Message{several(2), append([]api.Message{message(1, 1, 1, x...)}, several(3)...)}
		})
		wantDo(t, w, hearing(1), with(w, func(w *api.World) {
			w.Clients[1] = api.Client{Rev: 1, Base: items("xab\n"), Now: items("yxab\n"), Seq: 2, Sent: y, Joined: n < api.MaxQueue}
			w.Up[1], w.Down[1] = append(w.Up[1], message(1, 1, 2, y...)), several(3)
			if n >= api.MaxQueue {
				w.Up[1], w.Down[1] = nil, nil
			}
		}))
		// Where nothing goes up nothing is cut.
		w.Clients[1].Held, w.Clients[1].Now = nil, items("xab\n")
		wantDo(t, w, hearing(1), with(w, func(w *api.World) {
			w.Clients[1] = api.Client{Rev: 1, Base: items("xab\n"), Now: items("xab\n"), Seq: 1, Joined: true}
			w.Down[1] = several(3)
		}))
	}
}

func TestDrop(t *testing.T) {
	w := with(after(t, begun(t, "ab\n", 3), doing(1, puts("y"), keeps(3)), doing(1, puts("z"), keeps(4))), func(w *api.World) {
		for i := range 3 {
			w.Up[i], w.Down[i] = append(w.Up[i], several(i)...), several(3-i)
		}
	})
	for who := range 3 {
		want := with(w, func(w *api.World) { w.Clients[who].Joined, w.Up[who], w.Down[who] = false, nil, nil })
		wantDo(t, w, dropping(who), want)
		// Who is cut may be cut again.
		wantDo(t, want, dropping(who), want)
		wantDo(t, with(w, func(w *api.World) { w.Clients[who].Joined = false }), dropping(who), want)
	}
}

func TestJoin(t *testing.T) {
	x := api.Op{puts("x"), keeps(3)}
	for _, n := range []int{0, 1, 5, api.MaxLog} {
		for _, rev := range []int{0, 1, 4, 5, 6, api.MaxLog - 1, api.MaxLog} {
			for _, isSent := range []bool{false, true} {
				w := with(logged(t, n), func(w *api.World) {
					w.Clients[0].Rev, w.Clients[0].Seq, w.Clients[0].Joined = rev, 3, false
					if isSent {
						w.Clients[0].Now, w.Clients[0].Sent = items("xab\n"), x
					}
				})
				want := with(w, func(w *api.World) {
					w.Clients[0].Joined = true
					for i := rev; i < n; i++ {
						w.Down[0] = append(w.Down[0], message(i+1, 1, i+1, keeps(3)))
					}
					if isSent {
						w.Up[0] = []api.Message{message(rev, 0, 3, x...)}
					}
				})
				wantDo(t, w, joining(0), want)
				wantNoDo(t, want, joining(0), api.ErrLate)
				wantNoDo(t, w, joining(1), api.ErrLate)
			}
		}
	}
}

// Something may be on its way to and from who isn't connected: what is new goes behind it.
func TestJoinWhereMuchWaits(t *testing.T) {
	x := api.Op{puts("x"), keeps(3)}
	for _, entries := range []int{0, 2, api.MaxLog} {
		for _, up := range []int{0, 1, api.MaxQueue - 1, api.MaxQueue, api.MaxQueue + 1, api.MaxQueue + api.MaxLog} {
			for _, down := range []int{0, 1, api.MaxQueue - 1, api.MaxQueue, api.MaxQueue + 1, api.MaxQueue + api.MaxLog - 2, api.MaxQueue + api.MaxLog - 1, api.MaxQueue + api.MaxLog} {
				w := with(logged(t, entries), func(w *api.World) {
					w.Clients[0].Seq, w.Clients[0].Joined = 3, false
					w.Up, w.Down = [][]api.Message{several(up), several(2)}, [][]api.Message{several(down), several(2)}
				})
				for _, isSent := range []bool{false, true} {
					if isSent {
						w.Clients[0].Now, w.Clients[0].Sent = items("xab\n"), x
					}
					want := with(w, func(w *api.World) {
						w.Clients[0].Joined = true
						for i := range entries {
							w.Down[0] = append(w.Down[0], message(i+1, 1, i+1, keeps(3)))
						}
						if isSent {
							w.Up[0] = append(w.Up[0], message(0, 0, 3, x...))
						}
						if len(w.Down[0]) > api.MaxQueue+api.MaxLog || isSent && up >= api.MaxQueue {
							w.Clients[0].Joined, w.Up[0], w.Down[0] = false, nil, nil
						}
					})
					wantDo(t, w, joining(0), want)
				}
			}
		}
	}
}

func wantRun(t *testing.T, w api.World, l []api.Happening, want api.World, wantSaid []api.Errno) {
	t.Helper()
	if got, said, e := Run(w, l); !alike(got, want) || !slices.Equal(said, wantSaid) || e != api.OK {
		t.Fatalf("Run(%v, %v) = %v, %v, %d, want %v, %v, OK", w, l, got, said, e, want, wantSaid)
	}
}

func TestRun(t *testing.T) {
	w := begun(t, "ab\n", 2)
	l := []api.Happening{
		doing(0, keeps(1), puts("x"), keeps(2)), doing(0, keeps(3)), hearing(0), {}, serving(1), serving(2), serving(0), serving(0),
		hearing(1), pasting(1, 4, "k"), pasting(1, 3, "k"), joining(1), dropping(1), joining(1), {Kind: 7}, serving(1), hearing(0), hearing(0), hearing(1),
	}
	said := []api.Errno{
		api.OK, api.ErrBase, api.ErrLate, api.ErrForm, api.ErrLate, api.ErrWho, api.OK, api.ErrLate,
		api.OK, api.ErrRange, api.OK, api.ErrLate, api.OK, api.OK, api.ErrForm, api.OK, api.OK, api.OK, api.OK,
	}
	final := api.Doc(items("axbk\n\n"))
	x, k := api.Op{keeps(1), puts("x"), keeps(2)}, api.Op{keeps(3), puts("k\n"), keeps(1)}
	want := api.World{
		S:       api.Server{First: items("ab\n"), Log: []api.Entry{{Client: 0, Seq: 1, O: x}, {Client: 1, Seq: 1, O: k}}, Now: final},
		Clients: []api.Client{{Rev: 2, Base: final, Now: final, Seq: 1, Joined: true}, {Rev: 2, Base: final, Now: final, Seq: 1, Joined: true}},
		Up:      make([][]api.Message, 2), Down: make([][]api.Message, 2),
	}
	wantRun(t, w, l, want, said)
	// What comes of the first ones of them is what comes of each of them, one after the other.
	now := w
	for i, x := range l {
		wantRun(t, w, l[:i], now, said[:i])
		next, e := Do(now, x)
		if e == api.OK {
			now = next
		}
	}
	wantRun(t, w, nil, w, nil)
	wantRun(t, now, []api.Happening{}, want, nil)
}

func TestRunOfLongScripts(t *testing.T) {
	w := begun(t, "ab\n", 1)
	l := make([]api.Happening, api.MaxScript+1)
	for i := range l {
		l[i] = dropping(i % 2)
	}
	want, said := with(w, func(w *api.World) { w.Clients[0].Joined = false }), make([]api.Errno, api.MaxScript)
	for i := range said {
		if i%2 == 1 {
			said[i] = api.ErrWho
		}
	}
	for _, n := range []int{1, api.MaxScript - 1, api.MaxScript} {
		wantRun(t, w, l[:n], want, said[:n])
	}
	for _, script := range [][]api.Happening{l, make([]api.Happening, api.MaxScript+1), make([]api.Happening, 100*api.MaxScript)} {
		if got, said, e := Run(w, script); !isNothing(got) || said != nil || e != api.ErrMany {
			t.Fatalf("Run of %d = %v, %v, %d, want nothing, ErrMany", len(script), got, said, e)
		}
	}
}

// What has an error leaves nothing behind, not even what was done ahead of it.
func TestWhatHasAnErrorChangesNothing(t *testing.T) {
	w := after(t, begun(t, "ab\n", 2), doing(0, keeps(3)), serving(0), doing(1, puts("x"), keeps(3)))
	var l []api.Happening
	for _, x := range wrongOps {
		l = append(l, doing(0, x.o...), doing(1, x.o...))
	}
	l = append(l, doing(0), doing(1, keeps(3)), pasting(0, 9, ""), pasting(1, -1, ""), pasting(0, 0, strings.Repeat("a", api.MaxItems)), serving(0), joining(0), joining(1), api.Happening{}, dropping(2), hearing(-1))
	got, said, e := Run(w, l)
	if !alike(got, w) || e != api.OK || len(said) != len(l) || slices.Contains(said, api.OK) {
		t.Fatalf("Run(%v, %v) = %v, %v, %d", w, l, got, said, e)
	}
}

// The example of the document: who is first in the log stands first.
func TestWhoIsFirstInTheLogStandsFirst(t *testing.T) {
	for first := range 2 {
		w := after(t, begun(t, "ab\n", 2), doing(0, keeps(1), puts("x"), keeps(2)), doing(1, keeps(1), puts("y"), keeps(2)), serving(first), serving(1-first), hearing(0), hearing(0), hearing(1), hearing(1))
		want := items([2]string{"axyb\n", "ayxb\n"}[first])
		for _, d := range []api.Doc{w.S.Now, w.Clients[0].Now, w.Clients[1].Now} {
			if !slices.Equal(d, want) {
				t.Fatalf("%v, want %v", d, want)
			}
		}
	}
}

// Where a client was cut after the server took what it sent, it isn't taken twice.
func TestCutAfterItWasTaken(t *testing.T) {
	w := after(t, begun(t, "ab\n", 2), doing(0, puts("x"), keeps(3)), doing(0, puts("y"), keeps(4)), serving(0), dropping(0), joining(0))
	if !alikeQueues(w.Up[0], []api.Message{message(0, 0, 1, puts("x"), keeps(3))}) || !alikeQueues(w.Down[0], []api.Message{message(1, 0, 1, puts("x"), keeps(3))}) {
		t.Fatalf("on its way: %v, %v", w.Up[0], w.Down[0])
	}
	for _, l := range [][]api.Happening{{serving(0), hearing(0)}, {hearing(0), serving(0)}} {
		w := after(t, after(t, w, l...), serving(0), hearing(0), hearing(1), hearing(1))
		for _, d := range []api.Doc{w.S.Now, w.Clients[0].Now, w.Clients[1].Now} {
			if !slices.Equal(d, items("yxab\n")) || len(w.S.Log) != 2 {
				t.Fatalf("%v comes of it, want y, x, a, b", w)
			}
		}
	}
	if d, e := op.Apply(w.Clients[0].Base, w.Clients[0].Sent); e != api.OK || !slices.Equal(d, items("xab\n")) {
		t.Fatalf("what is Sent makes %v, %d", d, e)
	}
}
