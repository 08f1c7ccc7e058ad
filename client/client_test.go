package client

import (
	"math"
	"slices"
	"strings"
	"testing"

	"manyhands/api"
	"manyhands/op"
	"manyhands/ot"
	"manyhands/server"
)

func keep(n int) api.Part { return api.Part{Kind: api.Keep, N: n} }

func cut(n int) api.Part { return api.Part{Kind: api.Cut, N: n} }

func put(s string) api.Part { return api.Part{Kind: api.Put, Items: items(s)} }

// mark answers a Keep of n items that sets and clears these marks.
func mark(n, set, clear int) api.Part {
	return api.Part{Kind: api.Keep, N: n, Set: set, Clear: clear}
}

// lead answers a Keep of n items that makes the link s.
func lead(n int, s string) api.Part {
	return api.Part{Kind: api.Keep, N: n, To: true, Link: s}
}

// items answers those of s, without marks and links.
func items(s string) []api.Item {
	var l []api.Item
	for i := 0; i < len(s); i++ {
		l = append(l, api.Item{C: s[i]})
	}
	return l
}

// text answers a document of n items with all marks, links and ends of blocks in it.
func text(n int) api.Doc {
	l := []api.Item{{C: 'a', Marks: 1}, {C: 'b', Link: "http:&"}, {C: '\n', Marks: 3}, {C: 'c', Marks: 2, Link: "http:x"}, {C: '\n'}}
	var d api.Doc
	for i := range n - 1 {
		d = append(d, l[i%len(l)])
	}
	return append(d, api.Item{C: '\n', Marks: 2})
}

// mixed answers an operation of the most parts there may be, for the most items.
func mixed() api.Op {
	var o api.Op
	for i := range api.MaxParts {
		o = append(o, mark(api.MaxItems/api.MaxParts, 1+i%2, 0))
	}
	return o
}

// splitting answers an operation that makes one part more of mixed, whichever of the two is done first.
func splitting() api.Op {
	return api.Op{keep(1), cut(1), put("b"), keep(api.MaxItems - 2)}
}

// message answers entry rev of the log, which is operation seq of the client.
func message(rev, client, seq int, parts ...api.Part) api.Message {
	return api.Message{Rev: rev, E: api.Entry{Client: client, Seq: seq, O: parts}}
}

// made answers a client that has d, and did l: one operation that is Sent, and one that is Held, or fewer; it needn't be one that may be.
func made(rev int, d api.Doc, seq int, l ...api.Op) api.Client {
	c := api.Client{Rev: rev, Base: d, Now: d, Seq: seq, Joined: true}
	for i, o := range l {
		if i == 0 {
			c.Sent = o
		} else {
			c.Held = o
		}
		if now, e := op.Apply(c.Now, o); e == api.OK {
			c.Now = now
		}
	}
	return c
}

// alikeOps holds operations against each other without the program's Same.
func alikeOps(a, b api.Op) bool {
	return slices.EqualFunc(a, b, func(p, q api.Part) bool {
		return p.Kind == q.Kind && p.N == q.N && p.Set == q.Set && p.Clear == q.Clear && p.To == q.To && p.Link == q.Link && slices.Equal(p.Items, q.Items)
	})
}

// alike holds clients against each other without the program's Same.
func alike(a, b api.Client) bool {
	return a.Rev == b.Rev && a.Seq == b.Seq && a.Joined == b.Joined && slices.Equal(a.Base, b.Base) && slices.Equal(a.Now, b.Now) && alikeOps(a.Sent, b.Sent) && alikeOps(a.Held, b.Held)
}

// isNothing answers whether no field of c has anything.
func isNothing(c api.Client) bool {
	return c.Rev == 0 && c.Base == nil && c.Now == nil && c.Seq == 0 && c.Sent == nil && c.Held == nil && !c.Joined
}

func wantCheck(t *testing.T, c api.Client, want api.Errno) {
	t.Helper()
	if e := Check(c); e != want {
		t.Fatalf("Check(%v) = %d, want %d", c, e, want)
	}
}

// wantDo asks for want, be c Joined or not, which is as it was.
func wantDo(t *testing.T, c api.Client, o api.Op, want api.Client, isSent bool) {
	t.Helper()
	for _, c.Joined = range []bool{false, true} {
		want.Joined = c.Joined
		if got, sent, e := Do(c, o); !alike(got, want) || sent != isSent || e != api.OK {
			t.Fatalf("Do(%v, %v) = %v, %t, %d, want %v, %t, OK", c, o, got, sent, e, want, isSent)
		}
	}
	wantCheck(t, want, api.OK)
}

func wantNoDo(t *testing.T, c api.Client, o api.Op, want api.Errno) {
	t.Helper()
	for _, c.Joined = range []bool{false, true} {
		if got, sent, e := Do(c, o); !isNothing(got) || sent || e != want {
			t.Fatalf("Do(%v, %v) = %v, %t, %d, want nothing, %d", c, o, got, sent, e, want)
		}
	}
}

// wantHear asks for want, be c Joined or not, which is as it was.
func wantHear(t *testing.T, c api.Client, who int, m api.Message, want api.Client, isSent bool) {
	t.Helper()
	for _, c.Joined = range []bool{false, true} {
		want.Joined = c.Joined
		if got, sent, e := Hear(c, who, m); !alike(got, want) || sent != isSent || e != api.OK {
			t.Fatalf("Hear(%v, %d, %v) = %v, %t, %d, want %v, %t, OK", c, who, m, got, sent, e, want, isSent)
		}
	}
	wantCheck(t, want, api.OK)
}

func wantNoHear(t *testing.T, c api.Client, who int, m api.Message, want api.Errno) {
	t.Helper()
	for _, c.Joined = range []bool{false, true} {
		if got, sent, e := Hear(c, who, m); !isNothing(got) || sent || e != want {
			t.Fatalf("Hear(%v, %d, %v) = %v, %t, %d, want nothing, %d", c, who, m, got, sent, e, want)
		}
	}
}

// Documents that are none, and how that is told.
var wrongDocs = []struct {
	d api.Doc
	e api.Errno
}{
	{nil, api.ErrForm},
	{api.Doc{}, api.ErrForm},
	{api.Doc{{C: 'a'}}, api.ErrForm},
	{api.Doc{{C: 'a'}, {C: '\n', Link: "http:x"}}, api.ErrForm},
	{api.Doc{{C: 'a', Link: "javascript:x"}, {C: '\n'}}, api.ErrForm},
	{api.Doc{{C: 9}, {C: '\n'}}, api.ErrText},
	{api.Doc{{C: 127}}, api.ErrText},
	{api.Doc{{C: '\n', Marks: 4}}, api.ErrRange},
	{api.Doc{{C: '\n', Marks: math.MinInt}}, api.ErrRange},
	{text(api.MaxItems + 1), api.ErrMany},
	{make(api.Doc, api.MaxItems+1), api.ErrMany},
}

// Operations that are none, but have parts, and how that is told.
var wrongOps = []struct {
	o api.Op
	e api.Errno
}{
	{make(api.Op, api.MaxParts+1), api.ErrMany},
	{api.Op{{}}, api.ErrForm},
	{api.Op{{Kind: math.MinInt, N: math.MinInt}}, api.ErrForm},
	{api.Op{keep(0)}, api.ErrRange},
	{api.Op{keep(math.MaxInt)}, api.ErrRange},
	{api.Op{mark(1, 1, 1)}, api.ErrRange},
	{api.Op{lead(1, "javascript:x")}, api.ErrForm},
	{api.Op{cut(1)}, api.ErrForm},
	{api.Op{{Kind: api.Put}, keep(1)}, api.ErrMany},
	{api.Op{put("\t"), keep(1)}, api.ErrText},
	{api.Op{keep(api.MaxItems), keep(1)}, api.ErrMany},
}

// Numbers that there are no revisions, and none of a client's operations of.
var wrongRevs = []int{-1, api.MaxLog + 1, math.MinInt, math.MaxInt}

var wrongSeqs = []int{-1, api.MaxSeq + 1, math.MinInt, math.MaxInt}

// wrongClients answers clients that are none, and how that is told.
func wrongClients() map[*api.Client]api.Errno {
	d, x := text(3), api.Op{keep(1), put("x"), keep(2)}
	l := map[*api.Client]api.Errno{}
	add := func(c api.Client, e api.Errno) { l[&c] = e }
	for _, rev := range wrongRevs {
		add(made(rev, d, 1, x), api.ErrRange)
	}
	for _, seq := range wrongSeqs {
		add(made(1, d, seq, x), api.ErrRange)
	}
	for _, w := range wrongDocs {
		add(made(1, w.d, 1), w.e)
	}
	add(made(1, d, 1, nil, x), api.ErrForm)
	add(made(1, d, 0, x), api.ErrForm)
	add(made(1, d, 1, api.Op{keep(2)}), api.ErrBase)
	add(made(1, d, 1, x, x), api.ErrBase)
	other := made(1, d, 1, x)
	other.Now = d
	add(other, api.ErrForm)
	return l
}

func TestNew(t *testing.T) {
	for n := 1; n <= api.MaxItems; n++ {
		d := text(n)
		c, e := New(d)
		if !alike(c, api.Client{Base: d, Now: d, Joined: true}) || e != api.OK {
			t.Fatalf("New(%v) = %v, %d", d, c, e)
		}
		wantCheck(t, c, api.OK)
	}
	for _, w := range wrongDocs {
		if c, e := New(w.d); !isNothing(c) || e != w.e {
			t.Fatalf("New(%v) = %v, %d, want nothing, %d", w.d, c, e, w.e)
		}
	}
}

func TestCheckOfClients(t *testing.T) {
	d, x, y := text(3), api.Op{keep(1), put("x"), keep(2)}, api.Op{cut(1), mark(3, api.Bold, 0)}
	for _, rev := range []int{0, 1, api.MaxLog - 1, api.MaxLog} {
		for _, seq := range []int{1, 2, api.MaxSeq - 1, api.MaxSeq} {
			for _, l := range [][]api.Op{{}, {x}, {x, y}} {
				c := made(rev, d, seq, l...)
				wantCheck(t, c, api.OK)
				c.Joined = false
				wantCheck(t, c, api.OK)
			}
		}
		wantCheck(t, made(rev, d, 0), api.OK)
		wantCheck(t, made(rev, d, 0, api.Op{}, api.Op{}), api.OK)
		wantCheck(t, made(rev, d, 1, x, api.Op{}), api.OK)
	}
	wantCheck(t, api.Client{}, api.ErrForm)
	for c, e := range wrongClients() {
		wantCheck(t, *c, e)
	}
}

func TestCheckTellsTheFirstError(t *testing.T) {
	d, x, base := text(3), api.Op{keep(1), put("x"), keep(2)}, api.Op{keep(5)}
	for _, w := range wrongDocs {
		for i, rev := range wrongRevs {
			wantCheck(t, made(rev, w.d, 0, nil, base), api.ErrRange)
			wantCheck(t, made(0, w.d, wrongSeqs[i], nil, base), api.ErrRange)
			wantCheck(t, made(rev, w.d, wrongSeqs[i], base), api.ErrRange)
		}
		wantCheck(t, made(0, w.d, 1, nil, base), w.e)
		wantCheck(t, made(0, w.d, 0, base), w.e)
		wantCheck(t, made(0, w.d, 1, base), w.e)
		wantCheck(t, api.Client{Base: w.d, Now: d}, w.e)
		wantCheck(t, api.Client{Base: d, Now: w.d}, api.ErrForm)
	}
	for _, w := range wrongOps {
		// What is Held without something Sent, or Sent as none of its own, is told ahead of what it is.
		wantCheck(t, made(0, d, 1, nil, w.o), api.ErrForm)
		wantCheck(t, made(0, d, 0, w.o), api.ErrForm)
		wantCheck(t, made(0, d, 0, w.o, base), api.ErrForm)
		wantCheck(t, made(0, d, 1, w.o), w.e)
		wantCheck(t, made(0, d, 1, x, w.o), w.e)
		wantCheck(t, made(0, d, 1, w.o, base), w.e)
		wantCheck(t, made(0, d, 1, base, w.o), api.ErrBase)
	}
	grow := api.Op{put(strings.Repeat("a", api.MaxItems-2)), keep(3)}
	fill := api.Op{put(strings.Repeat("a", api.MaxItems-3)), keep(3)}
	wantCheck(t, made(0, d, 1, grow), api.ErrMany)
	wantCheck(t, made(0, d, 1, grow, base), api.ErrMany)
	wantCheck(t, made(0, d, 1, base, grow), api.ErrBase)
	wantCheck(t, made(0, d, 1, fill), api.OK)
	wantCheck(t, made(0, d, 1, fill, api.Op{put("a"), keep(api.MaxItems)}), api.ErrMany)
	wantCheck(t, made(0, d, 1, fill, api.Op{cut(1), put("a"), keep(api.MaxItems - 1)}), api.OK)
	// Held is for what Sent makes, not for Base.
	wantCheck(t, made(0, d, 1, x, api.Op{keep(3)}), api.ErrBase)
}

func TestCheckOfNow(t *testing.T) {
	for _, c := range []api.Client{made(0, text(4), 0), made(0, text(4), 1, api.Op{keep(1), put("xy"), mark(3, api.Bold, 0)}), made(0, text(4), 1, api.Op{put("x"), keep(4)}, api.Op{keep(2), cut(1), lead(2, "http:z")})} {
		wantCheck(t, c, api.OK)
		with := func(now api.Doc) {
			r := c
			r.Now = now
			wantCheck(t, r, api.ErrForm)
		}
		for i, x := range c.Now {
			for _, y := range []api.Item{{C: x.C + 1, Marks: x.Marks, Link: x.Link}, {C: x.C, Marks: x.Marks ^ 1, Link: x.Link}, {C: x.C, Marks: x.Marks, Link: "http:y"}} {
				now := slices.Clone(c.Now)
				now[i] = y
				with(now)
			}
			with(c.Now[:i])
			with(c.Now[i+1:])
		}
		with(append(slices.Clone(c.Now), api.Item{C: '\n'}))
		if len(c.Sent) > 0 {
			with(c.Base)
		}
	}
}

func TestSameLooksAtAllFields(t *testing.T) {
	d, x, y := text(3), api.Op{keep(3)}, api.Op{put("x"), keep(3)}
	others := []api.Client{
		{Rev: 1, Base: d, Now: d, Seq: 2, Sent: x, Held: y, Joined: true},
		{Rev: 2, Base: d, Now: d, Seq: 2, Sent: x, Held: y, Joined: true},
		{Rev: 1, Base: text(2), Now: d, Seq: 2, Sent: x, Held: y, Joined: true},
		{Rev: 1, Base: d, Now: text(2), Seq: 2, Sent: x, Held: y, Joined: true},
		{Rev: 1, Base: text(2), Now: text(2), Seq: 2, Sent: x, Held: y, Joined: true},
		{Rev: 1, Base: d, Now: d, Seq: 1, Sent: x, Held: y, Joined: true},
		{Rev: 2, Base: d, Now: d, Seq: 1, Sent: x, Held: y, Joined: true},
		{Rev: 1, Base: d, Now: d, Seq: 2, Sent: y, Held: y, Joined: true},
		{Rev: 1, Base: d, Now: d, Seq: 2, Sent: y, Held: x, Joined: true},
		{Rev: 1, Base: d, Now: d, Seq: 2, Sent: x, Held: x, Joined: true},
		{Rev: 1, Base: d, Now: d, Seq: 2, Sent: x, Joined: true},
		{Rev: 1, Base: d, Now: d, Seq: 2, Held: y, Joined: true},
		{Rev: 1, Base: d, Now: d, Seq: 2, Sent: x, Held: api.Op{put("y"), keep(3)}, Joined: true},
		{Rev: 1, Base: d, Now: d, Seq: 2, Sent: x, Held: y},
		{Rev: 1}, {Seq: 1}, {Joined: true}, {Base: d}, {Now: d}, {Sent: x}, {Held: x}, {},
		{Rev: math.MinInt, Base: api.Doc{{C: 255, Marks: -1, Link: "javascript:x"}}, Seq: math.MaxInt, Held: api.Op{{Kind: -1}}},
		{Rev: math.MinInt, Base: api.Doc{{C: 255, Marks: -1, Link: "javascript:y"}}, Seq: math.MaxInt, Held: api.Op{{Kind: -1}}},
	}
	for i, a := range others {
		for k, b := range others {
			if Same(a, Copy(b)) != (i == k) {
				t.Fatalf("Same(%v, %v) = %t", a, b, i != k)
			}
		}
	}
	if !Same(api.Client{}, api.Client{Base: api.Doc{}, Now: api.Doc{}, Sent: api.Op{}, Held: api.Op{}}) {
		t.Fatal("lists that have nothing in them aren't told to be the same")
	}
}

func TestDo(t *testing.T) {
	d := api.Doc(items("ab\n"))
	x, y, z := api.Op{keep(1), put("x"), keep(2)}, api.Op{keep(2), put("y"), keep(2)}, api.Op{cut(1), keep(4)}
	c := made(7, d, 4)
	first := api.Client{Rev: 7, Base: d, Now: items("axb\n"), Seq: 5, Sent: x}
	second := api.Client{Rev: 7, Base: d, Now: items("axyb\n"), Seq: 5, Sent: x, Held: y}
	third := api.Client{Rev: 7, Base: d, Now: items("xyb\n"), Seq: 5, Sent: x, Held: api.Op{cut(1), keep(1), put("y"), keep(2)}}
	wantDo(t, c, x, first, true)
	wantDo(t, first, y, second, false)
	wantDo(t, second, z, third, false)
	// What is Sent, or the first one Held, stands there as it was done, tidy or not; what is joined is tidy.
	loose := api.Op{keep(1), keep(1), cut(1), put("q"), put("r"), keep(1)}
	wantDo(t, c, api.Op{cut(1), put("q"), put("r"), keep(1), keep(1)}, api.Client{Rev: 7, Base: d, Now: items("qrb\n"), Seq: 5, Sent: api.Op{cut(1), put("q"), put("r"), keep(1), keep(1)}}, true)
	wantDo(t, first, loose, api.Client{Rev: 7, Base: d, Now: items("axqr\n"), Seq: 5, Sent: x, Held: loose}, false)
	held, _, _ := Do(first, loose)
	wantDo(t, held, api.Op{keep(5)}, api.Client{Rev: 7, Base: d, Now: items("axqr\n"), Seq: 5, Sent: x, Held: api.Op{keep(2), put("qr"), cut(1), keep(1)}}, false)
	// One that does nothing is sent all the same.
	wantDo(t, c, api.Op{keep(3)}, api.Client{Rev: 7, Base: d, Now: d, Seq: 5, Sent: api.Op{keep(3)}}, true)
}

func TestDoTellsWhatIsWrongWithTheClientFirst(t *testing.T) {
	for c, e := range wrongClients() {
		for _, w := range wrongOps {
			wantNoDo(t, *c, w.o, e)
		}
		wantNoDo(t, *c, nil, e)
		wantNoDo(t, *c, api.Op{keep(max(1, len(c.Now)))}, e)
	}
}

func TestDoOfWrongOperations(t *testing.T) {
	d, x := text(3), api.Op{keep(1), put("x"), keep(2)}
	for _, seq := range []int{1, api.MaxSeq} {
		for i, c := range []api.Client{made(0, d, seq), made(0, d, seq, x), made(0, d, seq, x, api.Op{put("y"), keep(4)})} {
			// What doing it tells comes ahead of what there is no room for.
			for _, w := range wrongOps {
				wantNoDo(t, c, w.o, w.e)
			}
			wantNoDo(t, c, nil, api.ErrMany)
			wantNoDo(t, c, api.Op{}, api.ErrMany)
			for n := 1; n <= api.MaxItems; n++ {
				if n != 3+i {
					wantNoDo(t, c, api.Op{keep(n)}, api.ErrBase)
				}
			}
			fill := strings.Repeat("a", api.MaxItems-3-i)
			wantNoDo(t, c, api.Op{put(fill + "a"), keep(3 + i)}, api.ErrMany)
			if i > 0 || seq == 1 {
				if _, _, e := Do(c, api.Op{put(fill), keep(3 + i)}); e != api.OK {
					t.Fatalf("%v can't be filled: %d", c, e)
				}
			}
		}
	}
}

func TestDoOfTheLastSeq(t *testing.T) {
	d, x := text(3), api.Op{keep(1), put("x"), keep(2)}
	for _, seq := range []int{0, 1, api.MaxSeq - 1} {
		wantDo(t, made(0, d, seq), x, made(0, d, seq+1, x), true)
	}
	wantNoDo(t, made(0, d, api.MaxSeq), x, api.ErrMany)
	// Where something is on its way, the next one needs no number yet.
	last := made(0, d, api.MaxSeq, x)
	wantDo(t, last, api.Op{keep(4)}, made(0, d, api.MaxSeq, x, api.Op{keep(4)}), false)
	wantDo(t, made(0, d, api.MaxSeq, x, api.Op{keep(4)}), api.Op{cut(1), keep(3)}, made(0, d, api.MaxSeq, x, api.Op{cut(1), keep(3)}), false)
}

func TestDoTellsWhatJoiningTells(t *testing.T) {
	d, idle := text(api.MaxItems), api.Op{keep(api.MaxItems)}
	for _, l := range [][2]api.Op{{mixed(), splitting()}, {splitting(), mixed()}} {
		_, e := ot.Join(l[0], l[1])
		if e != api.ErrMany {
			t.Fatalf("Join(%v, %v) tells %d", l[0], l[1], e)
		}
		wantNoDo(t, made(0, d, 1, idle, l[0]), l[1], e)
		wantDo(t, made(0, d, 1, l[0]), l[1], made(0, d, 1, l[0], l[1]), false)
	}
}

func TestHearOfARefusal(t *testing.T) {
	d, x, y := text(3), api.Op{keep(1), put("x"), keep(2)}, api.Op{cut(1), keep(3)}
	revs := []int{0, 5, 6, 7, -1, math.MinInt, math.MaxInt}
	for _, rev := range revs {
		for _, l := range [][]api.Op{{x}, {x, y}} {
			c := made(5, d, 4, l...)
			for _, who := range []int{0, 3, -1, math.MaxInt} {
				wantHear(t, c, who, message(rev, who, 4), made(5, d, 4), false)
				wantHear(t, made(api.MaxLog, d, 4, l...), who, message(rev, who, 4), made(api.MaxLog, d, 4), false)
				// Another one's, or another one of its own.
				for _, m := range []api.Message{message(rev, who+1, 4), message(rev, who, 3), message(rev, who, 5), message(rev, 4, who)} {
					wantHear(t, c, who, m, c, false)
				}
			}
			wantHear(t, c, 1, api.Message{Rev: rev, E: api.Entry{Client: 1, Seq: 4, O: api.Op{}}}, made(5, d, 4), false)
		}
		// Nothing is on its way.
		wantHear(t, made(5, d, 4), 1, message(rev, 1, 4), made(5, d, 4), false)
		wantHear(t, made(5, d, 0), 0, message(rev, 0, 0), made(5, d, 0), false)
	}
}

func TestHearTellsWhatIsWrongFirst(t *testing.T) {
	d, x := text(3), api.Op{keep(1), put("x"), keep(2)}
	for c, e := range wrongClients() {
		for _, m := range []api.Message{{}, message(2, 0, 1), message(2, 0, 1, x...), message(2, 1, 1, cut(1)), message(9, 1, 1, keep(3))} {
			wantNoHear(t, *c, 0, m, e)
		}
	}
	for _, w := range wrongOps {
		for _, c := range []api.Client{made(5, d, 1), made(5, d, 1, x), made(5, d, 1, x, api.Op{keep(4)}), made(api.MaxLog, d, 1, x)} {
			// Ahead of asking which revision it is of, and whose it is.
			for _, rev := range []int{c.Rev + 1, c.Rev, 0, -1, math.MaxInt} {
				wantNoHear(t, c, 0, message(rev, 0, 1, w.o...), w.e)
				wantNoHear(t, c, 0, message(rev, 1, 1, w.o...), w.e)
			}
		}
	}
}

func TestHearOfOtherRevisions(t *testing.T) {
	d, x, y := text(3), api.Op{keep(1), put("x"), keep(2)}, api.Op{cut(1), keep(3)}
	for _, l := range [][]api.Op{{}, {x}, {x, y}} {
		for rev := range api.MaxLog + 1 {
			c := made(rev, d, 1, l...)
			for _, heard := range []int{math.MinInt, -1, 0, 1, rev - 1, rev, rev + 1, rev + 2, api.MaxLog, api.MaxLog + 1, math.MaxInt} {
				if heard == rev+1 && rev < api.MaxLog {
					continue
				}
				for who := range 2 {
					wantHear(t, c, who, message(heard, 0, 1, x...), c, false)
					wantHear(t, c, who, message(heard, 0, 1, keep(7)), c, false)
				}
			}
		}
		c := made(api.MaxLog-1, d, 1, l...)
		for who := range 2 {
			if got, _, e := Hear(c, who, message(api.MaxLog, 0, 1, x...)); got.Rev != api.MaxLog || e != api.OK {
				t.Fatalf("the last revision isn't heard: %v, %d", got, e)
			}
		}
	}
}

func TestHearOfAnother(t *testing.T) {
	d := api.Doc(items("ab\n"))
	x, y, z := api.Op{keep(1), put("x"), keep(2)}, api.Op{keep(2), put("y"), keep(2)}, api.Op{keep(1), put("z"), cut(1), keep(1)}
	base := api.Doc(items("az\n"))
	for _, m := range []api.Message{message(1, 1, 1, z...), message(1, 0, 2, z...), message(1, 1, 2, z...), message(1, -1, 0, z...), message(1, math.MaxInt, math.MinInt, z...)} {
		wantHear(t, made(0, d, 1), 0, m, made(1, base, 1), false)
		// Who is first in the log stands first.
		wantHear(t, made(0, d, 1, x), 0, m, api.Client{Rev: 1, Base: base, Now: items("azx\n"), Seq: 1, Sent: api.Op{keep(2), put("x"), keep(1)}}, false)
		wantHear(t, made(0, d, 1, x, y), 0, m, api.Client{Rev: 1, Base: base, Now: items("azxy\n"), Seq: 1, Sent: api.Op{keep(2), put("x"), keep(1)}, Held: api.Op{keep(3), put("y"), keep(1)}}, false)
	}
	// Its own number, where nothing is on its way: it gave that up, and it is done all the same.
	wantHear(t, made(0, d, 1), 0, message(1, 0, 1, z...), made(1, base, 1), false)
	wantHear(t, made(0, d, 0), 0, message(1, 0, 0, z...), made(1, base, 0), false)
	// What was Held is turned behind what the other one becomes behind Sent: what Sent cuts isn't there for it any more.
	c := made(0, d, 1, api.Op{cut(2), keep(1)}, api.Op{put("q"), keep(1)})
	wantHear(t, c, 0, message(1, 1, 1, keep(1), put("z"), mark(2, api.Bold, 0)), api.Client{Rev: 1, Base: api.Doc{{C: 'a'}, {C: 'z'}, {C: 'b', Marks: 1}, {C: '\n', Marks: 1}},
		Now: api.Doc{{C: 'z'}, {C: 'q'}, {C: '\n', Marks: 1}}, Seq: 1, Sent: api.Op{cut(1), keep(1), cut(1), keep(1)}, Held: api.Op{keep(1), put("q"), keep(1)}}, false)
}

// Of marks and links the one that is heard counts.
func TestHearOfMarks(t *testing.T) {
	d := api.Doc(items("ab\n"))
	heard := api.Op{{Kind: api.Keep, N: 1, Set: api.Bold, To: true, Link: "http:x"}, keep(2)}
	sent := api.Op{{Kind: api.Keep, N: 2, Set: api.Slant, Clear: api.Bold, To: true, Link: "http:y"}, keep(1)}
	held := api.Op{mark(3, 0, api.Bold)}
	want := api.Client{Rev: 1, Base: api.Doc{{C: 'a', Marks: 1, Link: "http:x"}, {C: 'b'}, {C: '\n'}}, Now: api.Doc{{C: 'a', Marks: 3, Link: "http:x"}, {C: 'b', Marks: 2, Link: "http:y"}, {C: '\n'}}, Seq: 1}
	want.Sent = api.Op{mark(1, api.Slant, 0), {Kind: api.Keep, N: 1, Set: api.Slant, Clear: api.Bold, To: true, Link: "http:y"}, keep(1)}
	wantHear(t, made(0, d, 1, sent), 0, message(1, 1, 1, heard...), want, false)
	want.Held = api.Op{keep(1), mark(2, 0, api.Bold)}
	wantHear(t, made(0, d, 1, sent, held), 0, message(1, 1, 1, heard...), want, false)
}

func TestHearOfAnotherThatDoesNotFit(t *testing.T) {
	d, x, y := text(3), api.Op{keep(1), put("x"), keep(2)}, api.Op{cut(1), keep(3)}
	grow := put(strings.Repeat("a", api.MaxItems-2))
	// Its own number, where nothing is on its way, is another one's, too.
	idle := made(5, d, 1)
	wantHear(t, idle, 0, message(6, 0, 1, keep(2)), idle, false)
	wantHear(t, idle, 0, message(6, 0, 1, grow, keep(3)), idle, false)
	for _, c := range []api.Client{idle, made(5, d, 1, x), made(5, d, 1, x, y)} {
		for n := 1; n <= api.MaxItems; n++ {
			if n != 3 {
				wantHear(t, c, 0, message(6, 1, 1, keep(n)), c, false)
			}
		}
		wantHear(t, c, 0, message(6, 1, 1, grow, keep(3)), c, false)
	}
}

func TestHearGivesUpWhatCannotBeTurned(t *testing.T) {
	d, idle := text(api.MaxItems), api.Op{keep(api.MaxItems)}
	base, _ := op.Apply(d, splitting())
	m := message(1, 1, 1, splitting()...)
	want := made(1, base, 3)
	wantHear(t, made(0, d, 3, mixed()), 0, m, want, false)
	wantHear(t, made(0, d, 3, mixed(), idle), 0, m, want, false)
	wantHear(t, made(0, d, 3, idle, mixed()), 0, m, want, false)
	// What it hears becomes one that may not be, too.
	base, _ = op.Apply(d, mixed())
	m, want = message(1, 1, 1, mixed()...), made(1, base, 3)
	wantHear(t, made(0, d, 3, splitting()), 0, m, want, false)
	wantHear(t, made(0, d, 3, idle, splitting()), 0, m, want, false)
	wantHear(t, made(0, d, 3, idle, idle), 0, m, made(1, base, 3, idle, idle), false)
}

func TestHearGivesUpWhatCannotBeDone(t *testing.T) {
	d := text(1)
	half := strings.Repeat("a", api.MaxItems/2)
	quarter := half[:api.MaxItems/4]
	m := message(1, 1, 1, put(half), keep(1))
	base, _ := op.Apply(d, m.E.O)
	want := made(1, base, 3)
	for _, l := range [][]api.Op{
		{{put(half), keep(1)}},
		{{put(half), keep(1)}, {keep(api.MaxItems/2 + 1)}},
		// Too many in between, though not at the end.
		{{put(half), keep(1)}, {cut(api.MaxItems / 2), keep(1)}},
		{{put(quarter), keep(1)}, {put(quarter), keep(api.MaxItems/4 + 1)}},
	} {
		c := made(0, d, 3, l...)
		wantCheck(t, c, api.OK)
		wantHear(t, c, 0, m, want, false)
	}
	// As many as there may be.
	sent, held := api.Op{keep(api.MaxItems / 2), put(quarter), keep(1)}, api.Op{keep(api.MaxItems / 2), put(quarter[1:]), keep(api.MaxItems/4 + 1)}
	wantHear(t, made(0, d, 3, api.Op{put(quarter), keep(1)}, api.Op{put(quarter[1:]), keep(api.MaxItems/4 + 1)}), 0, m, made(1, base, 3, sent, held), false)
}

func TestHearOfItsOwn(t *testing.T) {
	d := api.Doc(items("ab\n"))
	x, y := api.Op{keep(1), put("x"), keep(2)}, api.Op{keep(2), put("y"), keep(2)}
	base := api.Doc(items("axb\n"))
	for _, seq := range []int{1, 2, api.MaxSeq - 1} {
		for _, who := range []int{0, 3, -1, math.MaxInt} {
			m := message(6, who, seq, x...)
			wantHear(t, made(5, d, seq, x), who, m, made(6, base, seq), false)
			wantHear(t, made(5, d, seq, x, y), who, m, made(6, base, seq+1, y), true)
		}
	}
	// The last one needs no further number, but what waits behind it would.
	m := message(6, 0, api.MaxSeq, x...)
	wantHear(t, made(5, d, api.MaxSeq, x), 0, m, made(6, base, api.MaxSeq), false)
	wantHear(t, made(5, d, api.MaxSeq, x, y), 0, m, made(6, base, api.MaxSeq), false)
	// What was Held stands as it was, tidy or not.
	loose := api.Op{cut(1), put("q"), keep(1), keep(2)}
	wantHear(t, made(5, d, 1, x, loose), 0, message(6, 0, 1, x...), made(6, base, 2, loose), true)
}

// What comes as its own may be another one than what was Sent: that which comes is done.
func TestHearOfItsOwnThatIsAnother(t *testing.T) {
	d := api.Doc(items("ab\n"))
	x, y := api.Op{keep(1), put("x"), keep(2)}, api.Op{keep(2), put("y"), keep(2)}
	z := api.Op{put("z"), keep(3)}
	base := api.Doc(items("zab\n"))
	wantHear(t, made(5, d, 1, x), 0, message(6, 0, 1, z...), made(6, base, 1), false)
	wantHear(t, made(5, d, 1, x, y), 0, message(6, 0, 1, z...), api.Client{Rev: 6, Base: base, Now: items("zayb\n"), Seq: 2, Sent: y}, true)
	// What waits isn't for as many items: it is given up.
	for _, o := range []api.Op{{keep(3)}, {cut(1), keep(2)}, {put("zz"), keep(3)}} {
		base, _ := op.Apply(d, o)
		wantHear(t, made(5, d, 1, x, y), 0, message(6, 0, 1, o...), made(6, base, 1), false)
		wantHear(t, made(5, d, api.MaxSeq, x, y), 0, message(6, 0, api.MaxSeq, o...), made(6, base, api.MaxSeq), false)
	}
	// It can't be done at all.
	for _, c := range []api.Client{made(5, d, 1, x), made(5, d, 1, x, y)} {
		wantNoHear(t, c, 0, message(6, 0, 1, keep(2)), api.ErrBase)
		wantNoHear(t, c, 0, message(6, 0, 1, keep(4)), api.ErrBase)
		wantNoHear(t, c, 0, message(6, 0, 1, put(strings.Repeat("a", api.MaxItems-2)), keep(3)), api.ErrMany)
	}
	wantNoHear(t, made(5, d, api.MaxSeq, x, y), 0, message(6, 0, api.MaxSeq, keep(4)), api.ErrBase)
}

// All of these may stand in an operation, and each kind in several shapes.
var fair = []api.Part{
	{Kind: api.Keep, N: 1},
	{Kind: api.Keep, N: 2},
	{Kind: api.Keep, N: 1, Set: api.Bold, To: true, Link: "http:x"},
	{Kind: api.Keep, N: 2, Set: api.Slant, Clear: api.Bold, To: true},
	{Kind: api.Put, Items: []api.Item{{C: 'x'}}},
	{Kind: api.Put, Items: []api.Item{{C: 'y', Marks: 3, Link: "http:y"}, {C: '\n', Marks: 1}}},
	{Kind: api.Cut, N: 1},
}

// everyOp answers all operations of at most n of the fair parts that are for so many items.
func everyOp(n, from int) []api.Op {
	lists := []api.Op{nil}
	var l []api.Op
	for range n {
		var longer []api.Op
		for _, o := range lists {
			for _, p := range fair {
				longer = append(longer, append(slices.Clone(o), p))
			}
		}
		lists = longer
		for _, o := range lists {
			if long, _ := op.Long(o); long == from && op.Check(o) == api.OK {
				l = append(l, o)
			}
		}
	}
	return l
}

// shown answers c once it heard o, which nothing keeps from being turned and done: o is turned behind all that c did, and done to Now, which is another way to it than the program's.
func shown(c api.Client, o api.Op) api.Client {
	c.Rev++
	c.Base, _ = op.Apply(c.Base, o)
	if len(c.Sent) > 0 {
		o, c.Sent, _ = ot.Turn(o, c.Sent)
	}
	if len(c.Held) > 0 {
		o, c.Held, _ = ot.Turn(o, c.Held)
	}
	c.Now, _ = op.Apply(c.Now, o)
	return c
}

// All short operations, heard by clients that did two others, or one, or none.
func TestEveryThreeShortOperations(t *testing.T) {
	byLength := [12][]api.Op{}
	for n := range byLength {
		byLength[n] = everyOp(2, n)
	}
	heard := everyOp(3, 2)
	for _, a := range append([]api.Op{nil}, byLength[2]...) {
		c, _ := New(text(2))
		if a != nil {
			c, _, _ = Do(c, a)
		}
		wantAllHeard(t, c, heard)
		if a == nil {
			continue
		}
		for _, b := range byLength[len(c.Now)] {
			two, sent, e := Do(c, b)
			if sent || e != api.OK || !alikeOps(two.Held, b) {
				t.Fatalf("Do(%v, %v) = %v, %t, %d", c, b, two, sent, e)
			}
			wantAllHeard(t, two, heard)
		}
	}
}

func wantAllHeard(t *testing.T, c api.Client, heard []api.Op) {
	t.Helper()
	for _, o := range heard {
		wantHear(t, c, 0, message(c.Rev+1, 1, 1, o...), shown(c, o), false)
	}
}

// seeded hands on numbers below n, one after the other, always the same ones.
func seeded(seed uint32) func(n int) int {
	return func(n int) int {
		seed = seed*1664525 + 1013904223
		return int(seed>>16) % n
	}
}

// someOp answers an operation for n items.
func someOp(below func(n int) int, n int) api.Op {
	var o api.Op
	long := 1 + below(20)
	for n > 1 && len(o) < api.MaxParts-1 {
		p := somePart(below, min(n-1, 1+below(long)))
		o = append(o, p)
		n -= p.N
	}
	return append(o, keep(n))
}

// somePart answers a Keep or a Cut of n items, or a Put of some.
func somePart(below func(n int) int, n int) api.Part {
	switch below(6) {
	case 0:
		return api.Part{Kind: api.Put, Items: text(1 + below(4))}
	case 1:
		return cut(min(n, 1+below(4)))
	case 2:
		return keep(n)
	}
	set := below(4)
	p := mark(n, set, below(4)&^set)
	if below(2) == 0 {
		p.To, p.Link = true, [3]string{"", "http:x", "http:y"}[below(3)]
	}
	return p
}

// room is a server, some clients, and what is on its way between them; counts is how often something came to pass.
type room struct {
	s        api.Server
	clients  [api.MaxClients]api.Client
	up, down [api.MaxClients][]api.Message
	counts   struct{ own, others, refused, gaveUp, held int }
}

func (r *room) goUp(who int) {
	c := r.clients[who]
	r.up[who] = append(r.up[who], message(c.Rev, who, c.Seq, c.Sent...))
}

func (r *room) do(t *testing.T, who int, o api.Op) {
	t.Helper()
	c := r.clients[who]
	got, sent, e := Do(c, o)
	if e != api.OK {
		return
	}
	if want, _ := op.Apply(c.Now, o); !slices.Equal(got.Now, want) || Check(got) != api.OK {
		t.Fatalf("Do(%v, %v) = %v", c, o, got)
	}
	r.clients[who] = got
	if sent {
		r.goUp(who)
	} else {
		r.counts.held++
	}
}

func (r *room) serve(who int) {
	if len(r.up[who]) == 0 {
		return
	}
	m := r.up[who][0]
	r.up[who] = r.up[who][1:]
	s, e := server.Take(r.s, m.Rev, m.E)
	if e != api.OK {
		r.counts.refused++
		r.down[who] = append(r.down[who], message(0, who, m.E.Seq))
		return
	}
	r.s = s
	for i := range r.down {
		r.down[i] = append(r.down[i], api.Message{Rev: len(s.Log), E: s.Log[len(s.Log)-1]})
	}
}

func (r *room) hear(t *testing.T, who int) {
	t.Helper()
	if len(r.down[who]) == 0 {
		return
	}
	m, c := r.down[who][0], r.clients[who]
	r.down[who] = r.down[who][1:]
	got, sent, e := Hear(c, who, m)
	if e != api.OK || Check(got) != api.OK {
		t.Fatalf("Hear(%v, %d, %v) = %v, %d", c, who, m, got, e)
	}
	isOwn := m.E.Client == who && m.E.Seq == c.Seq && len(c.Sent) > 0
	switch {
	case len(m.E.O) == 0:
		// Told below: there is no further revision.
	case isOwn:
		r.counts.own++
		if !alikeOps(c.Sent, m.E.O) || !slices.Equal(got.Now, c.Now) {
			t.Fatalf("Hear(%v, %d, %v) = %v: its own shows something new", c, who, m, got)
		}
	case len(c.Sent) > 0 && len(got.Sent) == 0:
		r.counts.gaveUp++
	default:
		r.counts.others++
	}
	r.clients[who] = got
	if sent {
		r.goUp(who)
	}
	if base, _ := server.Fold(r.s.First, r.s.Log[:got.Rev]); !slices.Equal(base, got.Base) {
		t.Fatalf("client %d has %v, the log makes %v", who, got.Base, base)
	}
}

// settle serves and hears until nothing is on its way.
func (r *room) settle(t *testing.T) {
	t.Helper()
	for range 4 * api.MaxLog {
		for who := range r.clients {
			r.serve(who)
			r.hear(t, who)
		}
	}
	for who, c := range r.clients {
		if len(r.up[who])+len(r.down[who])+len(c.Sent) > 0 {
			t.Fatalf("something is still on its way: %v", c)
		}
		if c.Rev != len(r.s.Log) || !slices.Equal(c.Now, r.s.Now) {
			t.Fatalf("client %d has %v, the server %v", who, c, r.s.Now)
		}
	}
}

// Where all is served and heard, all have the same, whoever did what, and heard what when.
func TestManyClients(t *testing.T) {
	below := seeded(10)
	var all [5]int
	for range 60 {
		var r room
		first := text(1 + below(api.MaxItems))
		r.s, _ = server.New(first)
		for who := range r.clients {
			r.clients[who], _ = New(first)
		}
		for range 10 + below(120) {
			who := below(api.MaxClients)
			switch below(4) {
			case 0:
				r.do(t, who, someOp(below, len(r.clients[who].Now)))
			case 1:
				r.serve(who)
			default:
				r.hear(t, who)
			}
		}
		r.settle(t)
		for i, n := range [5]int{r.counts.own, r.counts.others, r.counts.refused, r.counts.gaveUp, r.counts.held} {
			all[i] += n
		}
	}
	for i, least := range [5]int{100, 300, 20, 20, 100} {
		if all[i] < least {
			t.Fatalf("of own, others', refused, given up, held there were only %v", all)
		}
	}
}

// roomyOp answers o, laid in lists that have more in them behind their ends.
func roomyOp(o api.Op) api.Op {
	room := api.Op{}
	for _, p := range o {
		p.Items = append(slices.Clone(p.Items), items("room")...)[:len(p.Items)]
		room = append(room, p)
	}
	return append(room, keep(7), put("z"))[:len(o)]
}

func roomyDoc(d api.Doc) api.Doc {
	return append(slices.Clone(d), items("room")...)[:len(d)]
}

func roomy(c api.Client) api.Client {
	c.Base, c.Now, c.Sent, c.Held = roomyDoc(c.Base), roomyDoc(c.Now), roomyOp(c.Sent), roomyOp(c.Held)
	return c
}

// opWithRoom answers a copy of o with all that its lists have room for.
func opWithRoom(o api.Op) api.Op {
	o = slices.Clone(o[:cap(o)])
	for i := range o {
		o[i].Items = slices.Clone(o[i].Items[:cap(o[i].Items)])
	}
	return o
}

func withRoom(c api.Client) api.Client {
	c.Base, c.Now = slices.Clone(c.Base[:cap(c.Base)]), slices.Clone(c.Now[:cap(c.Now)])
	c.Sent, c.Held = opWithRoom(c.Sent), opWithRoom(c.Held)
	return c
}

func spoilItems(l []api.Item) {
	l = l[:cap(l)]
	for i := range l {
		l[i] = api.Item{C: 255, Marks: -1, Link: "spoilt"}
	}
}

// lists answers how to write over each list of c, and over the room it has.
func lists(c api.Client) []func() {
	l := []func(){func() { spoilItems(c.Base) }, func() { spoilItems(c.Now) }}
	for _, o := range []api.Op{c.Sent, c.Held} {
		parts := o[:cap(o)]
		for i := range parts {
			l = append(l, func() { spoilItems(parts[i].Items) })
		}
		l = append(l, func() {
			for i := range parts {
				parts[i] = api.Part{Kind: -1, N: -1, Items: parts[i].Items}
			}
		})
	}
	return l
}

// unlikeLists answers how many lists of a, with the room they have, aren't as those of b are.
func unlikeLists(a, b api.Client) int {
	n := 0
	count := func(alike bool) {
		if !alike {
			n++
		}
	}
	a, b = withRoom(a), withRoom(b)
	count(slices.Equal(a.Base, b.Base))
	count(slices.Equal(a.Now, b.Now))
	for _, l := range [][2]api.Op{{a.Sent, b.Sent}, {a.Held, b.Held}} {
		count(slices.EqualFunc(l[0], l[1], func(p, q api.Part) bool { return p.Kind == q.Kind && p.N == q.N }))
		for i := range min(len(l[0]), len(l[1])) {
			count(slices.Equal(l[0][i].Items, l[1][i].Items))
		}
	}
	return n
}

// wantOwn holds each list of what is answered to being its own, and none of what was handed in: however one of them is written over, no other one changes.
func wantOwn(t *testing.T, answer func() api.Client, isAsItWas func() bool) {
	t.Helper()
	for i := range lists(answer()) {
		got, other := answer(), answer()
		lists(got)[i]()
		if unlike := unlikeLists(got, other); unlike > 1 {
			t.Fatalf("what is written into list %d shows in %d lists of %v", i, unlike, got)
		}
		if !isAsItWas() {
			t.Fatalf("what is written into list %d shows in what was handed in", i)
		}
	}
}

// someClients answers clients of four items of Base, in all states that there are.
func someClients() []api.Client {
	x := api.Op{put("ab"), keep(1), put("c"), cut(1), keep(2)}
	y := api.Op{keep(2), put("x"), put("y"), mark(4, 1, 0)}
	return []api.Client{
		made(1, text(4), 1), made(1, text(4), 1, x), made(1, text(4), 1, x, y),
		made(1, text(4), api.MaxSeq), made(1, text(4), api.MaxSeq, x), made(1, text(4), api.MaxSeq, x, y),
	}
}

func TestAnswersAreTheirOwn(t *testing.T) {
	d := roomyDoc(text(4))
	keptDoc := slices.Clone(d[:cap(d)])
	wantOwn(t, func() api.Client {
		got, _ := New(d)
		return got
	}, func() bool { return slices.Equal(d[:cap(d)], keptDoc) })
	for _, c := range someClients() {
		c := roomy(c)
		kept := withRoom(c)
		for _, o := range []api.Op{nil, {keep(4)}, {put("p"), put("q"), keep(2), cut(1), put("r"), keep(1)}, {put("p"), keep(len(c.Now) - 1), put("q"), keep(1)}, {keep(9)}, {cut(1)}} {
			o := roomyOp(o)
			keptOp := opWithRoom(o)
			isAsItWas := func() bool { return alike(withRoom(c), kept) && alikeOps(opWithRoom(o), keptOp) }
			wantOwn(t, func() api.Client {
				got, _, _ := Do(c, o)
				return got
			}, isAsItWas)
			for rev := range 4 {
				for who := range 2 {
					m := api.Message{Rev: rev, E: api.Entry{Client: 0, Seq: c.Seq, O: o}}
					wantOwn(t, func() api.Client {
						got, _, _ := Hear(c, who, m)
						return got
					}, isAsItWas)
				}
			}
		}
	}
}

// What only asks changes nothing either.
func TestNothingHandedInIsChanged(t *testing.T) {
	for _, c := range someClients() {
		c := roomy(c)
		kept := withRoom(c)
		other := c
		other.Now = c.Base
		for _, r := range []api.Client{c, other} {
			Check(r)
			Same(r, c)
			Do(r, c.Held)
			Hear(r, 0, message(2, 0, 1, c.Sent...))
		}
		if !alike(withRoom(c), kept) {
			t.Fatalf("%v: something is changed", c)
		}
	}
}

// One list may be handed in as several ones: what is Sent is what is Held, done, or heard, and Base is Now.
func TestOneListAsSeveral(t *testing.T) {
	d := roomyDoc(text(3))
	o := roomyOp(api.Op{keep(1), put("x"), cut(1), keep(1)})
	for _, c := range []api.Client{{Rev: 1, Base: d, Now: d, Seq: 1}, made(1, d, 1, o), made(1, d, 1, o, o)} {
		kept := withRoom(c)
		isAsItWas := func() bool { return alike(withRoom(c), kept) }
		wantCheck(t, c, api.OK)
		wantOwn(t, func() api.Client {
			got, _, e := Do(c, o)
			if e != api.OK || Check(got) != api.OK {
				t.Fatalf("Do(%v, %v) = %v, %d", c, o, got, e)
			}
			return got
		}, isAsItWas)
		for who := range 2 {
			wantOwn(t, func() api.Client {
				got, _, e := Hear(c, who, api.Message{Rev: 2, E: api.Entry{Client: 1, Seq: 1, O: o}})
				if e != api.OK || Check(got) != api.OK || got.Rev != 2 {
					t.Fatalf("Hear(%v, %v) = %v, %d", c, o, got, e)
				}
				return got
			}, isAsItWas)
		}
	}
}

// Copy takes whatever there is, clients or not.
func TestCopy(t *testing.T) {
	l := append(someClients(), api.Client{}, api.Client{Base: api.Doc{}, Now: api.Doc{}, Sent: api.Op{}, Held: api.Op{}},
		api.Client{Rev: -1, Base: api.Doc{{C: 255, Marks: -1, Link: "javascript:x"}}, Seq: math.MinInt, Held: api.Op{{Kind: -1, N: -2, Items: items("x"), Set: 9, To: true}}})
	for _, c := range l {
		c := roomy(c)
		kept := withRoom(c)
		if got := Copy(c); !alike(got, c) {
			t.Fatalf("Copy(%v) = %v", c, got)
		}
		wantOwn(t, func() api.Client { return Copy(c) }, func() bool { return alike(withRoom(c), kept) })
	}
}
