package server

import (
	"math"
	"slices"
	"strings"
	"testing"

	"manyhands/api"
	"manyhands/op"
	"manyhands/ot"
)

func keep(n int) api.Part { return api.Part{Kind: api.Keep, N: n} }

func cut(n int) api.Part { return api.Part{Kind: api.Cut, N: n} }

func put(s string) api.Part { return api.Part{Kind: api.Put, Items: items(s)} }

// mark answers a Keep of n items that sets and clears these marks.
func mark(n, set, clear int) api.Part {
	return api.Part{Kind: api.Keep, N: n, Set: set, Clear: clear}
}

// lead answers a Keep of n items that makes the link s.
func lead(n int, s string) api.Part {
	return api.Part{Kind: api.Keep, N: n, To: true, Link: s}
}

// items answers those of s, without marks and links.
func items(s string) []api.Item {
	var l []api.Item
	for i := 0; i < len(s); i++ {
		l = append(l, api.Item{C: s[i]})
	}
	return l
}

// text answers a document of n items with all marks, links and ends of blocks in it.
func text(n int) api.Doc {
	l := []api.Item{{C: 'a', Marks: 1}, {C: 'b', Link: "http:&"}, {C: '\n', Marks: 3}, {C: 'c', Marks: 2, Link: "http:x"}, {C: '\n'}}
	var d api.Doc
	for i := range n - 1 {
		d = append(d, l[i%len(l)])
	}
	return append(d, api.Item{C: '\n', Marks: 2})
}

// entry answers operation seq of the client.
func entry(client, seq int, parts ...api.Part) api.Entry {
	return api.Entry{Client: client, Seq: seq, O: parts}
}

// alikeOps holds operations against each other without the program's Same.
func alikeOps(a, b api.Op) bool {
	return slices.EqualFunc(a, b, func(p, q api.Part) bool {
		return p.Kind == q.Kind && p.N == q.N && p.Set == q.Set && p.Clear == q.Clear && p.To == q.To && p.Link == q.Link && slices.Equal(p.Items, q.Items)
	})
}

// alike holds servers against each other without the program's Same.
func alike(a, b api.Server) bool {
	return slices.Equal(a.First, b.First) && slices.Equal(a.Now, b.Now) && slices.EqualFunc(a.Log, b.Log, func(x, y api.Entry) bool {
		return x.Client == y.Client && x.Seq == y.Seq && alikeOps(x.O, y.O)
	})
}

// isNothing answers whether no field of s has anything.
func isNothing(s api.Server) bool {
	return s.First == nil && s.Log == nil && s.Now == nil
}

// made answers a server that began with d, and did l; it needn't be one that may be.
func made(d api.Doc, l ...api.Entry) api.Server {
	s := api.Server{First: d, Log: l, Now: d}
	for _, x := range l {
		if now, e := op.Apply(s.Now, x.O); e == api.OK {
			s.Now = now
		}
	}
	return s
}

// idle answers n entries that keep all of as many items.
func idle(n, items int) []api.Entry {
	var l []api.Entry
	for i := range n {
		l = append(l, entry(i%api.MaxClients, 1+i, keep(items)))
	}
	return l
}

func wantCheck(t *testing.T, s api.Server, want api.Errno) {
	t.Helper()
	if e := Check(s); e != want {
		t.Fatalf("Check(%v) = %d, want %d", s, e, want)
	}
}

func wantFold(t *testing.T, d api.Doc, l []api.Entry, want api.Doc) {
	t.Helper()
	if got, e := Fold(d, l); !slices.Equal(got, want) || e != api.OK {
		t.Fatalf("Fold(%v, %v) = %v, %d, want %v, OK", d, l, got, e, want)
	}
}

func wantNoFold(t *testing.T, d api.Doc, l []api.Entry, want api.Errno) {
	t.Helper()
	if got, e := Fold(d, l); got != nil || e != want {
		t.Fatalf("Fold(%v, %v) = %v, %d, want nothing, %d", d, l, got, e, want)
	}
}

func wantTake(t *testing.T, s api.Server, rev int, x api.Entry, want api.Server) {
	t.Helper()
	if got, e := Take(s, rev, x); !alike(got, want) || e != api.OK {
		t.Fatalf("Take(%v, %d, %v) = %v, %d, want %v, OK", s, rev, x, got, e, want)
	}
}

func wantNoTake(t *testing.T, s api.Server, rev int, x api.Entry, want api.Errno) {
	t.Helper()
	if got, e := Take(s, rev, x); !isNothing(got) || e != want {
		t.Fatalf("Take(%v, %d, %v) = %v, %d, want nothing, %d", s, rev, x, got, e, want)
	}
}

// Documents that are none, and how that is told.
var wrongDocs = []struct {
	d api.Doc
	e api.Errno
}{
	{nil, api.ErrForm},
	{api.Doc{}, api.ErrForm},
	{api.Doc{{C: 'a'}}, api.ErrForm},
	{api.Doc{{C: 'a'}, {C: '\n', Link: "http:x"}}, api.ErrForm},
	{api.Doc{{C: 'a', Link: "javascript:x"}, {C: '\n'}}, api.ErrForm},
	{api.Doc{{C: 9}, {C: '\n'}}, api.ErrText},
	{api.Doc{{C: 127}}, api.ErrText},
	{api.Doc{{C: '\n', Marks: 4}}, api.ErrRange},
	{api.Doc{{C: '\n', Marks: math.MinInt}}, api.ErrRange},
	{text(api.MaxItems + 1), api.ErrMany},
	{make(api.Doc, api.MaxItems+1), api.ErrMany},
}

// Operations that are none, and how that is told.
var wrongOps = []struct {
	o api.Op
	e api.Errno
}{
	{nil, api.ErrMany},
	{api.Op{}, api.ErrMany},
	{make(api.Op, api.MaxParts+1), api.ErrMany},
	{api.Op{{}}, api.ErrForm},
	{api.Op{{Kind: math.MinInt, N: math.MinInt}}, api.ErrForm},
	{api.Op{keep(0)}, api.ErrRange},
	{api.Op{keep(math.MaxInt)}, api.ErrRange},
	{api.Op{mark(1, 1, 1)}, api.ErrRange},
	{api.Op{lead(1, "javascript:x")}, api.ErrForm},
	{api.Op{cut(1)}, api.ErrForm},
	{api.Op{{Kind: api.Put}, keep(1)}, api.ErrMany},
	{api.Op{put("\t"), keep(1)}, api.ErrText},
	{api.Op{keep(api.MaxItems), keep(1)}, api.ErrMany},
}

// Numbers of clients and of their operations that there are none of.
var wrongClients = []int{-1, api.MaxClients, api.MaxClients + 1, math.MinInt, math.MaxInt}

var wrongSeqs = []int{0, -1, api.MaxSeq + 1, math.MinInt, math.MaxInt}

func TestNew(t *testing.T) {
	for n := 1; n <= api.MaxItems; n++ {
		d := text(n)
		s, e := New(d)
		if !alike(s, api.Server{First: d, Now: d}) || e != api.OK {
			t.Fatalf("New(%v) = %v, %d", d, s, e)
		}
		wantCheck(t, s, api.OK)
	}
	for _, w := range wrongDocs {
		if s, e := New(w.d); !isNothing(s) || e != w.e {
			t.Fatalf("New(%v) = %v, %d, want nothing, %d", w.d, s, e, w.e)
		}
	}
}

func TestFold(t *testing.T) {
	d := api.Doc{{C: 'a'}, {C: 'b', Marks: api.Bold}, {C: '\n'}}
	wantFold(t, d, nil, d)
	wantFold(t, d, []api.Entry{}, d)
	first := entry(0, 1, keep(1), put("x"), mark(1, api.Slant, api.Bold), keep(1))
	second := entry(0, 2, cut(1), lead(1, "http:x"), keep(2))
	wantFold(t, d, []api.Entry{first}, api.Doc{{C: 'a'}, {C: 'x'}, {C: 'b', Marks: api.Slant}, {C: '\n'}})
	wantFold(t, d, []api.Entry{first, second}, api.Doc{{C: 'x', Link: "http:x"}, {C: 'b', Marks: api.Slant}, {C: '\n'}})
	// In the other order the second one isn't for as many items.
	wantNoFold(t, d, []api.Entry{second, first}, api.ErrBase)
}

// Whose they are, and which of theirs, Fold doesn't ask.
func TestFoldLooksAtOperationsAlone(t *testing.T) {
	for _, client := range wrongClients {
		for _, seq := range wrongSeqs {
			l := []api.Entry{entry(client, seq, put("x"), keep(2)), entry(client, seq, keep(1), cut(1), keep(1))}
			wantFold(t, api.Doc{{C: 'a'}, {C: '\n'}}, l, api.Doc{{C: 'x'}, {C: '\n'}})
		}
	}
}

func TestFoldOfMany(t *testing.T) {
	d := text(2)
	for n := range api.MaxLog + 1 {
		wantFold(t, d, idle(n, 2), d)
	}
	wantNoFold(t, d, idle(api.MaxLog+1, 2), api.ErrMany)
	wantNoFold(t, d, make([]api.Entry, 1000), api.ErrMany)
	var l []api.Entry
	for i := range api.MaxLog {
		l = append(l, entry(0, 1, put("x"), keep(2+i)))
	}
	wantFold(t, d, l, append(items(strings.Repeat("x", api.MaxLog)), d...))
}

func TestFoldTellsTheFirstError(t *testing.T) {
	d := text(2)
	many := idle(api.MaxLog+1, 3)
	for _, w := range wrongDocs {
		wantNoFold(t, w.d, nil, w.e)
		wantNoFold(t, w.d, many, w.e)
		wantNoFold(t, w.d, []api.Entry{{}}, w.e)
	}
	// That there are too many is told ahead of what is wrong with one of them.
	wantNoFold(t, d, many, api.ErrMany)
	grow := entry(0, 1, put(strings.Repeat("a", api.MaxItems-1)), keep(2))
	right := entry(0, 1, keep(2))
	for _, w := range wrongOps {
		x := api.Entry{O: w.o}
		wantNoFold(t, d, []api.Entry{x}, w.e)
		wantNoFold(t, d, []api.Entry{right, x, grow}, w.e)
		wantNoFold(t, d, []api.Entry{grow, x}, api.ErrMany)
		wantNoFold(t, d, []api.Entry{entry(0, 1, keep(1)), x}, api.ErrBase)
	}
	wantNoFold(t, d, []api.Entry{right, grow}, api.ErrMany)
	wantNoFold(t, d, []api.Entry{right, entry(0, 2, keep(3))}, api.ErrBase)
	wantFold(t, d, []api.Entry{entry(0, 1, put(strings.Repeat("a", api.MaxItems-2)), keep(2))}, append(items(strings.Repeat("a", api.MaxItems-2)), d...))
}

func TestCheckOfServers(t *testing.T) {
	d := text(3)
	for client := range api.MaxClients {
		for _, seq := range []int{1, 2, api.MaxSeq - 1, api.MaxSeq} {
			wantCheck(t, made(d, entry(client, seq, put("x"), keep(3)), entry(client, seq, keep(4))), api.OK)
		}
	}
	wantCheck(t, made(d), api.OK)
	wantCheck(t, api.Server{First: d, Log: []api.Entry{}, Now: slices.Clone(d)}, api.OK)
	wantCheck(t, made(d, idle(api.MaxLog, 3)...), api.OK)
	wantCheck(t, made(d, idle(api.MaxLog+1, 3)...), api.ErrMany)
	wantCheck(t, api.Server{}, api.ErrForm)
}

func TestCheckOfEntries(t *testing.T) {
	d := text(3)
	right := entry(1, 1, keep(3))
	for at := range 3 {
		with := func(x api.Entry) api.Server {
			return made(d, slices.Insert([]api.Entry{right, right}, at, x)...)
		}
		for _, client := range wrongClients {
			wantCheck(t, with(entry(client, 1, keep(3))), api.ErrWho)
			wantCheck(t, with(entry(client, 0, cut(3))), api.ErrWho)
		}
		for _, seq := range wrongSeqs {
			wantCheck(t, with(entry(1, seq, keep(3))), api.ErrRange)
			wantCheck(t, with(entry(1, seq, cut(3))), api.ErrRange)
		}
		for _, w := range wrongOps {
			wantCheck(t, with(entry(1, 1, w.o...)), w.e)
		}
	}
}

func TestCheckTellsTheFirstError(t *testing.T) {
	who, seq, form := entry(-1, 1, keep(3)), entry(0, 0, keep(3)), entry(0, 1, cut(3))
	base := entry(0, 1, keep(4))
	many := slices.Concat([]api.Entry{who}, idle(api.MaxLog, 3))
	for _, w := range wrongDocs {
		// The log is looked at ahead of what it began with, that ahead of what comes of it.
		wantCheck(t, api.Server{First: w.d, Log: many}, api.ErrMany)
		wantCheck(t, api.Server{First: w.d, Log: []api.Entry{base, who}}, api.ErrWho)
		wantCheck(t, api.Server{First: w.d, Log: []api.Entry{base, seq}}, api.ErrRange)
		wantCheck(t, api.Server{First: w.d, Log: []api.Entry{base, form}}, api.ErrForm)
		wantCheck(t, api.Server{First: w.d, Log: []api.Entry{base}}, w.e)
		wantCheck(t, api.Server{First: w.d, Now: text(3)}, w.e)
		wantCheck(t, api.Server{First: w.d, Now: w.d}, w.e)
		wantCheck(t, api.Server{First: text(3), Now: w.d}, api.ErrForm)
	}
	for _, x := range []struct {
		l []api.Entry
		e api.Errno
	}{
		{[]api.Entry{who, seq, form}, api.ErrWho},
		{[]api.Entry{seq, who, form}, api.ErrRange},
		{[]api.Entry{form, seq, who}, api.ErrForm},
		{[]api.Entry{entry(0, 1), seq, who}, api.ErrMany},
		{[]api.Entry{base, seq}, api.ErrRange},
		{[]api.Entry{base}, api.ErrBase},
		{[]api.Entry{entry(0, 1, put(strings.Repeat("a", api.MaxItems-2)), keep(3)), base}, api.ErrMany},
		{[]api.Entry{base, entry(0, 1, put(strings.Repeat("a", api.MaxItems-2)), keep(3))}, api.ErrBase},
	} {
		wantCheck(t, api.Server{First: text(3), Log: x.l}, x.e)
	}
}

func TestCheckOfWhatItHas(t *testing.T) {
	s := made(text(4), entry(0, 1, keep(1), put("xy"), mark(3, api.Bold, 0)), entry(1, 1, keep(2), cut(1), keep(3)))
	wantCheck(t, s, api.OK)
	for i := range s.Now {
		for _, x := range []api.Item{{C: s.Now[i].C + 1, Marks: s.Now[i].Marks, Link: s.Now[i].Link}, {C: s.Now[i].C, Marks: s.Now[i].Marks ^ 1, Link: s.Now[i].Link}, {C: s.Now[i].C, Marks: s.Now[i].Marks, Link: "http:z"}} {
			r := s
			r.Now = slices.Clone(s.Now)
			r.Now[i] = x
			wantCheck(t, r, api.ErrForm)
		}
		wantCheck(t, api.Server{First: s.First, Log: s.Log, Now: s.Now[i:][1:]}, api.ErrForm)
		wantCheck(t, api.Server{First: s.First, Log: s.Log, Now: s.Now[:i]}, api.ErrForm)
	}
	wantCheck(t, api.Server{First: s.First, Log: s.Log, Now: append(slices.Clone(s.Now), api.Item{C: '\n'})}, api.ErrForm)
	wantCheck(t, api.Server{First: s.First, Log: s.Log, Now: s.First}, api.ErrForm)
	wantCheck(t, api.Server{First: s.First, Log: s.Log[:1], Now: s.Now}, api.ErrForm)
	wantCheck(t, api.Server{First: s.First, Log: s.Log}, api.ErrForm)
}

// What is asked needn't be anything that may be, and neither need the server.
func TestHas(t *testing.T) {
	numbers := []int{math.MinInt, -1, 0, 1, 2, api.MaxClients, api.MaxSeq, math.MaxInt}
	for _, client := range numbers {
		for _, seq := range numbers {
			x := entry(client, seq)
			s := api.Server{Log: []api.Entry{entry(client, seq+1), x, entry(client+1, seq)}}
			for i, l := range [][]api.Entry{nil, {s.Log[0], s.Log[2]}, s.Log, {x}, {x, x}} {
				if got := Has(api.Server{Log: l}, client, seq); got != (i >= 2) {
					t.Fatalf("Has(%v, %d, %d) = %t", l, client, seq, got)
				}
			}
			if client != seq && Has(api.Server{Log: []api.Entry{entry(seq, client)}}, client, seq) {
				t.Fatalf("the client and which of its operations are taken for each other: %d, %d", client, seq)
			}
		}
	}
}

func TestSameEntryLooksAtAllFields(t *testing.T) {
	x := entry(1, 2, put("a"), mark(1, 1, 2), cut(3), lead(4, "http:x"))
	others := []api.Entry{
		entry(2, 2, x.O...),
		entry(1, 1, x.O...),
		entry(-1, 2, x.O...),
		entry(2, 1, x.O...),
		entry(1, 2),
		entry(1, 2, x.O[:3]...),
		entry(1, 2, put("b"), x.O[1], x.O[2], x.O[3]),
		entry(1, 2, put("aa"), x.O[1], x.O[2], x.O[3]),
		entry(1, 2, x.O[0], mark(1, 1, 0), x.O[2], x.O[3]),
		entry(1, 2, x.O[0], mark(1, 3, 2), x.O[2], x.O[3]),
		entry(1, 2, x.O[0], x.O[1], cut(2), x.O[3]),
		entry(1, 2, x.O[0], x.O[1], keep(3), x.O[3]),
		entry(1, 2, x.O[0], x.O[1], x.O[2], lead(4, "http:y")),
		entry(1, 2, x.O[0], x.O[1], x.O[2], api.Part{Kind: api.Keep, N: 4, Link: "http:x"}),
	}
	for i, y := range others {
		if SameEntry(x, y) || SameEntry(y, x) {
			t.Fatalf("%v and %v are told to be the same", x, y)
		}
		for k, z := range others {
			if SameEntry(y, z) != (i == k) {
				t.Fatalf("SameEntry(%v, %v) = %t", y, z, i != k)
			}
		}
	}
	if !SameEntry(x, api.Entry{Client: 1, Seq: 2, O: slices.Clone(x.O)}) {
		t.Fatalf("%v isn't told to be the same as itself", x)
	}
	if !SameEntry(api.Entry{}, api.Entry{O: api.Op{}}) || !SameEntry(entry(0, 0, api.Part{}), entry(0, 0, api.Part{Items: []api.Item{}})) {
		t.Fatal("lists that have nothing in them aren't told to be the same")
	}
}

func TestSameLooksAtAllFields(t *testing.T) {
	d := text(3)
	x, y := entry(1, 1, keep(3)), entry(2, 1, keep(3))
	others := []api.Server{
		{First: d, Log: []api.Entry{x, y}, Now: d},
		{First: text(2), Log: []api.Entry{x, y}, Now: d},
		{First: d, Log: []api.Entry{x, y}, Now: text(2)},
		{First: text(2), Log: []api.Entry{x, y}, Now: text(2)},
		{First: d, Log: []api.Entry{y, x}, Now: d},
		{First: d, Log: []api.Entry{x}, Now: d},
		{First: d, Log: []api.Entry{x, y, y}, Now: d},
		{First: d, Log: []api.Entry{x, entry(2, 1, cut(3))}, Now: d},
		{First: d, Log: []api.Entry{x, y}},
		{Log: []api.Entry{x, y}, Now: d},
		{First: d, Now: d},
		{First: d},
		{Log: []api.Entry{x}},
		{Now: d},
		{},
		{First: api.Doc{{C: 255, Marks: -1, Link: "javascript:x"}}, Log: []api.Entry{{Client: -1, O: api.Op{{Kind: -1}}}}},
	}
	for i, a := range others {
		for k, b := range others {
			if Same(a, Copy(b)) != (i == k) {
				t.Fatalf("Same(%v, %v) = %t", a, b, i != k)
			}
		}
	}
	if !Same(api.Server{}, api.Server{First: api.Doc{}, Log: []api.Entry{}, Now: api.Doc{}}) {
		t.Fatal("lists that have nothing in them aren't told to be the same")
	}
}

func TestTakeOfTheLastRevision(t *testing.T) {
	d := api.Doc{{C: 'a'}, {C: '\n'}}
	s := made(d)
	// Nothing came since: the operation stands in the log as it is, tidy or not.
	x := entry(0, api.MaxSeq, cut(1), put("x"), put("y"), keep(1))
	want := api.Server{First: d, Log: []api.Entry{x}, Now: append(api.Doc(items("xy")), d[1])}
	wantTake(t, s, 0, x, want)
	y := entry(3, 1, keep(1), keep(1), mark(1, api.Bold, 0))
	again := want
	again.Log = []api.Entry{x, y}
	again.Now = append(api.Doc(items("xy")), api.Item{C: '\n', Marks: api.Bold})
	wantTake(t, want, 1, y, again)
}

func TestTakeTurnsBehindWhatCameSince(t *testing.T) {
	d := append(api.Doc(items("ab")), api.Item{C: '\n'})
	first, second := entry(1, 1, keep(1), put("x"), keep(2)), entry(2, 1, put("z"), cut(1), keep(3))
	s := made(d, first, second)
	puts := entry(0, 1, keep(1), put("y"), keep(2))
	turned := func(rev int, x api.Entry, o api.Op, plain string) {
		t.Helper()
		want := api.Server{First: d, Log: []api.Entry{first, second, {Client: x.Client, Seq: x.Seq, O: o}}, Now: items(plain)}
		wantTake(t, s, rev, x, want)
	}
	// Who is first in the log stands first.
	turned(0, puts, api.Op{keep(2), put("y"), keep(2)}, "zxyb\n")
	turned(1, entry(0, 1, keep(1), put("y"), keep(3)), api.Op{keep(1), put("y"), keep(3)}, "zyxb\n")
	turned(1, entry(0, 1, put("y"), keep(4)), api.Op{keep(1), put("y"), keep(3)}, "zyxb\n")
	turned(2, entry(0, 1, put("y"), keep(4)), api.Op{put("y"), keep(4)}, "yzxb\n")
	// What is cut is cut once.
	turned(0, entry(0, 1, cut(2), keep(1)), api.Op{keep(2), cut(1), keep(1)}, "zx\n")
	turned(1, entry(0, 1, cut(2), keep(2)), api.Op{keep(1), cut(1), keep(2)}, "zb\n")
	turned(2, entry(0, 1, cut(2), keep(2)), api.Op{cut(2), keep(2)}, "b\n")
}

// Of marks and links the entry of the log counts.
func TestTakeOfMarks(t *testing.T) {
	d := append(api.Doc(items("ab")), api.Item{C: '\n'})
	s := made(d, entry(0, 1, api.Part{Kind: api.Keep, N: 1, Set: api.Bold, To: true, Link: "http:x"}, keep(2)))
	x := entry(1, 1, api.Part{Kind: api.Keep, N: 2, Set: api.Slant, Clear: api.Bold, To: true, Link: "http:y"}, keep(1))
	want := made(d, s.Log[0], entry(1, 1, mark(1, api.Slant, 0), api.Part{Kind: api.Keep, N: 1, Set: api.Slant, Clear: api.Bold, To: true, Link: "http:y"}, keep(1)))
	want.Now = api.Doc{{C: 'a', Marks: 3, Link: "http:x"}, {C: 'b', Marks: api.Slant, Link: "http:y"}, {C: '\n'}}
	wantTake(t, s, 0, x, want)
}

func TestTakeOfWhatItHas(t *testing.T) {
	d := text(2)
	for _, s := range []api.Server{made(d, entry(1, 2, put("x"), keep(2))), made(d, append(idle(api.MaxLog-1, 2), entry(1, 2, put("x"), keep(2)))...)} {
		for _, rev := range []int{0, 1, len(s.Log), len(s.Log) + 1, -1, math.MinInt, math.MaxInt} {
			wantTake(t, s, rev, entry(1, 2, put("x"), keep(2)), s)
			wantTake(t, s, rev, entry(1, 2, keep(3)), s)
			// For as many items as nothing was ever of: but it isn't done.
			wantTake(t, s, rev, entry(1, 2, keep(80)), s)
			for _, w := range wrongOps {
				wantNoTake(t, s, rev, entry(1, 2, w.o...), w.e)
			}
		}
	}
}

func TestTakeOfTwoAlike(t *testing.T) {
	// A server may have an operation twice, as Check doesn't ask for it.
	d := text(2)
	s := made(d, entry(1, 1, keep(2)), entry(1, 1, put("x"), keep(2)))
	wantCheck(t, s, api.OK)
	wantTake(t, s, 7, entry(1, 1, keep(1)), s)
	x := entry(1, 3, keep(3))
	wantTake(t, s, 2, x, made(d, s.Log[0], s.Log[1], x))
	// Neither need they be in order.
	wantTake(t, made(d, entry(1, 3, keep(2))), 1, entry(1, 2, keep(2)), made(d, entry(1, 3, keep(2)), entry(1, 2, keep(2))))
}

func TestTakeTellsWhatIsWrongWithTheServerFirst(t *testing.T) {
	d := text(3)
	right := made(d, entry(1, 1, keep(3)))
	other := right
	other.Now = text(4)
	who, seq := right, right
	who.Log = []api.Entry{entry(4, 1, keep(3))}
	seq.Log = []api.Entry{entry(0, 0, keep(3))}
	wrong := []struct {
		s api.Server
		e api.Errno
	}{
		{other, api.ErrForm}, {who, api.ErrWho}, {seq, api.ErrRange},
		{api.Server{}, api.ErrForm},
		{made(d, entry(1, 1, keep(2))), api.ErrBase},
		{made(d, idle(api.MaxLog+1, 3)...), api.ErrMany},
	}
	for _, w := range wrongDocs {
		wrong = append(wrong, wrong[0])
		wrong[len(wrong)-1].s.First, wrong[len(wrong)-1].e = w.d, w.e
	}
	for _, w := range wrong {
		for _, rev := range []int{0, 1, -1, 2, 1000} {
			for _, x := range []api.Entry{{}, entry(1, 1, keep(3)), entry(1, 2, keep(3)), entry(-1, 2, keep(3)), entry(1, -2, keep(3)), entry(1, 2, cut(1))} {
				wantNoTake(t, w.s, rev, x, w.e)
			}
		}
	}
}

func TestTakeOfWrongEntries(t *testing.T) {
	s := made(text(3), entry(1, 1, keep(3)))
	full := made(text(3), idle(api.MaxLog, 3)...)
	for _, rev := range []int{0, 1, -1, 1000} {
		for _, r := range []api.Server{s, full} {
			for _, client := range wrongClients {
				wantNoTake(t, r, rev, entry(client, 0, cut(1)), api.ErrWho)
				wantNoTake(t, r, rev, entry(client, 1, keep(3)), api.ErrWho)
			}
			for _, seq := range wrongSeqs {
				wantNoTake(t, r, rev, entry(0, seq, cut(1)), api.ErrRange)
				wantNoTake(t, r, rev, entry(3, seq, keep(3)), api.ErrRange)
			}
			for _, w := range wrongOps {
				wantNoTake(t, r, rev, entry(0, 1000, w.o...), w.e)
			}
		}
	}
}

func TestTakeOfRevisions(t *testing.T) {
	for n := range api.MaxLog {
		s := made(text(3), idle(n, 3)...)
		x := entry(2, 100, put("x"), keep(3))
		for rev := range n + 1 {
			wantTake(t, s, rev, x, made(s.First, append(slices.Clone(s.Log), x)...))
		}
		for _, rev := range []int{-1, n + 1, math.MinInt, math.MaxInt} {
			wantNoTake(t, s, rev, x, api.ErrBase)
		}
	}
}

func TestTakeOfAFullLog(t *testing.T) {
	full := made(text(3), idle(api.MaxLog, 3)...)
	for rev := range api.MaxLog + 1 {
		wantNoTake(t, full, rev, entry(0, 100, keep(3)), api.ErrMany)
		// Ahead of what turning, or doing it, would tell.
		wantNoTake(t, full, rev, entry(0, 100, keep(2)), api.ErrMany)
	}
	wantNoTake(t, full, -1, entry(0, 100, keep(3)), api.ErrBase)
	wantNoTake(t, full, api.MaxLog+1, entry(0, 100, keep(3)), api.ErrBase)
	last := made(text(3), idle(api.MaxLog-1, 3)...)
	wantTake(t, last, 0, entry(0, 100, keep(3)), made(text(3), append(last.Log, entry(0, 100, keep(3)))...))
	wantNoTake(t, last, 0, entry(0, 100, keep(2)), api.ErrBase)
}

func TestTakeTellsWhatTurningTells(t *testing.T) {
	most := strings.Repeat("a", api.MaxItems)
	grow := entry(0, 1, put(most[1:]), keep(1))
	s := made(text(1), grow)
	// For another number of items than that revision has.
	wantNoTake(t, s, 0, entry(1, 1, keep(2)), api.ErrBase)
	wantNoTake(t, s, 0, entry(1, 1, keep(api.MaxItems)), api.ErrBase)
	wantNoTake(t, s, 1, entry(1, 1, keep(1)), api.ErrBase)
	wantTake(t, s, 0, entry(1, 1, keep(1)), made(text(1), grow, entry(1, 1, keep(api.MaxItems))))
	// What comes of it, once it is tidy, is no operation: one Keep of too many, Keeps of too many together.
	wantNoTake(t, s, 0, entry(1, 1, put(most), keep(1)), api.ErrRange)
	wantNoTake(t, made(text(2), entry(0, 1, put("b"), cut(1), keep(1))), 0, entry(1, 1, put(most), keep(2)), api.ErrMany)
	wide := made(text(api.MaxItems), entry(0, 1, put("b"), cut(1), keep(api.MaxItems-1)))
	wantTake(t, wide, 0, entry(1, 1, cut(api.MaxItems-1), keep(1)), made(wide.First, wide.Log[0], entry(1, 1, keep(1), cut(api.MaxItems-2), keep(1))))
	var l api.Op
	for i := range api.MaxParts {
		l = append(l, mark(2, 1+i%2, 0))
	}
	split := made(text(api.MaxItems), entry(0, 1, keep(1), cut(1), put("b"), keep(api.MaxItems-2)))
	wantNoTake(t, split, 0, entry(1, 1, l...), api.ErrMany)
}

func TestTakeTellsWhatDoingTells(t *testing.T) {
	half := strings.Repeat("a", api.MaxItems/2)
	first := entry(0, 1, put(half), keep(1))
	s := made(text(1), first)
	// As it was done there were few enough, but not with what came since.
	x := entry(1, 1, put(half[1:]), keep(1))
	y := entry(1, 1, put(half), keep(1))
	if _, e := op.Apply(s.First, y.O); e != api.OK {
		t.Fatalf("nothing is wrong with it, but %d", e)
	}
	wantTake(t, s, 0, x, made(text(1), first, entry(1, 1, keep(api.MaxItems/2), put(half[1:]), keep(1))))
	wantNoTake(t, s, 0, y, api.ErrMany)
	wantNoTake(t, s, 1, entry(1, 1, put(half), keep(api.MaxItems/2+1)), api.ErrMany)
	wantNoTake(t, s, 1, entry(1, 1, keep(api.MaxItems/2)), api.ErrBase)
	wantNoTake(t, s, 1, entry(1, 1, put(half), put(half), keep(api.MaxItems/2)), api.ErrBase)
}

// takenFromBehind takes as Take does, but turns behind the last entry what is turned behind those ahead of it, which is another way than the program's.
func takenFromBehind(s api.Server, rev int, x api.Entry) (api.Server, api.Errno) {
	o, e := turnedFromBehind(s.Log[rev:], x.O)
	if e != api.OK {
		return api.Server{}, e
	}
	now, e := op.Apply(s.Now, o)
	if e != api.OK {
		return api.Server{}, e
	}
	return api.Server{First: s.First, Log: slices.Concat(s.Log, []api.Entry{entry(x.Client, x.Seq, o...)}), Now: now}, api.OK
}

func turnedFromBehind(l []api.Entry, o api.Op) (api.Op, api.Errno) {
	if len(l) == 0 {
		return o, api.OK
	}
	last := len(l) - 1
	o, e := turnedFromBehind(l[:last], o)
	if e != api.OK {
		return nil, e
	}
	_, y, e := ot.Turn(l[last].O, o)
	return y, e
}

// doneAhead answers what comes of s if o is done as soon as rev entries are, and the others behind it.
func doneAhead(s api.Server, rev int, o api.Op) (api.Doc, api.Errno) {
	d, _ := Fold(s.First, s.Log[:rev])
	d, e := op.Apply(d, o)
	for _, x := range s.Log[rev:] {
		var turned api.Op
		if turned, o, e = ot.Turn(x.O, o); e != api.OK {
			return nil, e
		}
		if d, e = op.Apply(d, turned); e != api.OK {
			return nil, e
		}
	}
	return d, e
}

// wantTaken holds taking x (which s doesn't have) to the other way, and to what one has who did it as soon as rev entries were done. It answers what s becomes.
func wantTaken(t *testing.T, s api.Server, rev int, x api.Entry) (api.Server, api.Errno) {
	t.Helper()
	want, e := takenFromBehind(s, rev, x)
	if e != api.OK {
		wantNoTake(t, s, rev, x, e)
		return s, e
	}
	wantTake(t, s, rev, x, want)
	got, _ := Take(s, rev, x)
	wantCheck(t, got, api.OK)
	wantFold(t, got.First, got.Log, got.Now)
	if !Has(got, x.Client, x.Seq) || !Same(got, want) {
		t.Fatalf("%v isn't what has %v", got, x)
	}
	wantTake(t, got, rev, x, got)
	if ahead, e := doneAhead(s, rev, x.O); e == api.OK && !slices.Equal(ahead, got.Now) {
		t.Fatalf("Take(%v, %d, %v): the server has %v, who did it %v", s, rev, x, got.Now, ahead)
	}
	return got, api.OK
}

// All of these may stand in an operation, and each kind in several shapes.
var fair = []api.Part{
	{Kind: api.Keep, N: 1},
	{Kind: api.Keep, N: 2},
	{Kind: api.Keep, N: 1, Set: api.Bold, To: true, Link: "http:x"},
	{Kind: api.Keep, N: 2, Set: api.Slant, Clear: api.Bold, To: true},
	{Kind: api.Put, Items: []api.Item{{C: 'x'}}},
	{Kind: api.Put, Items: []api.Item{{C: 'y', Marks: 3, Link: "http:y"}, {C: '\n', Marks: 1}}},
	{Kind: api.Cut, N: 1},
}

// everyOp answers all operations of at most n of the fair parts that are for so many items.
func everyOp(n, from int) []api.Op {
	lists := []api.Op{nil}
	var l []api.Op
	for range n {
		var longer []api.Op
		for _, o := range lists {
			for _, p := range fair {
				longer = append(longer, append(slices.Clone(o), p))
			}
		}
		lists = longer
		for _, o := range lists {
			if long, _ := op.Long(o); long == from && op.Check(o) == api.OK {
				l = append(l, o)
			}
		}
	}
	return l
}

// All short operations, one behind two others, of each revision that it may be of.
func TestEveryThreeShortOperations(t *testing.T) {
	byLength := [12][]api.Op{}
	for n := range byLength {
		byLength[n] = everyOp(3, n)
	}
	for _, a := range byLength[2] {
		_, to := op.Long(a)
		for _, b := range byLength[to] {
			s := made(text(2), entry(0, 1, a...), entry(1, 1, b...))
			for i, d := range []api.Doc{s.First, made(s.First, s.Log[0]).Now, s.Now} {
				for _, o := range everyOp(2, len(d)) {
					wantTaken(t, s, i, entry(2, 1, o...))
				}
			}
		}
	}
}

// seeded hands on numbers below n, one after the other, always the same ones.
func seeded(seed uint32) func(n int) int {
	return func(n int) int {
		seed = seed*1664525 + 1013904223
		return int(seed>>16) % n
	}
}

// someOp answers an operation for n items.
func someOp(below func(n int) int, n int) api.Op {
	var o api.Op
	long := 1 + below(20)
	for n > 1 && len(o) < api.MaxParts-1 {
		p := somePart(below, min(n-1, 1+below(long)))
		o = append(o, p)
		n -= p.N
	}
	return append(o, keep(n))
}

// somePart answers a Keep or a Cut of n items, or a Put of some.
func somePart(below func(n int) int, n int) api.Part {
	switch below(6) {
	case 0:
		return api.Part{Kind: api.Put, Items: text(1 + below(4))}
	case 1:
		return cut(min(n, 1+below(4)))
	case 2:
		return keep(n)
	}
	set := below(4)
	p := mark(n, set, below(4)&^set)
	if below(2) == 0 {
		p.To, p.Link = true, [3]string{"", "http:x", "http:y"}[below(3)]
	}
	return p
}

// Many operations of many clients, each of a revision that isn't long ago, until the log is full.
func TestLongLogs(t *testing.T) {
	below := seeded(9)
	taken, refused := 0, 0
	for range 15 {
		s, _ := New(text(1 + below(api.MaxItems)))
		for seq := 1; seq <= 90 && len(s.Log) < api.MaxLog; seq++ {
			rev := max(0, len(s.Log)-below(6))
			d, _ := Fold(s.First, s.Log[:rev])
			first := s.First
			var e api.Errno
			s, e = wantTaken(t, s, rev, entry(below(api.MaxClients), seq, someOp(below, len(d))...))
			if !slices.Equal(s.First, first) {
				t.Fatalf("what it began with is another one: %v", s)
			}
			if e == api.OK {
				taken++
			} else {
				refused++
			}
		}
	}
	if taken < 800 || refused < 300 {
		t.Fatalf("only %d were taken, %d refused", taken, refused)
	}
}

// roomyOp answers o, laid in lists that have more in them behind their ends.
func roomyOp(o api.Op) api.Op {
	room := api.Op{}
	for _, p := range o {
		p.Items = append(slices.Clone(p.Items), items("room")...)[:len(p.Items)]
		room = append(room, p)
	}
	return append(room, keep(7), put("z"))[:len(o)]
}

func roomyDoc(d api.Doc) api.Doc {
	return append(slices.Clone(d), items("room")...)[:len(d)]
}

func roomyLog(l []api.Entry) []api.Entry {
	room := []api.Entry{}
	for _, x := range l {
		room = append(room, entry(x.Client, x.Seq, roomyOp(x.O)...))
	}
	return append(room, entry(7, 7, roomyOp(api.Op{put("z"), keep(7)})...))[:len(l)]
}

func roomy(s api.Server) api.Server {
	return api.Server{First: roomyDoc(s.First), Log: roomyLog(s.Log), Now: roomyDoc(s.Now)}
}

// opWithRoom answers a copy of o with all that its lists have room for.
func opWithRoom(o api.Op) api.Op {
	o = slices.Clone(o[:cap(o)])
	for i := range o {
		o[i].Items = slices.Clone(o[i].Items[:cap(o[i].Items)])
	}
	return o
}

func withRoom(s api.Server) api.Server {
	s.First, s.Now = slices.Clone(s.First[:cap(s.First)]), slices.Clone(s.Now[:cap(s.Now)])
	s.Log = slices.Clone(s.Log[:cap(s.Log)])
	for i := range s.Log {
		s.Log[i].O = opWithRoom(s.Log[i].O)
	}
	return s
}

// lists answers how to write over each list of s, and over the room it has; what holds others comes behind them.
func lists(s *api.Server) []func() {
	l := []func(){func() { spoilItems(s.First) }, func() { spoilItems(s.Now) }}
	log := s.Log[:cap(s.Log)]
	for i := range log {
		parts := log[i].O[:cap(log[i].O)]
		for k := range parts {
			l = append(l, func() { spoilItems(parts[k].Items) })
		}
		l = append(l, func() {
			for k := range parts {
				parts[k] = api.Part{Kind: -1, N: -1}
			}
		})
	}
	return append(l, func() {
		for i := range log {
			log[i] = api.Entry{Client: -1, Seq: -1}
		}
	})
}

func spoilItems(l []api.Item) {
	l = l[:cap(l)]
	for i := range l {
		l[i] = api.Item{C: 255, Marks: -1, Link: "spoilt"}
	}
}

// wantOwn holds each list of what is answered to being its own, and none of what was handed in: however one of them is written over, no other one changes.
func wantOwn(t *testing.T, answer func() api.Server, isAsItWas func() bool) {
	t.Helper()
	first := answer()
	for i := range lists(&first) {
		got, other := answer(), answer()
		lists(&got)[i]()
		if unlike := unlikeLists(got, other); unlike > 1 {
			t.Fatalf("what is written into list %d shows in %d lists of %v", i, unlike, got)
		}
		if !isAsItWas() {
			t.Fatalf("what is written into list %d shows in what was handed in", i)
		}
	}
}

// unlikeLists answers how many lists of a, with the room they have, aren't as those of b are.
func unlikeLists(a, b api.Server) int {
	n := 0
	count := func(alike bool) {
		if !alike {
			n++
		}
	}
	a, b = withRoom(a), withRoom(b)
	count(slices.Equal(a.First, b.First))
	count(slices.Equal(a.Now, b.Now))
	count(slices.EqualFunc(a.Log, b.Log, func(x, y api.Entry) bool { return x.Client == y.Client && x.Seq == y.Seq }))
	for i := range min(len(a.Log), len(b.Log)) {
		if a.Log[i].Client < 0 {
			continue
		}
		parts, others := a.Log[i].O, b.Log[i].O
		count(slices.EqualFunc(parts, others, func(p, q api.Part) bool { return p.Kind == q.Kind && p.N == q.N }))
		for k := range min(len(parts), len(others)) {
			count(parts[k].Kind < 0 || slices.Equal(parts[k].Items, others[k].Items))
		}
	}
	return n
}

func TestAnswersAreTheirOwn(t *testing.T) {
	s := roomy(made(text(4), entry(0, 1, put("ab"), keep(1), put("c"), cut(1), keep(2)), entry(1, 1, keep(2), put("x"), mark(4, 1, 0))))
	kept := withRoom(s)
	d := roomyDoc(text(4))
	keptDoc := slices.Clone(d[:cap(d)])
	wantOwn(t, func() api.Server {
		got, _ := New(d)
		return got
	}, func() bool { return slices.Equal(d[:cap(d)], keptDoc) })
	for _, x := range []api.Entry{
		entry(0, 1, keep(7)), // which it has
		entry(2, 1, put("y"), put("z"), keep(7), put("1"), keep(1)),
		entry(2, 1, put("y"), keep(2), cut(1), keep(3)),
		entry(2, 1, put("y"), keep(2), put("z"), keep(2)),
	} {
		x.O = roomyOp(x.O)
		keptOp := opWithRoom(x.O)
		for rev := range 3 {
			if _, e := Take(s, rev, x); e != api.OK {
				continue
			}
			wantOwn(t, func() api.Server {
				got, _ := Take(s, rev, x)
				return got
			}, func() bool { return alike(withRoom(s), kept) && alikeOps(opWithRoom(x.O), keptOp) })
		}
	}
}

func TestFoldAnswersItsOwn(t *testing.T) {
	for _, l := range [][]api.Entry{nil, {}, {entry(0, 1, keep(4))}, {entry(0, 1, keep(4)), entry(0, 2, put("ab"), keep(4))}, {entry(0, 1, keep(5))}} {
		d := roomyDoc(text(4))
		keptDoc := slices.Clone(d[:cap(d)])
		log := roomyLog(l)
		kept := withRoom(api.Server{Log: log})
		got, _ := Fold(d, log)
		spoilItems(got)
		if !slices.Equal(d[:cap(d)], keptDoc) || !alike(withRoom(api.Server{Log: log}), kept) {
			t.Fatalf("Fold(%v, %v) changes what was handed in, or answers it", d, l)
		}
	}
}

// What only asks, and what is refused, changes nothing either.
func TestNothingHandedInIsChanged(t *testing.T) {
	s := roomy(made(text(3), entry(0, 1, put("ab"), keep(3)), entry(1, 1, cut(1), keep(4))))
	x := entry(2, 1, put("x"), keep(3))
	x.O = roomyOp(x.O)
	kept, keptOp := withRoom(s), opWithRoom(x.O)
	other := s
	other.Now = s.First
	for _, r := range []api.Server{s, other} {
		Check(r)
		Has(r, 1, 1)
		Same(r, s)
		SameEntry(r.Log[0], x)
		for rev := -1; rev <= 3; rev++ {
			Take(r, rev, x)
		}
	}
	if !alike(withRoom(s), kept) || !alikeOps(opWithRoom(x.O), keptOp) {
		t.Fatalf("%v, %v: something is changed", s, x)
	}
}

// An entry of the log itself may be handed in, and one list as several ones.
func TestOneListAsSeveral(t *testing.T) {
	d := roomyDoc(text(3))
	o := roomyOp(api.Op{keep(1), put("x"), cut(1), keep(1)})
	s := api.Server{First: d, Log: roomyLog([]api.Entry{entry(0, 1, o...), entry(0, 2, o...)}), Now: d}
	s.Log[0].O, s.Log[1].O = o, o
	s.Now = made(d, s.Log...).Now
	kept := withRoom(s)
	x := entry(1, 1, o...)
	x.O = o
	for rev := range 3 {
		want, _ := takenFromBehind(s, rev, x)
		wantTake(t, s, rev, x, want)
		wantOwn(t, func() api.Server {
			got, _ := Take(s, rev, x)
			return got
		}, func() bool { return alike(withRoom(s), kept) })
	}
	wantTake(t, s, 0, s.Log[1], s)
}

// Copy takes whatever there is, servers or not.
func TestCopy(t *testing.T) {
	for _, s := range []api.Server{
		{}, {First: api.Doc{}, Log: []api.Entry{}, Now: api.Doc{}},
		made(text(4), entry(0, 1, put("ab"), keep(1), put("c"), cut(1), keep(2)), entry(1, 1, keep(2), put("x"), mark(4, 1, 0))),
		{First: api.Doc{{C: 255, Marks: -1, Link: "javascript:x"}}, Log: []api.Entry{{Client: -1, Seq: math.MinInt, O: api.Op{{Kind: -1, N: -2, Items: items("x"), Set: 9, To: true}}}, {}}},
	} {
		s := roomy(s)
		kept := withRoom(s)
		if got := Copy(s); !alike(got, s) {
			t.Fatalf("Copy(%v) = %v", s, got)
		}
		wantOwn(t, func() api.Server { return Copy(s) }, func() bool { return alike(withRoom(s), kept) })
	}
}
