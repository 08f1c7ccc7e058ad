package op

import (
	"math"
	"slices"
	"strings"
	"testing"

	"manyhands/api"
	"manyhands/doc"
)

func keep(n int) api.Part { return api.Part{Kind: api.Keep, N: n} }

func cut(n int) api.Part { return api.Part{Kind: api.Cut, N: n} }

func put(s string) api.Part { return api.Part{Kind: api.Put, Items: items(s)} }

// items answers those of s, without marks and links.
func items(s string) []api.Item {
	var l []api.Item
	for i := 0; i < len(s); i++ {
		l = append(l, api.Item{C: s[i]})
	}
	return l
}

func wantCheck(t *testing.T, o api.Op, want api.Errno) {
	t.Helper()
	if got := Check(o); got != want {
		t.Errorf("Check(%#v) = %d, want %d", o, got, want)
	}
	if got, e := Tidy(o); e != want || want != api.OK && got != nil {
		t.Errorf("Tidy(%#v) = %#v, %d, want the error %d", o, got, e, want)
	}
}

// wantPart holds p, ahead of a last Keep that is as it should be, to the error.
func wantPart(t *testing.T, p api.Part, want api.Errno) {
	t.Helper()
	wantCheck(t, api.Op{p, keep(0)}, firstOf(want, api.ErrRange))
	if p.N < api.MaxItems {
		wantCheck(t, api.Op{p, keep(1)}, want)
	}
}

// firstOf answers e, or, if that is none, the other one.
func firstOf(e, other api.Errno) api.Errno {
	if e != api.OK {
		return e
	}
	return other
}

func wantLong(t *testing.T, o api.Op, from, to int) {
	t.Helper()
	if f, n := Long(o); f != from || n != to {
		t.Errorf("Long(%#v) = %d, %d, want %d, %d", o, f, n, from, to)
	}
}

func wantApply(t *testing.T, d api.Doc, o api.Op, want api.Doc) {
	t.Helper()
	got, e := Apply(d, o)
	if !slices.Equal(got, want) || e != api.OK {
		t.Fatalf("Apply(%#v, %#v) = %#v, %d, want %#v, OK", d, o, got, e, want)
	}
}

func wantNoApply(t *testing.T, d api.Doc, o api.Op, want api.Errno) {
	t.Helper()
	if got, e := Apply(d, o); got != nil || e != want {
		t.Fatalf("Apply(%#v, %#v) = %#v, %d, want nothing, %d", d, o, got, e, want)
	}
}

func wantTidy(t *testing.T, o, want api.Op) {
	t.Helper()
	if got, e := Tidy(o); !alike(got, want) || e != api.OK {
		t.Fatalf("Tidy(%#v) = %#v, %d, want %#v, OK", o, got, e, want)
	}
}

// alike holds operations against each other without the program's Same.
func alike(a, b api.Op) bool {
	if len(a) != len(b) {
		return false
	}
	for i, p := range a {
		q := b[i]
		if p.Kind != q.Kind || p.N != q.N || p.Set != q.Set || p.Clear != q.Clear || p.To != q.To || p.Link != q.Link || !slices.Equal(p.Items, q.Items) {
			return false
		}
	}
	return true
}

// copyOf answers o with lists of its own.
func copyOf(o api.Op) api.Op {
	o = slices.Clone(o)
	for i := range o {
		o[i].Items = slices.Clone(o[i].Items)
	}
	return o
}

// everyOp hands on all lists of at most n of the parts, one behind the other.
func everyOp(parts []api.Part, n int, use func(api.Op)) {
	var grow func(o api.Op, n int)
	grow = func(o api.Op, n int) {
		use(o)
		if n == 0 {
			return
		}
		for _, p := range parts {
			grow(append(slices.Clone(o), p), n-1)
		}
	}
	grow(nil, n)
}

// All of these may stand in an operation, and each kind in several shapes.
var fair = []api.Part{
	{Kind: api.Keep, N: 1},
	{Kind: api.Keep, N: 2},
	{Kind: api.Keep, N: 1, Set: api.Bold},
	{Kind: api.Keep, N: 1, To: true},
	{Kind: api.Keep, N: 2, Clear: api.Bold, To: true, Link: "http:x"},
	{Kind: api.Put, Items: []api.Item{{C: 'x'}}},
	{Kind: api.Put, Items: []api.Item{{C: 'y', Marks: 3, Link: "http:y"}, {C: '\n', Marks: 1}}},
	{Kind: api.Cut, N: 1},
	{Kind: api.Cut, N: 2},
}

// text answers a document of n items with all marks, links and ends of blocks in it.
func text(n int) api.Doc {
	l := []api.Item{{C: 'a', Marks: 1}, {C: 'b', Link: "http:&"}, {C: '\n', Marks: 3}, {C: 'c', Marks: 2, Link: "http:x"}, {C: '\n'}}
	var d api.Doc
	for i := range n - 1 {
		d = append(d, l[i%len(l)])
	}
	return append(d, api.Item{C: '\n', Marks: 2})
}

func TestCheckOfParts(t *testing.T) {
	wantCheck(t, nil, api.ErrMany)
	wantCheck(t, api.Op{}, api.ErrMany)
	wantCheck(t, make(api.Op, 0, 9), api.ErrMany)
	wantCheck(t, api.Op{keep(1)}, api.OK)
	ones := slices.Repeat(api.Op{keep(1)}, api.MaxParts+1)
	wantCheck(t, ones[:api.MaxParts], api.OK)
	wantCheck(t, ones, api.ErrMany)
	wantCheck(t, slices.Repeat(api.Op{{}}, api.MaxParts), api.ErrForm)
	wantCheck(t, slices.Repeat(api.Op{{}}, api.MaxParts+1), api.ErrMany)
	wantCheck(t, slices.Repeat(api.Op{cut(1)}, api.MaxParts+1), api.ErrMany)
	wantCheck(t, slices.Repeat(api.Op{cut(0)}, 9*api.MaxParts), api.ErrMany)
}

func TestCheckOfKinds(t *testing.T) {
	for _, kind := range []int{0, 4, 5, -1, -2, -3, 257, 1 << 32, 1<<32 + 1, math.MinInt, math.MaxInt} {
		wantPart(t, api.Part{Kind: kind}, api.ErrForm)
		wantPart(t, api.Part{Kind: kind, N: 1}, api.ErrForm)
		wantPart(t, api.Part{Kind: kind, N: -1, Set: 4, Items: items("\x00")}, api.ErrForm)
	}
	for _, p := range fair {
		wantPart(t, p, api.OK)
	}
}

func TestCheckOfMarks(t *testing.T) {
	marks := []int{-4, -3, -2, -1, 0, 1, 2, 3, 4, 5, 6, 7, 8, 256, 1 << 32, math.MinInt, math.MaxInt}
	for _, set := range marks {
		for _, clear := range marks {
			want := api.ErrRange
			switch [2]int{set, clear} {
			case [2]int{0, 0}, [2]int{0, 1}, [2]int{0, 2}, [2]int{0, 3}, [2]int{1, 0}, [2]int{2, 0}, [2]int{3, 0}, [2]int{1, 2}, [2]int{2, 1}:
				want = api.OK
			}
			wantPart(t, api.Part{Kind: api.Keep, N: 1, Set: set, Clear: clear}, want)
			wantPart(t, api.Part{Kind: api.Keep, N: 1, Set: set, Clear: clear, To: true, Link: "http:x"}, want)
		}
	}
}

func TestCheckOfLinks(t *testing.T) {
	longest := "http:" + strings.Repeat("x", api.MaxLink-5)
	for _, s := range []string{"", "http:x", "HTTPS://x", "mailto:a@b", longest} {
		wantPart(t, api.Part{Kind: api.Keep, N: 1, To: true, Link: s}, api.OK)
		want := api.ErrForm
		if s == "" {
			want = api.OK
		}
		wantPart(t, api.Part{Kind: api.Keep, N: 1, Link: s}, want)
	}
	for _, s := range []string{"x", " ", "javascript:x", "http:a b", "http:\"", "/x", "\x00", longest + "x", strings.Repeat("x", api.MaxText+1)} {
		wantPart(t, api.Part{Kind: api.Keep, N: 1, To: true, Link: s}, api.ErrForm)
		wantPart(t, api.Part{Kind: api.Keep, N: 1, Link: s}, api.ErrForm)
	}
}

func TestCheckOfItemsThatArePut(t *testing.T) {
	wantPart(t, api.Part{Kind: api.Put}, api.ErrMany)
	wantPart(t, api.Part{Kind: api.Put, Items: []api.Item{}}, api.ErrMany)
	wantPart(t, api.Part{Kind: api.Put, Items: make([]api.Item, 0, 9)}, api.ErrMany)
	most := strings.Repeat("a", api.MaxItems)
	wantPart(t, put(most[1:]), api.OK)
	wantPart(t, put(most), api.OK)
	wantPart(t, put(most+"a"), api.ErrMany)
	wantPart(t, put("\x00"+most), api.ErrMany)
	wantPart(t, put("\n\n"), api.OK)
	wantPart(t, put("a\x00"), api.ErrText)
	wantPart(t, put(most[1:]+"\x7f"), api.ErrText)
	wantPart(t, api.Part{Kind: api.Put, Items: []api.Item{{C: 'a', Marks: 4}, {C: 9}}}, api.ErrRange)
	wantPart(t, api.Part{Kind: api.Put, Items: []api.Item{{C: 'a', Link: "x"}, {C: 9}}}, api.ErrForm)
	wantPart(t, api.Part{Kind: api.Put, Items: []api.Item{{C: 'a'}, {C: '\n', Link: "http:x"}}}, api.ErrForm)
	wantPart(t, api.Part{Kind: api.Put, Items: []api.Item{{C: 'a', Marks: 3, Link: "http:x"}}}, api.OK)
}

func TestCheckOfN(t *testing.T) {
	for _, kind := range []int{api.Keep, api.Cut} {
		for _, n := range []int{0, -1, -2, api.MaxItems + 1, 9 * api.MaxItems, 257, 1 << 32, 1<<32 + 1, math.MinInt, math.MinInt + 1, math.MaxInt} {
			p := api.Part{Kind: kind, N: n}
			wantCheck(t, api.Op{p}, api.ErrRange)
			wantCheck(t, api.Op{p, keep(1)}, api.ErrRange)
			wantCheck(t, api.Op{keep(1), p, keep(1)}, api.ErrRange)
			wantCheck(t, api.Op{keep(api.MaxItems), p}, api.ErrRange)
		}
	}
	wantCheck(t, api.Op{keep(api.MaxItems)}, api.OK)
	wantCheck(t, api.Op{cut(api.MaxItems)}, api.ErrForm)
	wantCheck(t, api.Op{cut(1), keep(api.MaxItems - 1)}, api.OK)
	wantCheck(t, api.Op{cut(api.MaxItems - 1), keep(1)}, api.OK)
}

func TestCheckOfWhatAPartHasNoUseFor(t *testing.T) {
	one := items("a")
	wantPart(t, api.Part{Kind: api.Keep, N: 1, Items: one}, api.ErrForm)
	wantPart(t, api.Part{Kind: api.Keep, N: 1, Items: make([]api.Item, 1)}, api.ErrForm)
	for _, n := range []int{1, -1, api.MaxItems, api.MaxItems + 1, math.MinInt} {
		wantPart(t, api.Part{Kind: api.Put, Items: one, N: n}, api.ErrForm)
		wantPart(t, api.Part{Kind: api.Put, Items: one, Set: n}, api.ErrForm)
		wantPart(t, api.Part{Kind: api.Put, Items: one, Clear: n}, api.ErrForm)
		wantPart(t, api.Part{Kind: api.Cut, N: 1, Set: n}, api.ErrForm)
		wantPart(t, api.Part{Kind: api.Cut, N: 1, Clear: n}, api.ErrForm)
	}
	wantPart(t, api.Part{Kind: api.Put, Items: one, To: true}, api.ErrForm)
	wantPart(t, api.Part{Kind: api.Put, Items: one, Link: "http:x"}, api.ErrForm)
	wantPart(t, api.Part{Kind: api.Put, Items: one, Link: "x"}, api.ErrForm)
	wantPart(t, api.Part{Kind: api.Cut, N: 1, To: true}, api.ErrForm)
	wantPart(t, api.Part{Kind: api.Cut, N: 1, Link: "http:x"}, api.ErrForm)
	wantPart(t, api.Part{Kind: api.Cut, N: 1, Items: one}, api.ErrForm)
}

// A list that has nothing in it is zero, however much room it has.
func TestCheckOfListsWithNothingInThem(t *testing.T) {
	for _, l := range [][]api.Item{nil, {}, items("ab")[:0]} {
		wantPart(t, api.Part{Kind: api.Keep, N: 1, Items: l}, api.OK)
		wantPart(t, api.Part{Kind: api.Cut, N: 1, Items: l}, api.OK)
	}
}

func TestCheckOfAllN(t *testing.T) {
	half := api.MaxItems / 2
	for _, first := range []api.Part{keep(half), cut(half)} {
		for _, between := range []api.Op{nil, {put("a")}, {put(strings.Repeat("a", api.MaxItems)), put("\n")}} {
			with := func(l ...api.Part) api.Op { return slices.Concat(api.Op{first}, between, l) }
			wantCheck(t, with(keep(half)), api.OK)
			wantCheck(t, with(keep(half+1)), api.ErrMany)
			wantCheck(t, with(cut(half-1), keep(1)), api.OK)
			wantCheck(t, with(cut(half), keep(1)), api.ErrMany)
			wantCheck(t, with(keep(half), cut(1)), api.ErrMany)
			wantCheck(t, with(cut(half+1)), api.ErrMany)
		}
	}
	wantCheck(t, slices.Repeat(api.Op{keep(2)}, api.MaxParts), api.OK)
	wantCheck(t, append(slices.Repeat(api.Op{keep(2)}, api.MaxParts-1), keep(3)), api.ErrMany)
	wantCheck(t, slices.Repeat(api.Op{keep(api.MaxItems)}, api.MaxParts), api.ErrMany)
}

// What is put doesn't count: that it is too much for a document only the document can tell.
func TestCheckOfManyPuts(t *testing.T) {
	most := put(strings.Repeat("a", api.MaxItems))
	wantCheck(t, append(slices.Repeat(api.Op{most}, api.MaxParts-1), keep(api.MaxItems)), api.OK)
}

func TestCheckOfTheLastPart(t *testing.T) {
	for _, p := range fair {
		want := api.ErrForm
		if p.Kind == api.Keep {
			want = api.OK
		}
		wantCheck(t, api.Op{p}, want)
		wantCheck(t, api.Op{keep(1), p}, want)
		wantCheck(t, api.Op{put("a"), cut(1), p}, want)
	}
}

// wrong is one fault of a part, and how Check tells it.
type wrong struct {
	e    api.Errno
	make func(p *api.Part)
}

// wantFirstWrong holds p with each choice of the faults, which stand as they are to be told, to the first of them.
func wantFirstWrong(t *testing.T, p api.Part, faults []wrong) {
	t.Helper()
	for choice := range 1 << len(faults) {
		q, want := p, api.OK
		for i, f := range faults {
			if choice>>i&1 != 0 {
				f.make(&q)
				want = firstOf(want, f.e)
			}
		}
		wantPart(t, q, want)
		wantCheck(t, api.Op{put("a"), q}, firstOf(want, lastError(q)))
	}
}

// lastError answers what is wrong with a last part of that kind.
func lastError(p api.Part) api.Errno {
	if p.Kind != api.Keep {
		return api.ErrForm
	}
	return api.OK
}

func TestCheckTellsTheFirstErrorOfAKeep(t *testing.T) {
	for _, n := range []int{0, -1, api.MaxItems + 1} {
		for _, set := range []int{-1, 4, 3} {
			wantFirstWrong(t, api.Part{Kind: api.Keep, N: 1, Clear: 1}, []wrong{
				{api.ErrRange, func(p *api.Part) { p.Set = set }},
				{api.ErrForm, func(p *api.Part) { p.Link = "http:x" }},
				{api.ErrRange, func(p *api.Part) { p.N = n }},
				{api.ErrForm, func(p *api.Part) { p.Items = items("a") }},
			})
			wantFirstWrong(t, api.Part{Kind: api.Keep, N: 1, Set: 2, To: true}, []wrong{
				{api.ErrRange, func(p *api.Part) { p.Clear = set }},
				{api.ErrForm, func(p *api.Part) { p.Link = "javascript:x" }},
				{api.ErrRange, func(p *api.Part) { p.N = n }},
				{api.ErrForm, func(p *api.Part) { p.Items = items("\x00") }},
			})
		}
	}
}

func TestCheckTellsTheFirstErrorOfAPut(t *testing.T) {
	for _, l := range [][]api.Item{nil, {}, make([]api.Item, api.MaxItems+1)} {
		wantFirstWrong(t, put("a"), []wrong{
			{api.ErrMany, func(p *api.Part) { p.Items = l }},
			{api.ErrForm, func(p *api.Part) { p.N = -1 }},
			{api.ErrForm, func(p *api.Part) { p.Set, p.Clear = 4, 4 }},
			{api.ErrForm, func(p *api.Part) { p.Link = "x" }},
		})
	}
	for _, x := range []api.Item{{C: 9}, {C: 'a', Marks: 4}, {C: 'a', Link: "x"}} {
		wantFirstWrong(t, put("a"), []wrong{
			{doc.Item(x), func(p *api.Part) { p.Items = []api.Item{x} }},
			{api.ErrForm, func(p *api.Part) { p.N = api.MaxItems + 1 }},
			{api.ErrForm, func(p *api.Part) { p.To = true }},
		})
	}
}

func TestCheckTellsTheFirstErrorOfACut(t *testing.T) {
	for _, n := range []int{0, -1, api.MaxItems + 1} {
		wantFirstWrong(t, cut(1), []wrong{
			{api.ErrRange, func(p *api.Part) { p.N = n }},
			{api.ErrForm, func(p *api.Part) { p.Items = items("\x00") }},
			{api.ErrForm, func(p *api.Part) { p.Set, p.Clear = 4, 4 }},
			{api.ErrForm, func(p *api.Part) { p.To, p.Link = true, "x" }},
		})
	}
}

// The part that stands first tells; all N are told with the part that brings too many, the last part behind all of them.
func TestCheckGoesPartByPart(t *testing.T) {
	for _, o := range []struct {
		l    api.Op
		want api.Errno
	}{
		{api.Op{{Kind: api.Put}, {}}, api.ErrMany},
		{api.Op{{}, {Kind: api.Put}}, api.ErrForm},
		{api.Op{cut(0), {}}, api.ErrRange},
		{api.Op{{}, cut(0)}, api.ErrForm},
		{api.Op{put("\x00"), cut(0), {}}, api.ErrText},
		{api.Op{keep(80), keep(1), {}}, api.ErrMany},
		{api.Op{keep(80), {}, keep(1)}, api.ErrForm},
		{api.Op{keep(80), cut(1), cut(0)}, api.ErrMany},
		{api.Op{keep(80), cut(0), cut(1)}, api.ErrRange},
		{api.Op{keep(80), cut(1)}, api.ErrMany},
		{api.Op{keep(80), {Kind: api.Cut, N: 1, To: true}}, api.ErrForm},
		{api.Op{keep(80), {Kind: api.Keep, N: 1, Set: 4}}, api.ErrRange},
		{api.Op{keep(80), {Kind: api.Keep, N: 1, Link: "x"}}, api.ErrForm},
		{api.Op{keep(80), {Kind: api.Keep, N: 1, Items: items("a")}}, api.ErrForm},
		{api.Op{keep(80), {Kind: api.Put, N: 1, Items: items("a")}}, api.ErrForm},
		{api.Op{keep(1), put("\x00")}, api.ErrText},
		{api.Op{keep(1), {Kind: api.Put}}, api.ErrMany},
		{api.Op{put("a"), put("b")}, api.ErrForm},
	} {
		wantCheck(t, o.l, o.want)
	}
}

func TestCheckOfEveryShortList(t *testing.T) {
	type told struct {
		p api.Part
		e api.Errno
	}
	l := []told{
		{keep(1), api.OK}, {keep(40), api.OK}, {put("a"), api.OK}, {cut(40), api.OK},
		{api.Part{}, api.ErrForm}, {keep(0), api.ErrRange}, {put(""), api.ErrMany}, {put("\x00"), api.ErrText},
	}
	parts := make([]api.Part, len(l))
	for i, x := range l {
		parts[i] = x.p
	}
	errorOf := func(p api.Part) api.Errno {
		i := slices.IndexFunc(l, func(x told) bool { return alike(api.Op{x.p}, api.Op{p}) })
		return l[i].e
	}
	everyOp(parts, 4, func(o api.Op) {
		want, n := api.OK, 0
		for _, p := range o {
			n += p.N
			want = firstOf(want, errorOf(p))
			if n > api.MaxItems {
				want = firstOf(want, api.ErrMany)
			}
		}
		if len(o) == 0 {
			want = api.ErrMany
		} else {
			want = firstOf(want, lastError(o[len(o)-1]))
		}
		wantCheck(t, o, want)
	})
}

func TestLong(t *testing.T) {
	wantLong(t, nil, 0, 0)
	wantLong(t, api.Op{}, 0, 0)
	wantLong(t, api.Op{keep(3)}, 3, 3)
	wantLong(t, api.Op{cut(3)}, 3, 0)
	wantLong(t, api.Op{put("abc")}, 0, 3)
	wantLong(t, api.Op{keep(1), put("abc"), cut(7), keep(20)}, 28, 24)
	wantLong(t, api.Op{put("ab"), put("c\n"), cut(1), cut(2), keep(4), keep(5)}, 12, 13)
	wantLong(t, api.Op{{Kind: api.Keep, N: 2, Set: 1, Clear: 2, To: true, Link: "http:x"}}, 2, 2)
}

func TestLongOfWhatIsNoOperation(t *testing.T) {
	wantLong(t, api.Op{keep(0), cut(0), put("")}, 0, 0)
	wantLong(t, api.Op{keep(-3), cut(-4)}, -7, -3)
	wantLong(t, api.Op{keep(500), cut(600), keep(1)}, 1101, 501)
	wantLong(t, api.Op{{Kind: api.Put, N: 5, Items: items("\x00\x01")}}, 0, 2)
	wantLong(t, api.Op{{Kind: api.Keep, N: 5, Items: items("ab"), Set: 9, Link: "x"}}, 5, 5)
	wantLong(t, api.Op{{Kind: api.Cut, N: 5, Items: items("ab")}}, 5, 0)
	for _, kind := range []int{0, 4, -1, math.MinInt, math.MaxInt} {
		wantLong(t, api.Op{{Kind: kind, N: 5, Items: items("ab")}, keep(1)}, 1, 1)
	}
	wantLong(t, slices.Repeat(api.Op{keep(1), cut(2), put("abc")}, 9*api.MaxParts), 27*api.MaxParts, 36*api.MaxParts)
	wantLong(t, api.Op{put(strings.Repeat("a", 3*api.MaxItems))}, 0, 3*api.MaxItems)
}

func TestSameLooksAtAllFields(t *testing.T) {
	for kind := range 5 {
		p := api.Part{Kind: kind, N: 3, Items: []api.Item{{C: 'a', Marks: 1, Link: "http:x"}, {C: '\n'}}, Set: 1, Clear: 2, To: true, Link: "http:x"}
		var others []api.Part
		for _, differ := range []func(p *api.Part){
			func(p *api.Part) { p.Kind++ },
			func(p *api.Part) { p.N++ },
			func(p *api.Part) { p.N = -p.N },
			func(p *api.Part) { p.Set = 0 },
			func(p *api.Part) { p.Clear = 0 },
			func(p *api.Part) { p.To = false },
			func(p *api.Part) { p.Link = "" },
			func(p *api.Part) { p.Link = "HTTP:x" },
			func(p *api.Part) { p.Items = nil },
			func(p *api.Part) { p.Items = p.Items[:1] },
			func(p *api.Part) { p.Items = p.Items[1:] },
			func(p *api.Part) { p.Items = append(slices.Clone(p.Items), p.Items[1]) },
			func(p *api.Part) { p.Items = []api.Item{p.Items[1], p.Items[0]} },
			func(p *api.Part) { p.Items = slices.Clone(p.Items); p.Items[0].C++ },
			func(p *api.Part) { p.Items = slices.Clone(p.Items); p.Items[1].Marks = 4 },
			func(p *api.Part) { p.Items = slices.Clone(p.Items); p.Items[0].Link = "" },
			func(p *api.Part) { p.Items = slices.Clone(p.Items); p.Items[1].Link = "x" },
		} {
			other := p
			differ(&other)
			others = append(others, other)
		}
		for _, other := range others {
			for _, l := range [][2]api.Op{
				{{p}, {other}}, {{other}, {p}}, {{p, p}, {p, other}}, {{p, p}, {other, p}}, {{other, p}, {p, other}},
			} {
				if Same(l[0], l[1]) {
					t.Errorf("%#v and %#v are alike", l[0], l[1])
				}
				if !Same(l[1], copyOf(l[1])) {
					t.Errorf("%#v and its copy aren't alike", l[1])
				}
			}
		}
	}
}

func TestSameOfListsWithNothingInThem(t *testing.T) {
	none := []api.Op{nil, {}, make(api.Op, 0, 9), api.Op{keep(1)}[:0]}
	for _, a := range none {
		for _, b := range none {
			if !Same(a, b) {
				t.Error("operations without parts aren't alike")
			}
		}
		if Same(a, make(api.Op, 1)) || Same(make(api.Op, 1), a) {
			t.Error("one part and none are alike")
		}
	}
	empty := [][]api.Item{nil, {}, items("ab")[:0]}
	for kind := range 5 {
		for _, a := range empty {
			for _, b := range empty {
				if !Same(api.Op{{Kind: kind, Items: a}}, api.Op{{Kind: kind, Items: b}}) {
					t.Errorf("parts of kind %d without items aren't alike", kind)
				}
			}
		}
	}
}

func TestSameOfWhatIsNoOperation(t *testing.T) {
	long := slices.Repeat(api.Op{{Kind: math.MinInt, N: -1, Items: items("\x00"), Set: 9, Clear: 9, Link: "x"}}, 9*api.MaxParts)
	other := copyOf(long)
	if !Same(long, other) || !Same(other, long) || !Same(long, long) {
		t.Error("two long lists of the same parts aren't alike")
	}
	other[len(other)-1].Items[0].Marks = math.MinInt
	if Same(long, other) || Same(long, long[1:]) {
		t.Error("two other long lists are alike")
	}
}

func TestSameOfEveryTwo(t *testing.T) {
	var l []api.Op
	everyOp(fair, 2, func(o api.Op) { l = append(l, o) })
	for i, a := range l {
		for j, b := range l {
			if got := Same(a, copyOf(b)); got != (i == j) {
				t.Fatalf("Same(%#v, %#v) = %v", a, b, got)
			}
		}
	}
}

func TestApplyTellsTheFirstError(t *testing.T) {
	d := text(5)
	tooMany := make(api.Doc, api.MaxItems+1)
	wrongText := api.Doc{{C: 9}, {C: 10}}
	wrongForm := api.Doc(items("ab"))
	for _, o := range []api.Op{nil, {{}}, {keep(0)}, {keep(1)}, {keep(5)}, {cut(1)}, {keep(2)}, {put(""), keep(5)}} {
		wantNoApply(t, tooMany, o, api.ErrMany)
		wantNoApply(t, wrongText, o, api.ErrText)
		wantNoApply(t, api.Doc{{C: 'a', Marks: 4}, {C: 10}}, o, api.ErrRange)
		wantNoApply(t, wrongForm, o, api.ErrForm)
		wantNoApply(t, nil, o, api.ErrForm)
		wantNoApply(t, api.Doc{}, o, api.ErrForm)
	}
	for _, o := range []api.Op{
		nil, {}, {{}}, {keep(0)}, {cut(5)}, {keep(5), put("a")}, {keep(4), cut(1)}, {keep(80), keep(1)}, {put("\x00"), keep(5)},
		{{Kind: api.Keep, N: 5, Link: "http:x"}}, {{Kind: api.Keep, N: 4, Set: 1, Clear: 1}}, slices.Repeat(api.Op{keep(1)}, api.MaxParts+1),
	} {
		e := Check(o)
		if e == api.OK {
			t.Fatalf("%#v is an operation", o)
		}
		wantNoApply(t, d, o, e)
	}
}

func TestApplyToAnotherLength(t *testing.T) {
	most := put(strings.Repeat("a", api.MaxItems))
	for n := 1; n <= api.MaxItems; n++ {
		o := api.Op{keep(n)}
		if n == 5 {
			wantApply(t, text(5), o, text(5))
			continue
		}
		wantNoApply(t, text(5), o, api.ErrBase)
		wantNoApply(t, text(5), api.Op{most, keep(n)}, api.ErrBase)
	}
	wantNoApply(t, text(5), api.Op{cut(1), put("abc"), keep(3)}, api.ErrBase)
	wantNoApply(t, text(5), api.Op{cut(1), keep(5)}, api.ErrBase)
	wantNoApply(t, text(5), api.Op{put("a"), keep(4)}, api.ErrBase)
}

func TestApplyOfManyItems(t *testing.T) {
	for _, n := range []int{1, 2, 40, api.MaxItems - 1} {
		d, fill := text(n), strings.Repeat("a", api.MaxItems-n)
		wantApply(t, d, api.Op{put(fill), keep(n)}, slices.Concat(items(fill), d))
		wantNoApply(t, d, api.Op{put(fill + "a"), keep(n)}, api.ErrMany)
		wantNoApply(t, d, api.Op{put(fill), put("a"), keep(n)}, api.ErrMany)
	}
	d := text(api.MaxItems)
	wantApply(t, d, api.Op{keep(api.MaxItems)}, d)
	wantNoApply(t, d, api.Op{put("a"), keep(api.MaxItems)}, api.ErrMany)
	wantNoApply(t, d, api.Op{keep(1), put("ab"), cut(1), keep(api.MaxItems - 2)}, api.ErrMany)
	// What is put ahead of a Cut may be too many for a while, if it isn't when all is done.
	wantApply(t, d, api.Op{put("a"), cut(1), keep(api.MaxItems - 1)}, slices.Concat(items("a"), d[1:]))
	most := strings.Repeat("b", api.MaxItems-1)
	wantApply(t, d, api.Op{put(most), cut(api.MaxItems - 1), keep(1)}, slices.Concat(items(most), d[api.MaxItems-1:]))
	all := append(slices.Repeat(api.Op{put(most + "b")}, api.MaxParts-1), keep(api.MaxItems))
	wantNoApply(t, d, all, api.ErrMany)
}

func TestApplyKeepsMarks(t *testing.T) {
	for set := range 4 {
		for clear := range 4 {
			if set&clear != 0 {
				continue
			}
			for marks := range 4 {
				d := api.Doc{{C: 'a', Marks: marks, Link: "http:x"}, {C: 10, Marks: marks}}
				want := slices.Clone(d)
				for i := range want {
					for _, m := range []int{api.Bold, api.Slant} {
						if set&m != 0 {
							want[i].Marks |= m
						}
						if clear&m != 0 {
							want[i].Marks &^= m
						}
					}
				}
				wantApply(t, d, api.Op{{Kind: api.Keep, N: 2, Set: set, Clear: clear}}, want)
				wantApply(t, d, api.Op{{Kind: api.Keep, N: 1, Set: set, Clear: clear}, keep(1)}, api.Doc{want[0], d[1]})
				wantApply(t, d, api.Op{keep(1), {Kind: api.Keep, N: 1, Set: set, Clear: clear}}, api.Doc{d[0], want[1]})
			}
		}
	}
}

// Ends of blocks keep having no link, whatever becomes of those of the characters beside them.
func TestApplyKeepsLinks(t *testing.T) {
	d := api.Doc{{C: 'a'}, {C: 10, Marks: 1}, {C: 'b', Marks: 2, Link: "http:x"}, {C: 10}}
	linked := func(s string) api.Doc {
		return api.Doc{{C: 'a', Link: s}, {C: 10, Marks: 1}, {C: 'b', Marks: 2, Link: s}, {C: 10}}
	}
	for _, s := range []string{"", "http:x", "mailto:y"} {
		wantApply(t, d, api.Op{{Kind: api.Keep, N: 4, To: true, Link: s}}, linked(s))
		wantApply(t, d, api.Op{keep(2), {Kind: api.Keep, N: 2, To: true, Link: s}}, slices.Concat(d[:2], linked(s)[2:]))
		wantApply(t, d, api.Op{{Kind: api.Keep, N: 1, To: true, Link: s}, keep(3)}, slices.Concat(linked(s)[:1], d[1:]))
		wantApply(t, d, api.Op{keep(3), {Kind: api.Keep, N: 1, To: true, Link: s}}, d)
	}
	wantApply(t, d, api.Op{keep(4)}, d)
	wantApply(t, d, api.Op{{Kind: api.Keep, N: 4, Set: 2, Clear: 1, To: true, Link: "http:y"}},
		api.Doc{{C: 'a', Marks: 2, Link: "http:y"}, {C: 10, Marks: 2}, {C: 'b', Marks: 2, Link: "http:y"}, {C: 10, Marks: 2}})
}

func TestApplyPutsAndCuts(t *testing.T) {
	d := api.Doc(items("abc\n"))
	for _, x := range []struct {
		o    api.Op
		want string
	}{
		{api.Op{put("x"), keep(4)}, "xabc\n"},
		{api.Op{keep(1), put("x"), keep(3)}, "axbc\n"},
		{api.Op{keep(3), put("x"), keep(1)}, "abcx\n"},
		{api.Op{keep(3), put("x\ny"), keep(1)}, "abcx\ny\n"},
		{api.Op{put("x"), put("yz"), keep(4)}, "xyzabc\n"},
		{api.Op{cut(1), keep(3)}, "bc\n"},
		{api.Op{keep(1), cut(1), keep(2)}, "ac\n"},
		{api.Op{keep(1), cut(1), cut(1), keep(1)}, "a\n"},
		{api.Op{cut(3), keep(1)}, "\n"},
		{api.Op{put("xy"), cut(2), keep(2)}, "xyc\n"},
		{api.Op{cut(2), put("xy"), keep(2)}, "xyc\n"},
		{api.Op{cut(1), put("x"), cut(1), put("y"), keep(2)}, "xyc\n"},
		{api.Op{put("x"), cut(1), put("y"), cut(1), keep(2)}, "xyc\n"},
		{api.Op{keep(1), put("x"), keep(1), cut(1), put("y"), keep(1)}, "axby\n"},
		{api.Op{cut(3), put("x"), keep(1)}, "x\n"},
	} {
		wantApply(t, d, x.o, api.Doc(items(x.want)))
	}
	wantApply(t, items("\n"), api.Op{keep(1)}, items("\n"))
	wantApply(t, items("\n"), api.Op{put("\n"), keep(1)}, items("\n\n"))
	wantApply(t, items("a\nb\n"), api.Op{keep(1), cut(1), keep(2)}, items("ab\n"))
}

// A Keep does nothing to what is put beside it.
func TestApplyPutsItemsAsTheyAre(t *testing.T) {
	l := []api.Item{{C: 'x', Marks: 3, Link: "http:y"}, {C: 10, Marks: 2}, {C: 'z'}}
	p := api.Part{Kind: api.Put, Items: l}
	all := api.Part{Kind: api.Keep, N: 1, Set: 1, Clear: 2, To: true, Link: "http:x"}
	wantApply(t, items("a\n"), api.Op{all, p, all},
		slices.Concat([]api.Item{{C: 'a', Marks: 1, Link: "http:x"}}, l, []api.Item{{C: 10, Marks: 1}}))
}

// fromBehind does o to d from its last part on, which is another way than the program's.
func fromBehind(d api.Doc, o api.Op) api.Doc {
	var made api.Doc
	for i := len(o) - 1; i >= 0; i-- {
		p := o[i]
		if p.Kind == api.Put {
			made = slices.Concat(p.Items, made)
		}
		for range p.N {
			x := d[len(d)-1]
			d = d[:len(d)-1]
			if p.Kind == api.Cut {
				continue
			}
			if p.To && x.C != 10 {
				x.Link = p.Link
			}
			marks := 0
			for _, m := range []int{1, 2} {
				if p.Set&m != 0 || x.Marks&m != 0 && p.Clear&m == 0 {
					marks += m
				}
			}
			x.Marks = marks
			made = slices.Concat(api.Doc{x}, made)
		}
	}
	return made
}

// byPairs makes o tidy by turning two parts that stand together, as long as there are such, which is another way than the program's.
func byPairs(o api.Op) api.Op {
	o = slices.Clone(o)
	for i := 0; i+1 < len(o); i++ {
		a, b := o[i], o[i+1]
		switch {
		case a.Kind == api.Cut && b.Kind == api.Put:
			o[i], o[i+1] = b, a
		case a.Kind == api.Put && b.Kind == api.Put:
			a.Items = slices.Concat(a.Items, b.Items)
			o = slices.Concat(o[:i], api.Op{a}, o[i+2:])
		case a.Kind == api.Cut && b.Kind == api.Cut,
			a.Kind == api.Keep && b.Kind == api.Keep && alike(api.Op{{Set: a.Set, Clear: a.Clear, To: a.To, Link: a.Link}}, api.Op{{Set: b.Set, Clear: b.Clear, To: b.To, Link: b.Link}}):
			a.N += b.N
			o = slices.Concat(o[:i], api.Op{a}, o[i+2:])
		default:
			continue
		}
		i = -1
	}
	return o
}

func TestEveryShortOperation(t *testing.T) {
	everyOp(fair, 5, func(o api.Op) {
		if Check(o) != api.OK {
			return
		}
		wantTidy(t, o, byPairs(o))
		from, to := Long(o)
		d := text(from)
		wantApply(t, d, o, fromBehind(d, o))
		made, _ := Apply(d, o)
		if e := doc.Check(made); e != api.OK || len(made) != to {
			t.Fatalf("Apply(%#v, %#v) = %#v: %d items of %d, error %d", d, o, made, len(made), to, e)
		}
		tidy, _ := Tidy(o)
		wantApply(t, d, tidy, made)
		wantTidy(t, tidy, tidy)
	})
}

// seeded hands on numbers below n, one after the other, always the same ones.
func seeded(seed uint32) func(n int) int {
	return func(n int) int {
		seed = seed*1664525 + 1013904223
		return int(seed>>16) % n
	}
}

// somePart answers a part that may stand in an operation, of at most n items.
func somePart(below func(n int) int, n int) api.Part {
	n = 1 + below(n)
	switch below(4) {
	case 0:
		return api.Part{Kind: api.Put, Items: text(n)}
	case 1:
		return cut(n)
	}
	set := below(4)
	p := api.Part{Kind: api.Keep, N: n, Set: set, Clear: below(4) &^ set, To: below(2) == 0}
	if p.To && below(2) == 0 {
		p.Link = "http:z"
	}
	return p
}

func TestLongOperations(t *testing.T) {
	below := seeded(7)
	done := 0
	for range 4000 {
		var o api.Op
		for range 1 + below(api.MaxParts) {
			o = append(o, somePart(below, 1+below(5)))
		}
		if Check(o) != api.OK {
			continue
		}
		from, to := Long(o)
		d := text(from)
		if tidy, e := Tidy(o); !alike(tidy, byPairs(o)) || e != api.OK {
			t.Fatalf("Tidy(%#v) = %#v, %d", o, tidy, e)
		}
		if to > api.MaxItems {
			wantNoApply(t, d, o, api.ErrMany)
			continue
		}
		done++
		wantApply(t, d, o, fromBehind(d, o))
		tidy, _ := Tidy(o)
		wantApply(t, d, tidy, fromBehind(d, o))
		if e := doc.Check(fromBehind(d, o)); e != api.OK {
			t.Fatalf("%#v makes no document of %#v: %d", o, d, e)
		}
	}
	if done < 500 {
		t.Fatalf("only %d operations were done", done)
	}
}

func TestTidyOfPutsAndCuts(t *testing.T) {
	for _, x := range []struct{ o, want api.Op }{
		{api.Op{put("a"), put("bc"), keep(1)}, api.Op{put("abc"), keep(1)}},
		{api.Op{cut(1), cut(2), cut(3), keep(1)}, api.Op{cut(6), keep(1)}},
		{api.Op{cut(1), put("a"), keep(1)}, api.Op{put("a"), cut(1), keep(1)}},
		{api.Op{cut(1), put("a"), cut(2), put("b"), put("c"), cut(3), keep(1)}, api.Op{put("abc"), cut(6), keep(1)}},
		{api.Op{put("b"), cut(2), put("a"), keep(1)}, api.Op{put("ba"), cut(2), keep(1)}},
		{api.Op{put("a"), keep(1), put("b"), keep(1)}, api.Op{put("a"), keep(1), put("b"), keep(1)}},
		{api.Op{cut(1), keep(1), cut(1), put("a"), keep(1)}, api.Op{cut(1), keep(1), put("a"), cut(1), keep(1)}},
		{api.Op{keep(1), put("a"), keep(1), cut(2), keep(1)}, api.Op{keep(1), put("a"), keep(1), cut(2), keep(1)}},
		{append(slices.Repeat(api.Op{cut(1), put("a")}, 19), keep(1)), api.Op{put(strings.Repeat("a", 19)), cut(19), keep(1)}},
	} {
		wantTidy(t, x.o, x.want)
	}
}

func TestTidyOfKeeps(t *testing.T) {
	says := []api.Part{
		keep(1),
		{Kind: api.Keep, N: 1, Set: 1},
		{Kind: api.Keep, N: 1, Set: 2},
		{Kind: api.Keep, N: 1, Clear: 1},
		{Kind: api.Keep, N: 1, Set: 2, Clear: 1},
		{Kind: api.Keep, N: 1, To: true},
		{Kind: api.Keep, N: 1, To: true, Link: "http:x"},
		{Kind: api.Keep, N: 1, To: true, Link: "HTTP:x"},
		{Kind: api.Keep, N: 1, Set: 2, Clear: 1, To: true, Link: "http:x"},
	}
	for i, a := range says {
		for j, b := range says {
			b.N = 3
			if i != j {
				wantTidy(t, api.Op{a, b}, api.Op{a, b})
				wantTidy(t, api.Op{a, b, a}, api.Op{a, b, a})
				continue
			}
			all := a
			all.N = 4
			wantTidy(t, api.Op{a, b}, api.Op{all})
			wantTidy(t, api.Op{a, put("a"), b}, api.Op{a, put("a"), b})
			wantTidy(t, api.Op{a, cut(1), b}, api.Op{a, cut(1), b})
			wantTidy(t, api.Op{put("a"), a, b, cut(1), b, a}, api.Op{put("a"), all, cut(1), all})
		}
	}
	wantTidy(t, slices.Repeat(api.Op{keep(2)}, api.MaxParts), api.Op{keep(api.MaxItems)})
}

// The words ask for one Put of all Items; that it is more than Check lets pass is for those who go on with it.
func TestTidyOfMorePutsThanFit(t *testing.T) {
	most := strings.Repeat("a", api.MaxItems)
	o := api.Op{put(most), cut(1), put("b"), keep(1)}
	want := api.Op{put(most + "b"), cut(1), keep(1)}
	wantTidy(t, o, want)
	wantCheck(t, want, api.ErrMany)
	wantNoApply(t, text(2), o, api.ErrMany)
	wantNoApply(t, text(2), want, api.ErrMany)
	wantTidy(t, append(slices.Repeat(api.Op{put(most)}, api.MaxParts-1), keep(1)), api.Op{put(strings.Repeat(most, api.MaxParts-1)), keep(1)})
}

// What is no operation is tidied as well: more parts than it may have, more items, no Keep at its end.
func TestTidied(t *testing.T) {
	for _, x := range []struct{ o, want api.Op }{
		{nil, nil},
		{api.Op{}, nil},
		{api.Op{cut(1), put("a")}, api.Op{put("a"), cut(1)}},
		{api.Op{keep(1), put("a"), cut(1), put("b")}, api.Op{keep(1), put("ab"), cut(1)}},
		{api.Op{keep(api.MaxItems), keep(1)}, api.Op{keep(api.MaxItems + 1)}},
		{slices.Repeat(api.Op{keep(1)}, 9*api.MaxParts), api.Op{keep(9 * api.MaxParts)}},
		{slices.Repeat(api.Op{cut(1), put("a")}, 9*api.MaxParts), api.Op{put(strings.Repeat("a", 9*api.MaxParts)), cut(9 * api.MaxParts)}},
		{slices.Repeat(api.Op{keep(1), cut(1)}, api.MaxParts), slices.Repeat(api.Op{keep(1), cut(1)}, api.MaxParts)},
	} {
		if got := Tidied(x.o); !alike(got, x.want) {
			t.Errorf("Tidied(%#v) = %#v, want %#v", x.o, got, x.want)
		}
	}
	everyOp(fair, 4, func(o api.Op) {
		if got := Tidied(o); !alike(got, byPairs(o)) {
			t.Fatalf("Tidied(%#v) = %#v", o, got)
		}
	})
}

func TestChanged(t *testing.T) {
	for _, p := range fair[:5] {
		for n := range 9 {
			l := append(text(9)[:n], items("room")...)[:n]
			kept := slices.Clone(l[:cap(l)])
			p.N = n
			want := fromBehind(l, api.Op{p})
			got := Changed(l, p)
			if !slices.Equal(got, want) {
				t.Fatalf("Changed(%#v, %#v) = %#v, want %#v", l, p, got, want)
			}
			spoil(got)
			if !slices.Equal(l[:cap(l)], kept) {
				t.Fatalf("Changed(%#v, %#v) changes what was handed in", l, p)
			}
		}
	}
}

// roomy answers o, laid in lists that have more in them behind their ends.
func roomy(o api.Op) api.Op {
	room := api.Op{}
	for _, p := range o {
		p.Items = append(slices.Clone(p.Items), items("room")...)[:len(p.Items)]
		room = append(room, p)
	}
	return append(room, keep(7), put("z"))[:len(o)]
}

// withRoom answers a copy of o with all that its lists have room for.
func withRoom(o api.Op) api.Op {
	o = slices.Clone(o[:cap(o)])
	for i := range o {
		o[i].Items = o[i].Items[:cap(o[i].Items)]
	}
	return copyOf(o)
}

// spoil writes over all that a list has, and has room for.
func spoil(l []api.Item) {
	l = l[:cap(l)]
	for i := range l {
		l[i] = api.Item{C: 255, Marks: -1, Link: "spoilt"}
	}
}

func TestNothingHandedInIsChangedOrAnswered(t *testing.T) {
	everyOp(fair, 3, func(short api.Op) {
		o := roomy(short)
		from, _ := Long(o)
		d := append(text(max(from, 1)), items("room")...)[:max(from, 1)]
		keptOp, keptDoc := withRoom(o), slices.Clone(d[:cap(d)])
		Check(o)
		Long(o)
		Same(o, short)
		made, _ := Apply(d, o)
		spoil(made)
		tidy, _ := Tidy(o)
		tidy = tidy[:cap(tidy)]
		for i := range tidy {
			spoil(tidy[i].Items)
			tidy[i] = api.Part{Kind: -1}
		}
		if !alike(withRoom(o), keptOp) || !slices.Equal(d[:cap(d)], keptDoc) {
			t.Fatalf("of %#v something is changed", short)
		}
	})
}

func TestTidyAnswersListsOfTheirOwn(t *testing.T) {
	o := roomy(api.Op{put("a"), put("b"), keep(1), put("c"), cut(1), keep(1), put("de"), keep(1)})
	want := api.Op{put("ab"), keep(1), put("c"), cut(1), keep(1), put("de"), keep(1)}
	for i := range want {
		tidy, _ := Tidy(o)
		spoil(tidy[i].Items)
		tidy[i].Items = want[i].Items
		if !alike(tidy, want) {
			t.Fatalf("what is written into part %d shows in others: %#v", i, tidy)
		}
	}
	wantTidy(t, o, want)
}

func TestCopy(t *testing.T) {
	for _, o := range []api.Op{nil, {}, {put("ab"), cut(1), put("c"), keep(1)}, {{}}, {{Kind: -1, N: -2, Items: items("x"), Set: 9, Clear: -9, To: true, Link: "javascript:x"}, {Items: []api.Item{}}}} {
		o = roomy(o)
		kept := withRoom(o)
		want := copyOf(o)
		for i := range want {
			got := Copy(o)
			spoil(got[i].Items)
			got[i].Items = want[i].Items
			if !alike(got, want) {
				t.Fatalf("what is written into part %d shows in others: %#v", i, got)
			}
		}
		got := Copy(o)
		if !alike(got, want) {
			t.Fatalf("Copy(%#v) = %#v", o, got)
		}
		got = got[:cap(got)]
		for i := range got {
			spoil(got[i].Items)
			got[i] = api.Part{Kind: -1}
		}
		if !alike(withRoom(o), kept) {
			t.Fatalf("of %#v something is changed", o)
		}
	}
}
