package ot

import (
	"math"
	"slices"
	"strings"
	"testing"

	"manyhands/api"
	"manyhands/op"
)

func keep(n int) api.Part { return api.Part{Kind: api.Keep, N: n} }

func cut(n int) api.Part { return api.Part{Kind: api.Cut, N: n} }

func put(s string) api.Part { return api.Part{Kind: api.Put, Items: items(s)} }

// mark answers a Keep of n items that sets and clears these marks.
func mark(n, set, clear int) api.Part {
	return api.Part{Kind: api.Keep, N: n, Set: set, Clear: clear}
}

// lead answers a Keep of n items that makes the link s.
func lead(n int, s string) api.Part {
	return api.Part{Kind: api.Keep, N: n, To: true, Link: s}
}

// items answers those of s, without marks and links.
func items(s string) []api.Item {
	var l []api.Item
	for i := 0; i < len(s); i++ {
		l = append(l, api.Item{C: s[i]})
	}
	return l
}

// text answers a document of n items with all marks, links and ends of blocks in it.
func text(n int) api.Doc {
	l := []api.Item{{C: 'a', Marks: 1}, {C: 'b', Link: "http:&"}, {C: '\n', Marks: 3}, {C: 'c', Marks: 2, Link: "http:x"}, {C: '\n'}}
	var d api.Doc
	for i := range n - 1 {
		d = append(d, l[i%len(l)])
	}
	return append(d, api.Item{C: '\n', Marks: 2})
}

// alike holds operations against each other without the program's Same.
func alike(a, b api.Op) bool {
	return slices.EqualFunc(a, b, func(p, q api.Part) bool {
		return p.Kind == q.Kind && p.N == q.N && p.Set == q.Set && p.Clear == q.Clear && p.To == q.To && p.Link == q.Link && slices.Equal(p.Items, q.Items)
	})
}

// copyOf answers o with lists of its own.
func copyOf(o api.Op) api.Op {
	o = slices.Clone(o)
	for i := range o {
		o[i].Items = slices.Clone(o[i].Items)
	}
	return o
}

func wantTurn(t *testing.T, a, b, x, y api.Op) {
	t.Helper()
	gotX, gotY, e := Turn(a, b)
	if !alike(gotX, x) || !alike(gotY, y) || e != api.OK {
		t.Fatalf("Turn(%v, %v) = %v, %v, %d, want %v, %v, OK", a, b, gotX, gotY, e, x, y)
	}
}

func wantNoTurn(t *testing.T, a, b api.Op, want api.Errno) {
	t.Helper()
	if x, y, e := Turn(a, b); x != nil || y != nil || e != want {
		t.Fatalf("Turn(%v, %v) = %v, %v, %d, want nothing, %d", a, b, x, y, e, want)
	}
}

func wantJoin(t *testing.T, a, b, want api.Op) {
	t.Helper()
	if got, e := Join(a, b); !alike(got, want) || e != api.OK {
		t.Fatalf("Join(%v, %v) = %v, %d, want %v, OK", a, b, got, e, want)
	}
}

func wantNoJoin(t *testing.T, a, b api.Op, want api.Errno) {
	t.Helper()
	if got, e := Join(a, b); got != nil || e != want {
		t.Fatalf("Join(%v, %v) = %v, %d, want nothing, %d", a, b, got, e, want)
	}
}

// Operations that are none, and how that is told.
var wrong = []struct {
	o api.Op
	e api.Errno
}{
	{nil, api.ErrMany},
	{api.Op{}, api.ErrMany},
	{make(api.Op, api.MaxParts+1), api.ErrMany},
	{api.Op{{}}, api.ErrForm},
	{api.Op{{Kind: 4, N: 1}, {Kind: api.Keep, N: 1}}, api.ErrForm},
	{api.Op{{Kind: math.MinInt, N: math.MinInt}}, api.ErrForm},
	{api.Op{{Kind: api.Keep}}, api.ErrRange},
	{api.Op{{Kind: api.Keep, N: -1}}, api.ErrRange},
	{api.Op{{Kind: api.Keep, N: math.MaxInt}}, api.ErrRange},
	{api.Op{{Kind: api.Keep, N: 1, Set: 1, Clear: 1}}, api.ErrRange},
	{api.Op{{Kind: api.Keep, N: 1, Set: -1}}, api.ErrRange},
	{api.Op{{Kind: api.Keep, N: 1, To: true, Link: "javascript:x"}}, api.ErrForm},
	{api.Op{{Kind: api.Cut, N: math.MinInt}, {Kind: api.Keep, N: 1}}, api.ErrRange},
	{api.Op{{Kind: api.Cut, N: 1}}, api.ErrForm},
	{api.Op{{Kind: api.Put}, {Kind: api.Keep, N: 1}}, api.ErrMany},
	{api.Op{{Kind: api.Put, Items: make([]api.Item, api.MaxItems+1)}, {Kind: api.Keep, N: 1}}, api.ErrMany},
	{api.Op{{Kind: api.Put, Items: []api.Item{{C: 9}}}, {Kind: api.Keep, N: 1}}, api.ErrText},
	{api.Op{{Kind: api.Put, Items: []api.Item{{C: 'a', Marks: 4}}}, {Kind: api.Keep, N: 1}}, api.ErrRange},
	{api.Op{{Kind: api.Keep, N: 1}, {Kind: api.Put, Items: []api.Item{{C: 'a'}}}}, api.ErrForm},
	{api.Op{{Kind: api.Keep, N: api.MaxItems}, {Kind: api.Keep, N: 1}}, api.ErrMany},
	{api.Op{{Kind: api.Keep, N: api.MaxItems}, {Kind: api.Cut, N: 1}, {}}, api.ErrMany},
}

func TestWhatIsNoOperationIsToldFirst(t *testing.T) {
	most := strings.Repeat("a", api.MaxItems)
	right := []api.Op{{keep(1)}, {keep(2)}, {keep(1), put("a"), keep(1)}, {cut(1), keep(1)}, {put(most), put(most), keep(api.MaxItems)}}
	for _, w := range wrong {
		for _, o := range right {
			wantNoTurn(t, w.o, o, w.e)
			wantNoTurn(t, o, w.o, w.e)
			wantNoJoin(t, w.o, o, w.e)
			wantNoJoin(t, o, w.o, w.e)
		}
		for _, v := range wrong {
			wantNoTurn(t, w.o, v.o, w.e)
			wantNoJoin(t, w.o, v.o, w.e)
		}
	}
}

func TestTurnOfUnlikeLengths(t *testing.T) {
	for n := 1; n <= api.MaxItems; n++ {
		if n == 3 {
			continue
		}
		wantNoTurn(t, api.Op{keep(n)}, api.Op{keep(3)}, api.ErrBase)
		wantNoTurn(t, api.Op{keep(3)}, api.Op{keep(n)}, api.ErrBase)
	}
	// What is put doesn't count, what is cut does, and what would be too many isn't told ahead of it.
	wantNoTurn(t, api.Op{put("a"), keep(2)}, api.Op{keep(3)}, api.ErrBase)
	wantNoTurn(t, api.Op{cut(1), keep(3)}, api.Op{keep(3)}, api.ErrBase)
	wantNoTurn(t, api.Op{keep(3)}, api.Op{keep(2), put("a")}, api.ErrForm)
	wantNoTurn(t, api.Op{put("ab"), cut(1), keep(1)}, api.Op{put("a"), keep(3)}, api.ErrBase)
	most := put(strings.Repeat("a", api.MaxItems))
	wantNoTurn(t, api.Op{most, most, keep(2)}, api.Op{keep(3)}, api.ErrBase)
	wantNoTurn(t, api.Op{keep(3)}, api.Op{most, keep(2)}, api.ErrBase)
	wantTurn(t, api.Op{cut(1), keep(2)}, api.Op{keep(3)}, api.Op{cut(1), keep(2)}, api.Op{keep(2)})
}

func TestJoinOfUnlikeLengths(t *testing.T) {
	for n := 1; n <= api.MaxItems; n++ {
		if n != 3 {
			wantNoJoin(t, api.Op{keep(n)}, api.Op{keep(3)}, api.ErrBase)
			wantNoJoin(t, api.Op{keep(3)}, api.Op{keep(n)}, api.ErrBase)
		}
	}
	wantNoJoin(t, api.Op{put("a"), keep(3)}, api.Op{keep(3)}, api.ErrBase)
	wantNoJoin(t, api.Op{cut(1), keep(2)}, api.Op{keep(3)}, api.ErrBase)
	wantNoJoin(t, api.Op{keep(3)}, api.Op{put("a"), keep(2)}, api.ErrBase)
	wantNoJoin(t, api.Op{keep(3)}, api.Op{cut(1), keep(3)}, api.ErrBase)
	most := put(strings.Repeat("a", api.MaxItems))
	wantNoJoin(t, api.Op{most, keep(1)}, api.Op{keep(api.MaxItems)}, api.ErrBase)
	wantNoJoin(t, api.Op{keep(2)}, api.Op{most, most, keep(3)}, api.ErrBase)
	wantJoin(t, api.Op{put("a"), keep(2)}, api.Op{keep(3)}, api.Op{put("a"), keep(2)})
	wantJoin(t, api.Op{cut(1), keep(3)}, api.Op{keep(3)}, api.Op{cut(1), keep(3)})
}

func TestTurnOfPuts(t *testing.T) {
	wantTurn(t, api.Op{keep(1), put("x"), keep(2)}, api.Op{keep(1), put("y"), keep(2)},
		api.Op{keep(1), put("x"), keep(3)}, api.Op{keep(2), put("y"), keep(2)})
	wantTurn(t, api.Op{put("x"), keep(3)}, api.Op{keep(2), put("y"), keep(1)},
		api.Op{put("x"), keep(4)}, api.Op{keep(3), put("y"), keep(1)})
	wantTurn(t, api.Op{keep(2), put("x"), keep(1)}, api.Op{put("y"), keep(3)},
		api.Op{keep(3), put("x"), keep(1)}, api.Op{put("y"), keep(4)})
	// All that the first one puts at a place stands ahead of all that the other one puts there.
	wantTurn(t, api.Op{put("x"), put("yz"), keep(1)}, api.Op{put("1"), put("2"), put("3"), keep(1)},
		api.Op{put("xyz"), keep(4)}, api.Op{keep(3), put("123"), keep(1)})
	wantTurn(t, api.Op{keep(1)}, api.Op{keep(1)}, api.Op{keep(1)}, api.Op{keep(1)})
	linked := api.Part{Kind: api.Put, Items: []api.Item{{C: 'x', Marks: 3, Link: "http:x"}, {C: '\n', Marks: 1}}}
	wantTurn(t, api.Op{linked, keep(1)}, api.Op{mark(1, 1, 2)}, api.Op{linked, keep(1)}, api.Op{keep(2), mark(1, 1, 2)})
	wantTurn(t, api.Op{mark(1, 1, 2)}, api.Op{linked, keep(1)}, api.Op{keep(2), mark(1, 1, 2)}, api.Op{linked, keep(1)})
}

func TestTurnOfCuts(t *testing.T) {
	for _, x := range []struct{ a, b, x, y api.Op }{
		{api.Op{cut(2), keep(1)}, api.Op{keep(3)}, api.Op{cut(2), keep(1)}, api.Op{keep(1)}},
		{api.Op{keep(3)}, api.Op{cut(2), keep(1)}, api.Op{keep(1)}, api.Op{cut(2), keep(1)}},
		{api.Op{cut(2), keep(1)}, api.Op{cut(2), keep(1)}, api.Op{keep(1)}, api.Op{keep(1)}},
		{api.Op{cut(2), keep(2)}, api.Op{keep(1), cut(2), keep(1)}, api.Op{cut(1), keep(1)}, api.Op{cut(1), keep(1)}},
		{api.Op{keep(1), cut(3), keep(1)}, api.Op{keep(2), cut(1), keep(2)}, api.Op{keep(1), cut(2), keep(1)}, api.Op{keep(2)}},
		{api.Op{cut(2), keep(1)}, api.Op{keep(1), put("y"), keep(2)}, api.Op{cut(1), keep(1), cut(1), keep(1)}, api.Op{put("y"), keep(1)}},
		{api.Op{keep(1), put("x"), keep(2)}, api.Op{cut(2), keep(1)}, api.Op{put("x"), keep(1)}, api.Op{cut(1), keep(1), cut(1), keep(1)}},
		{api.Op{put("x"), cut(2), keep(1)}, api.Op{cut(2), put("y"), keep(1)}, api.Op{put("x"), keep(2)}, api.Op{keep(1), put("y"), keep(1)}},
		{api.Op{cut(2), put("x"), keep(1)}, api.Op{put("y"), cut(2), keep(1)}, api.Op{keep(1), put("x"), keep(1)}, api.Op{put("y"), keep(2)}},
		{api.Op{cut(1), put("x"), keep(1)}, api.Op{put("y"), keep(2)}, api.Op{keep(1), put("x"), cut(1), keep(1)}, api.Op{put("y"), keep(2)}},
		{api.Op{mark(2, 1, 0), keep(1)}, api.Op{keep(1), cut(1), keep(1)}, api.Op{mark(1, 1, 0), keep(1)}, api.Op{keep(1), cut(1), keep(1)}},
		{api.Op{cut(1), keep(2)}, api.Op{lead(2, "http:x"), keep(1)}, api.Op{cut(1), keep(2)}, api.Op{lead(1, "http:x"), keep(1)}},
	} {
		wantTurn(t, x.a, x.b, x.x, x.y)
	}
}

// everyKeep hands on all Keeps of n items.
func everyKeep(n int, use func(p api.Part)) {
	for set := range 4 {
		for clear := range 4 {
			if set&clear != 0 {
				continue
			}
			p := mark(n, set, clear)
			use(p)
			p.To = true
			use(p)
			p.Link = "http:x"
			use(p)
			p.Link = "http:y"
			use(p)
		}
	}
}

// everyItem answers all characters and ends of blocks that differ in more than what they are.
func everyItem() []api.Item {
	var l []api.Item
	for marks := range 4 {
		for _, s := range []string{"", "http:x", "http:z"} {
			l = append(l, api.Item{C: 'a', Marks: marks, Link: s})
		}
		l = append(l, api.Item{C: '\n', Marks: marks})
	}
	return l
}

func TestTurnOfKeeps(t *testing.T) {
	const n = 7
	everyKeep(n, func(a api.Part) {
		everyKeep(n, func(b api.Part) {
			y := b
			for _, m := range []int{api.Bold, api.Slant} {
				if a.Set&m != 0 || a.Clear&m != 0 {
					y.Set, y.Clear = y.Set&^m, y.Clear&^m
				}
			}
			if a.To {
				y.To, y.Link = false, ""
			}
			wantTurn(t, api.Op{a}, api.Op{b}, api.Op{a}, api.Op{y})
		})
	})
}

func TestJoinOfKeeps(t *testing.T) {
	d := everyItem()
	d = append(d, api.Item{C: '\n'})
	everyKeep(len(d), func(a api.Part) {
		everyKeep(len(d), func(b api.Part) {
			want := keep(len(d))
			for _, m := range []int{api.Bold, api.Slant} {
				switch {
				case b.Set&m != 0 || a.Set&m != 0 && b.Clear&m == 0:
					want.Set += m
				case b.Clear&m != 0 || a.Clear&m != 0:
					want.Clear += m
				}
			}
			want.To = a.To || b.To
			want.Link = a.Link
			if b.To {
				want.Link = b.Link
			}
			wantJoin(t, api.Op{a}, api.Op{b}, api.Op{want})
			wantJoined(t, d, api.Op{a}, api.Op{b})
			wantTurned(t, d, api.Op{a}, api.Op{b})
		})
	})
}

// What is put becomes what a Keep behind it makes of it: marks of ends of blocks, too, but no link of them.
func TestJoinOfPutsAndKeeps(t *testing.T) {
	l := everyItem()
	everyKeep(len(l), func(b api.Part) {
		want := slices.Clone(l)
		for i := range want {
			marks := 0
			for _, m := range []int{api.Bold, api.Slant} {
				if b.Set&m != 0 || want[i].Marks&m != 0 && b.Clear&m == 0 {
					marks += m
				}
			}
			want[i].Marks = marks
			if b.To && want[i].C != '\n' {
				want[i].Link = b.Link
			}
		}
		wantJoin(t, api.Op{{Kind: api.Put, Items: l}, keep(1)}, api.Op{b, keep(1)}, api.Op{{Kind: api.Put, Items: want}, keep(1)})
	})
}

func TestJoinOfPutsAndCuts(t *testing.T) {
	for _, x := range []struct{ a, b, want api.Op }{
		{api.Op{put("abc"), keep(1)}, api.Op{cut(3), keep(1)}, api.Op{keep(1)}},
		{api.Op{put("abc"), keep(1)}, api.Op{keep(1), cut(1), keep(2)}, api.Op{put("ac"), keep(1)}},
		{api.Op{put("abc"), keep(1)}, api.Op{cut(1), keep(1), cut(1), keep(1)}, api.Op{put("b"), keep(1)}},
		{api.Op{put("abc"), keep(1)}, api.Op{keep(1), put("x"), keep(3)}, api.Op{put("axbc"), keep(1)}},
		{api.Op{put("abc"), keep(1)}, api.Op{put("x"), cut(2), put("y"), cut(1), keep(1)}, api.Op{put("xy"), keep(1)}},
		{api.Op{put("ab"), keep(2)}, api.Op{keep(1), cut(2), keep(1)}, api.Op{put("a"), cut(1), keep(1)}},
		{api.Op{put("a"), put("b"), keep(1)}, api.Op{cut(2), keep(1)}, api.Op{keep(1)}},
		{api.Op{put("a"), keep(1), put("b"), keep(1)}, api.Op{cut(3), keep(1)}, api.Op{cut(1), keep(1)}},
		{api.Op{keep(2)}, api.Op{cut(1), put("x"), keep(1)}, api.Op{put("x"), cut(1), keep(1)}},
		{api.Op{cut(1), keep(1)}, api.Op{put("x"), keep(1)}, api.Op{put("x"), cut(1), keep(1)}},
		{api.Op{cut(1), keep(2)}, api.Op{cut(1), keep(1)}, api.Op{cut(2), keep(1)}},
		{api.Op{keep(1), cut(1), keep(2)}, api.Op{keep(1), cut(1), keep(1)}, api.Op{keep(1), cut(2), keep(1)}},
		{api.Op{keep(1), cut(1), keep(1)}, api.Op{keep(2)}, api.Op{keep(1), cut(1), keep(1)}},
		{api.Op{mark(2, 1, 0)}, api.Op{cut(1), keep(1)}, api.Op{cut(1), mark(1, 1, 0)}},
		{api.Op{keep(1), put("x"), keep(1)}, api.Op{mark(2, 1, 0), keep(1)}, api.Op{mark(1, 1, 0), {Kind: api.Put, Items: []api.Item{{C: 'x', Marks: 1}}}, keep(1)}},
		{api.Op{keep(1), cut(1), put("x"), keep(1)}, api.Op{keep(1), put("y"), keep(2)}, api.Op{keep(1), put("yx"), cut(1), keep(1)}},
		{api.Op{keep(1), put("x"), cut(1), keep(1)}, api.Op{keep(2), put("y"), keep(1)}, api.Op{keep(1), put("xy"), cut(1), keep(1)}},
	} {
		wantJoin(t, x.a, x.b, x.want)
	}
}

// stripes answers n Keeps of 2 items each, of which no two that stand together say the same.
func stripes(n int) api.Op {
	var o api.Op
	for i := range n {
		o = append(o, mark(2, 1+i%2, 0))
	}
	return o
}

// That parts are too many is told of what is tidy, not of what stands there ahead of that.
func TestPartsThatAreTooManyUntilTheyAreTidy(t *testing.T) {
	twos := slices.Repeat(api.Op{keep(2)}, api.MaxParts)
	shifted := slices.Concat(api.Op{keep(1)}, twos[2:], api.Op{keep(3)})
	all := api.Op{keep(api.MaxItems)}
	wantTurn(t, twos, shifted, all, all)
	wantJoin(t, twos, shifted, all)
	wantTurn(t, stripes(api.MaxParts), shifted, stripes(api.MaxParts), all)
	wantTurn(t, shifted, stripes(api.MaxParts), all, stripes(api.MaxParts))
	wantJoin(t, stripes(api.MaxParts), shifted, stripes(api.MaxParts))
	wantJoin(t, shifted, stripes(api.MaxParts), stripes(api.MaxParts))
	cuts := append(slices.Repeat(api.Op{cut(2)}, api.MaxParts-1), keep(2))
	wantTurn(t, cuts, shifted, api.Op{cut(api.MaxItems - 2), keep(2)}, api.Op{keep(2)})
	wantTurn(t, shifted, cuts, api.Op{keep(2)}, api.Op{cut(api.MaxItems - 2), keep(2)})
	wantJoin(t, shifted, cuts, api.Op{cut(api.MaxItems - 2), keep(2)})
	puts := append(slices.Repeat(api.Op{put("ab")}, api.MaxParts-1), keep(2))
	wantJoin(t, puts, shifted, api.Op{put(strings.Repeat("ab", api.MaxParts-1)), keep(2)})
	wantJoin(t, puts, cuts, api.Op{keep(2)})
}

func TestPartsThatAreTooMany(t *testing.T) {
	for n := 2; n <= api.MaxParts; n++ {
		a := stripes(n)
		within := api.Op{keep(1), put("x"), keep(2*n - 1)}
		between := api.Op{keep(2), put("x"), keep(2*n - 2)}
		// x gets the Keep of what is put, and where that stands within a part, this part twice.
		wantMany(t, a, within, n+2 > api.MaxParts)
		wantMany(t, a, between, n+1 > api.MaxParts)
		if n+1 <= api.MaxParts {
			x := slices.Insert(slices.Clone(a), 1, keep(1))
			wantTurn(t, a, between, x, between)
			wantTurn(t, between, a, between, x)
			wantJoin(t, a, between, slices.Insert(slices.Clone(a), 1, put("x")))
		}
	}
}

// wantMany holds both ways of turning a, b, and joining them, to whether there are too many parts.
func wantMany(t *testing.T, a, b api.Op, many bool) {
	t.Helper()
	want := api.OK
	if many {
		want = api.ErrMany
	}
	_, _, ab := Turn(a, b)
	_, _, ba := Turn(b, a)
	_, j := Join(a, b)
	if ab != want || ba != want || j != want {
		t.Fatalf("of %v, %v: %d, %d, %d, want %d", a, b, ab, ba, j, want)
	}
}

func TestItemsThatAreTooMany(t *testing.T) {
	most := strings.Repeat("a", api.MaxItems)
	bold := mark(1, api.Bold, 0)
	wantTurn(t, api.Op{put(most[1:]), keep(1)}, api.Op{keep(1)}, api.Op{put(most[1:]), keep(1)}, api.Op{keep(api.MaxItems)})
	wantTurn(t, api.Op{put(most[1:]), keep(1)}, api.Op{bold}, api.Op{put(most[1:]), keep(1)}, api.Op{keep(api.MaxItems - 1), bold})
	// One Keep of too many is told as such, several ones together as too many.
	wantNoTurn(t, api.Op{put(most), keep(1)}, api.Op{keep(1)}, api.ErrRange)
	wantNoTurn(t, api.Op{keep(1)}, api.Op{put(most), keep(1)}, api.ErrRange)
	wantNoTurn(t, api.Op{put(most), keep(1)}, api.Op{bold}, api.ErrMany)
	wantNoTurn(t, api.Op{bold}, api.Op{put(most), keep(1)}, api.ErrMany)
	wantNoTurn(t, api.Op{put(most), bold, put(most), keep(1)}, api.Op{keep(2)}, api.ErrRange)
	wantNoTurn(t, api.Op{put(most), keep(1)}, api.Op{put("b"), keep(1)}, api.ErrMany)
	// Of x ahead of y: the Put has too many items, the Keep of them too.
	wantNoTurn(t, api.Op{put(most), put("b"), keep(1)}, api.Op{keep(1)}, api.ErrMany)
	wantNoTurn(t, api.Op{keep(1)}, api.Op{put(most), put("b"), keep(1)}, api.ErrRange)
	// What is cut counts, too: y keeps what was put, and cuts what was there.
	wantNoTurn(t, api.Op{put("b"), keep(api.MaxItems)}, api.Op{cut(api.MaxItems - 1), keep(1)}, api.ErrMany)
	wantTurn(t, api.Op{put("b"), keep(api.MaxItems - 1)}, api.Op{cut(api.MaxItems - 2), keep(1)}, api.Op{put("b"), keep(1)}, api.Op{keep(1), cut(api.MaxItems - 2), keep(1)})
}

func TestItemsThatAreTooManyToJoin(t *testing.T) {
	half := strings.Repeat("a", api.MaxItems/2)
	bold := mark(1, api.Bold, 0)
	a := api.Op{put(half), keep(1)}
	b := api.Op{put(half), keep(api.MaxItems/2 + 1)}
	wantJoin(t, a, b, api.Op{put(half + half), keep(1)})
	wantNoJoin(t, a, api.Op{put(half), put("b"), keep(api.MaxItems/2 + 1)}, api.ErrMany)
	wantNoJoin(t, api.Op{put(half), put("b"), keep(1)}, api.Op{put(half), keep(api.MaxItems/2 + 2)}, api.ErrMany)
	// As many as no document has, but in two Puts: that only a document tells.
	wantJoin(t, api.Op{put(half), keep(1), put("b"), keep(1)}, api.Op{put(half), keep(api.MaxItems/2 + 3)}, api.Op{put(half + half), keep(1), put("b"), keep(1)})
	wantJoin(t, api.Op{bold, put(half), keep(1)}, api.Op{keep(1), cut(api.MaxItems / 2), put(half + half), keep(1)}, api.Op{bold, put(half + half), keep(1)})
}

// wantTurned holds what a, and then y, make of d to what b, and then x, do.
func wantTurned(t *testing.T, d api.Doc, a, b api.Op) {
	t.Helper()
	x, y, e := Turn(a, b)
	if e != api.OK {
		return
	}
	withA, errA := op.Apply(d, a)
	withB, errB := op.Apply(d, b)
	if errA != api.OK || errB != api.OK {
		t.Fatalf("%v and %v were turned, but do nothing to %v: %d, %d", a, b, d, errA, errB)
	}
	first, errA := op.Apply(withA, y)
	second, errB := op.Apply(withB, x)
	if !slices.Equal(first, second) || errA != errB || errA != api.OK && errA != api.ErrMany {
		t.Fatalf("%v and %v make of %v %v, %d, or %v, %d", a, b, d, first, errA, second, errB)
	}
}

// wantJoined holds what a and b, joined, make of d to what a, and then b, do.
func wantJoined(t *testing.T, d api.Doc, a, b api.Op) {
	t.Helper()
	j, e := Join(a, b)
	if e != api.OK {
		return
	}
	withA, errA := op.Apply(d, a)
	if errA != api.OK {
		t.Fatalf("%v and %v were joined, but the first one does nothing to %v: %d", a, b, d, errA)
	}
	first, errA := op.Apply(withA, b)
	second, errB := op.Apply(d, j)
	if !slices.Equal(first, second) || errA != errB || errA != api.OK && errA != api.ErrMany {
		t.Fatalf("%v and %v make of %v %v, %d, joined %v, %d", a, b, d, first, errA, second, errB)
	}
}

// place is what an operation does at one item: what it puts ahead of it, and what becomes of it (a part of one).
type place struct {
	put []api.Item
	do  api.Part
}

// places answers o item by item, which is another way to look at it than the program's.
func places(o api.Op) []place {
	var l []place
	var next place
	for _, p := range o {
		next.put = slices.Concat(next.put, p.Items)
		for range p.N {
			next.do = p
			next.do.N = 1
			l = append(l, next)
			next = place{}
		}
	}
	return l
}

// ones answers a Put for each of l.
func ones(l []api.Item) api.Op {
	var o api.Op
	for _, x := range l {
		o = append(o, api.Part{Kind: api.Put, Items: []api.Item{x}})
	}
	return o
}

// turnByPlaces turns a and b (for as many items) item by item.
func turnByPlaces(a, b api.Op) (x, y api.Op) {
	other := places(b)
	for i, p := range places(a) {
		q := other[i]
		x = slices.Concat(x, ones(p.put), slices.Repeat(api.Op{keep(1)}, len(q.put)))
		y = slices.Concat(y, slices.Repeat(api.Op{keep(1)}, len(p.put)), ones(q.put))
		if q.do.Kind == api.Keep {
			x = append(x, p.do)
		}
		if p.do.Kind == api.Cut {
			continue
		}
		said := p.do.Set + p.do.Clear
		q.do.Set -= q.do.Set & said
		q.do.Clear -= q.do.Clear & said
		if p.do.To {
			q.do.To, q.do.Link = false, ""
		}
		y = append(y, q.do)
	}
	return byPairs(x), byPairs(y)
}

// joinByPlaces joins a and b (for as many items as a leaves) item by item.
func joinByPlaces(a, b api.Op) api.Op {
	var made api.Op
	then := places(b)
	next := func() api.Part {
		p := then[0]
		then = then[1:]
		made = append(made, ones(p.put)...)
		return p.do
	}
	for _, p := range places(a) {
		for _, x := range p.put {
			if q := next(); q.Kind == api.Keep {
				d, _ := op.Apply(api.Doc{x, {C: '\n'}}, api.Op{q, keep(1)})
				made = append(made, ones(d[:1])...)
			}
		}
		if p.do.Kind == api.Cut {
			made = append(made, p.do)
			continue
		}
		q := next()
		if q.Kind == api.Keep {
			q.Set |= p.do.Set &^ (q.Set | q.Clear)
			q.Clear |= p.do.Clear &^ (q.Set | q.Clear)
			if !q.To {
				q.To, q.Link = p.do.To, p.do.Link
			}
		}
		made = append(made, q)
	}
	return byPairs(made)
}

// byPairs makes o tidy by turning two parts that stand together, as long as there are such, which is another way than the program's.
func byPairs(o api.Op) api.Op {
	o = copyOf(o)
	for i := 0; i+1 < len(o); i++ {
		a, b := o[i], o[i+1]
		n := a.N + b.N
		a.N, b.N = 0, 0
		switch {
		case a.Kind == api.Cut && b.Kind == api.Put:
			o[i], o[i+1] = o[i+1], o[i]
		case a.Kind == api.Put && b.Kind == api.Put:
			o[i].Items = slices.Concat(a.Items, b.Items)
			o = slices.Delete(o, i+1, i+2)
		case a.Kind != api.Put && alike(api.Op{a}, api.Op{b}):
			o[i].N = n
			o = slices.Delete(o, i+1, i+2)
		default:
			continue
		}
		i = max(i-2, -1)
	}
	return o
}

// wantByPlaces holds turning and joining a and b, which are operations, to what is done item by item, and to what documents make of it.
func wantByPlaces(t *testing.T, a, b api.Op) {
	t.Helper()
	fromA, toA := op.Long(a)
	fromB, _ := op.Long(b)
	if fromA != fromB {
		wantNoTurn(t, a, b, api.ErrBase)
	} else if x, y := turnByPlaces(a, b); op.Check(x) != api.OK {
		wantNoTurn(t, a, b, op.Check(x))
	} else if op.Check(y) != api.OK {
		wantNoTurn(t, a, b, op.Check(y))
	} else {
		wantTurn(t, a, b, x, y)
		wantTurned(t, text(fromA), a, b)
	}
	if toA != fromB {
		wantNoJoin(t, a, b, api.ErrBase)
	} else if j := joinByPlaces(a, b); op.Check(j) != api.OK {
		wantNoJoin(t, a, b, op.Check(j))
	} else {
		wantJoin(t, a, b, j)
		wantJoined(t, text(fromA), a, b)
	}
}

// All of these may stand in an operation, and each kind in several shapes.
var fair = []api.Part{
	{Kind: api.Keep, N: 1},
	{Kind: api.Keep, N: 2},
	{Kind: api.Keep, N: 1, Set: api.Bold},
	{Kind: api.Keep, N: 2, Set: api.Slant, Clear: api.Bold, To: true},
	{Kind: api.Keep, N: 2, Clear: api.Bold, To: true, Link: "http:x"},
	{Kind: api.Put, Items: []api.Item{{C: 'x'}}},
	{Kind: api.Put, Items: []api.Item{{C: 'y', Marks: 3, Link: "http:y"}, {C: '\n', Marks: 1}}},
	{Kind: api.Cut, N: 1},
	{Kind: api.Cut, N: 2},
}

// everyOp answers all operations of at most n of the fair parts.
func everyOp(n int) []api.Op {
	lists := []api.Op{nil}
	var l []api.Op
	for range n {
		var longer []api.Op
		for _, o := range lists {
			for _, p := range fair {
				longer = append(longer, append(slices.Clone(o), p))
			}
		}
		lists = longer
		for _, o := range lists {
			if op.Check(o) == api.OK {
				l = append(l, o)
			}
		}
	}
	return l
}

func TestEveryTwoShortOperations(t *testing.T) {
	l := everyOp(3)
	for _, a := range l {
		for _, b := range l {
			wantByPlaces(t, a, b)
		}
	}
}

// Longer ones with short ones: what stands within a part, at its begin, and at its end.
func TestLongerOperationsWithShortOnes(t *testing.T) {
	short := everyOp(2)
	for _, a := range everyOp(4) {
		for _, b := range short {
			wantByPlaces(t, a, b)
			wantByPlaces(t, b, a)
		}
	}
}

// seeded hands on numbers below n, one after the other, always the same ones.
func seeded(seed uint32) func(n int) int {
	return func(n int) int {
		seed = seed*1664525 + 1013904223
		return int(seed>>16) % n
	}
}

// someOp answers an operation for n items, of parts that are as many or as few as it happens.
func someOp(below func(n int) int, n int) api.Op {
	var o api.Op
	long := 1 + below(7)
	put := 1 + below(4)
	for n > 0 && len(o) < api.MaxParts-1 {
		p := somePart(below, min(n, 1+below(long)), 1+below(put))
		o = append(o, p)
		n -= p.N
	}
	last := len(o) - 1
	if n > 0 || o[last].Kind == api.Cut {
		o = append(o, keep(max(n, 1)))
	}
	return o
}

// somePart answers a Keep or a Cut of n items, or a Put of some.
func somePart(below func(n int) int, n, put int) api.Part {
	switch below(5) {
	case 0:
		return api.Part{Kind: api.Put, Items: text(put)}
	case 1:
		return cut(n)
	case 2:
		return keep(n)
	}
	set := below(4)
	p := mark(n, set, below(4)&^set)
	if below(2) == 0 {
		p.To, p.Link = true, [3]string{"", "http:x", "http:y"}[below(3)]
	}
	return p
}

func TestLongOperations(t *testing.T) {
	below := seeded(11)
	var turned, joined, refused int
	for range 6000 {
		a := someOp(below, 1+below(api.MaxItems))
		fromA, toA := op.Long(a)
		for _, n := range []int{fromA, toA} {
			b := someOp(below, max(n, 1))
			if op.Check(a) != api.OK || op.Check(b) != api.OK {
				continue
			}
			wantByPlaces(t, a, b)
			if _, _, e := Turn(a, b); e == api.OK {
				turned++
			} else if e != api.ErrBase {
				refused++
			}
			if _, e := Join(a, b); e == api.OK {
				joined++
			} else if e != api.ErrBase {
				refused++
			}
		}
	}
	if turned < 500 || joined < 500 || refused < 500 {
		t.Fatalf("only %d were turned, %d joined, %d refused", turned, joined, refused)
	}
}

// roomy answers o, laid in lists that have more in them behind their ends.
func roomy(o api.Op) api.Op {
	room := api.Op{}
	for _, p := range o {
		p.Items = append(slices.Clone(p.Items), items("room")...)[:len(p.Items)]
		room = append(room, p)
	}
	return append(room, keep(7), put("z"))[:len(o)]
}

// withRoom answers a copy of o with all that its lists have room for.
func withRoom(o api.Op) api.Op {
	o = slices.Clone(o[:cap(o)])
	for i := range o {
		o[i].Items = o[i].Items[:cap(o[i].Items)]
	}
	return copyOf(o)
}

// spoil writes over all that the lists of o have, and have room for.
func spoil(o api.Op) {
	o = o[:cap(o)]
	for i := range o {
		l := o[i].Items[:cap(o[i].Items)]
		for k := range l {
			l[k] = api.Item{C: 255, Marks: -1, Link: "spoilt"}
		}
		o[i] = api.Part{Kind: -1, N: -1}
	}
}

func TestNothingHandedInIsChangedOrAnswered(t *testing.T) {
	for _, shortA := range everyOp(3) {
		for _, shortB := range everyOp(2) {
			a, b := roomy(shortA), roomy(shortB)
			keptA, keptB := withRoom(a), withRoom(b)
			for _, l := range [][2]api.Op{{a, b}, {b, a}} {
				x, y, _ := Turn(l[0], l[1])
				keptY := withRoom(y)
				spoil(x)
				if !alike(withRoom(y), keptY) {
					t.Fatalf("Turn(%v, %v): what is written into x shows in y", l[0], l[1])
				}
				spoil(y)
				j, _ := Join(l[0], l[1])
				spoil(j)
			}
			if !alike(withRoom(a), keptA) || !alike(withRoom(b), keptB) {
				t.Fatalf("of %v, %v something is changed", shortA, shortB)
			}
		}
	}
}

func TestOneOperationAsBoth(t *testing.T) {
	o := roomy(api.Op{put("ab"), mark(2, 1, 2), cut(1), keep(1)})
	kept := withRoom(o)
	x, y, e := Turn(o, o)
	if !alike(x, api.Op{put("ab"), keep(2), mark(2, 1, 2), keep(1)}) || !alike(y, api.Op{keep(2), put("ab"), keep(3)}) || e != api.OK {
		t.Fatalf("Turn of one and itself = %v, %v, %d", x, y, e)
	}
	spoil(x)
	spoil(y)
	same := roomy(api.Op{put("a"), cut(1), lead(1, "http:x"), keep(1)})
	wantJoin(t, same, same, api.Op{put("a"), cut(1), lead(1, "http:x"), keep(1)})
	if !alike(withRoom(o), kept) {
		t.Fatal("what was handed in twice is changed")
	}
}

// Each list of an answer is its own: what is written into one shows in no other one.
func TestListsOfAnAnswerAreTheirOwn(t *testing.T) {
	a := roomy(api.Op{put("ab"), put("c"), keep(1), put("d"), cut(1), keep(1), put("ef"), keep(1)})
	b := roomy(api.Op{keep(1), put("1"), keep(2), put("23"), mark(1, 1, 0)})
	c := roomy(api.Op{mark(1, 2, 0), cut(1), mark(1, 1, 0), put("7"), keep(6)})
	x, y, _ := Turn(a, b)
	j, _ := Join(a, c)
	for _, o := range []api.Op{x, y, j} {
		want := copyOf(o)
		for i := range o {
			if len(o[i].Items) == 0 {
				continue
			}
			spoil(api.Op{o[i]})
			o[i].Items = want[i].Items
			if !alike(o, want) {
				t.Fatalf("what is written into part %d shows in others: %v", i, o)
			}
		}
	}
}
