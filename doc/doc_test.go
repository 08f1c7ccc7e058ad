package doc

import (
	"math"
	"slices"
	"strings"
	"testing"

	"manyhands/api"
)

// blocks answers a document of s, each line of it a block, without marks and links.
func blocks(s string) api.Doc {
	var d api.Doc
	for i := 0; i < len(s); i++ {
		d = append(d, api.Item{C: s[i]})
	}
	return d
}

func wantItem(t *testing.T, x api.Item, want api.Errno) {
	t.Helper()
	if got := Item(x); got != want {
		t.Errorf("Item(%#v) = %d, want %d", x, got, want)
	}
}

// wantCheck holds Plain and Runs, too, to the error that Check has to answer.
func wantCheck(t *testing.T, d api.Doc, want api.Errno) {
	t.Helper()
	if got := Check(d); got != want {
		t.Errorf("Check(%#v) = %d, want %d", d, got, want)
	}
	text, e := Plain(d)
	if e != want || want != api.OK && text != "" {
		t.Errorf("Plain(%#v) = %q, %d, want the error %d", d, text, e, want)
	}
	places, e := Runs(d)
	if e != want || want != api.OK && len(places) != 0 {
		t.Errorf("Runs(%#v) = %v, %d, want the error %d", d, places, e, want)
	}
}

func wantPlain(t *testing.T, d api.Doc, want string) {
	t.Helper()
	if got, e := Plain(d); got != want || e != api.OK {
		t.Errorf("Plain(%#v) = %q, %d, want %q, OK", d, got, e, want)
	}
}

func wantRuns(t *testing.T, d api.Doc, want ...int) {
	t.Helper()
	if got, e := Runs(d); !slices.Equal(got, want) || e != api.OK {
		t.Errorf("Runs(%#v) = %v, %d, want %v, OK", d, got, e, want)
	}
}

// everyDoc hands on all lists of at most n of the items, one behind the other.
func everyDoc(items []api.Item, n int, use func(api.Doc)) {
	var grow func(d api.Doc, n int)
	grow = func(d api.Doc, n int) {
		use(d)
		if n == 0 {
			return
		}
		for _, x := range items {
			grow(append(slices.Clone(d), x), n-1)
		}
	}
	grow(nil, n)
}

// Some of these may stand in a document, some may not, for each of the reasons that there are.
var telling = []api.Item{
	{C: 'a'},
	{C: 'b', Marks: api.Bold},
	{C: 'a', Link: "http:x"},
	{C: '\n'},
	{C: '\n', Marks: api.Bold},
	{C: 9},
	{C: 'a', Marks: 4},
	{C: '\n', Link: "http:x"},
}

func TestItemOfEachCharacter(t *testing.T) {
	for c := 0; c < 256; c++ {
		want := api.ErrText
		if c == 10 || c >= 32 && c <= 126 {
			want = api.OK
		}
		for marks := 0; marks <= 3; marks++ {
			wantItem(t, api.Item{C: byte(c), Marks: marks}, want)
		}
	}
}

func TestItemOfMarks(t *testing.T) {
	for _, c := range []byte{10, 32, 'a', 126} {
		for marks := -9; marks <= 9; marks++ {
			want := api.ErrRange
			if marks >= 0 && marks <= 3 {
				want = api.OK
			}
			wantItem(t, api.Item{C: c, Marks: marks}, want)
		}
		for _, marks := range []int{math.MinInt, math.MinInt + 1, -256, 256, 257, 1 << 32, math.MaxInt} {
			wantItem(t, api.Item{C: c, Marks: marks}, api.ErrRange)
		}
	}
}

func TestItemOfLinks(t *testing.T) {
	longest := "http:" + strings.Repeat("x", api.MaxLink-5)
	for _, s := range []string{"", "http:x", "HTTPS://x", "mailto:a@b", "http:&", longest} {
		wantItem(t, api.Item{C: 'a', Link: s}, api.OK)
		wantItem(t, api.Item{C: ' ', Marks: 3, Link: s}, api.OK)
	}
	for _, s := range []string{
		"x", " ", "http", ":", "javascript:x", "data:x", "/x", " http:x", "http:x ", "http:a b",
		"http:\"", "http:'", "http:\n", "http:\xff", "\x00", longest + "x", strings.Repeat("x", api.MaxText+1),
	} {
		wantItem(t, api.Item{C: 'a', Link: s}, api.ErrForm)
		wantItem(t, api.Item{C: '~', Marks: 3, Link: s}, api.ErrForm)
	}
}

func TestItemThatEndsABlockHasNoLink(t *testing.T) {
	for marks := 0; marks <= 3; marks++ {
		wantItem(t, api.Item{C: 10, Marks: marks}, api.OK)
		for _, s := range []string{"http:x", "mailto:", "x", " ", "javascript:x"} {
			wantItem(t, api.Item{C: 10, Marks: marks, Link: s}, api.ErrForm)
		}
	}
}

func TestItemTellsTheFirstError(t *testing.T) {
	wantItem(t, api.Item{}, api.ErrText)
	wantItem(t, api.Item{C: 9, Marks: 4}, api.ErrText)
	wantItem(t, api.Item{C: 9, Link: "x"}, api.ErrText)
	wantItem(t, api.Item{C: 127, Marks: -1, Link: "x"}, api.ErrText)
	wantItem(t, api.Item{C: 'a', Marks: 4, Link: "x"}, api.ErrRange)
	wantItem(t, api.Item{C: 10, Marks: -1, Link: "http:x"}, api.ErrRange)
}

func TestItemsTellsTheFirstItemsError(t *testing.T) {
	everyDoc(telling, 4, func(d api.Doc) {
		want := api.OK
		for i := len(d) - 1; i >= 0; i-- {
			if e := Item(d[i]); e != api.OK {
				want = e
			}
		}
		if got := Items(d); got != want {
			t.Fatalf("Items(%#v) = %d, want %d", d, got, want)
		}
	})
}

func TestItemsNeedNotBeADocument(t *testing.T) {
	for _, l := range [][]api.Item{nil, {}, blocks("a"), blocks("\na"), blocks(strings.Repeat("a", 3*api.MaxItems))} {
		if e := Items(l); e != api.OK {
			t.Errorf("Items of %d fair ones: error %d", len(l), e)
		}
	}
	l := append(blocks(strings.Repeat("a", 3*api.MaxItems)), api.Item{C: 'a', Marks: 4})
	if e := Items(l); e != api.ErrRange {
		t.Errorf("Items of many, the last one wrong: error %d", e)
	}
}

func TestCheckOfDocuments(t *testing.T) {
	for _, d := range []api.Doc{
		blocks("\n"),
		blocks("\n\n\n"),
		blocks("a < b\n~\n"),
		{{C: 10, Marks: 3}},
		{{C: 'a', Marks: 3, Link: "http:x"}, {C: 10, Marks: 2}},
	} {
		wantCheck(t, d, api.OK)
	}
}

func TestCheckOfNoItems(t *testing.T) {
	wantCheck(t, nil, api.ErrForm)
	wantCheck(t, api.Doc{}, api.ErrForm)
	wantCheck(t, make(api.Doc, 0, 9), api.ErrForm)
}

func TestCheckOfALastItemThatEndsNoBlock(t *testing.T) {
	for _, s := range []string{"a", " ", "\na", "a\nb", "\n\n~"} {
		wantCheck(t, blocks(s), api.ErrForm)
	}
}

func TestCheckOfManyItems(t *testing.T) {
	for _, fill := range []string{"a", "\n"} {
		wantCheck(t, blocks(strings.Repeat(fill, api.MaxItems-2)+"\n"), api.OK)
		wantCheck(t, blocks(strings.Repeat(fill, api.MaxItems-1)+"\n"), api.OK)
		wantCheck(t, blocks(strings.Repeat(fill, api.MaxItems)+"\n"), api.ErrMany)
		wantCheck(t, blocks(strings.Repeat(fill, 9*api.MaxItems)+"\n"), api.ErrMany)
	}
}

func TestCheckTellsTheFirstError(t *testing.T) {
	many := strings.Repeat("a", api.MaxItems)
	wantCheck(t, blocks(many), api.ErrForm)
	wantCheck(t, blocks(many+"a"), api.ErrMany)
	wantCheck(t, blocks("\x00"+many), api.ErrMany)
	wantCheck(t, make(api.Doc, api.MaxItems+1), api.ErrMany)
	wantCheck(t, make(api.Doc, api.MaxItems), api.ErrText)
	wantCheck(t, blocks("a\x00"), api.ErrText)
	wantCheck(t, api.Doc{{C: 'a', Marks: 4}, {C: 9}, {C: 'a'}}, api.ErrRange)
	wantCheck(t, api.Doc{{C: 'a', Link: "x"}, {C: 9}, {C: 10}}, api.ErrForm)
}

func TestCheckOfEveryShortList(t *testing.T) {
	everyDoc(telling, 4, func(d api.Doc) {
		want := Items(d)
		if want == api.OK && (len(d) == 0 || d[len(d)-1].C != 10) {
			want = api.ErrForm
		}
		wantCheck(t, d, want)
	})
}

func TestSameOfEveryTwo(t *testing.T) {
	var l []api.Doc
	everyDoc(telling, 2, func(d api.Doc) { l = append(l, d) })
	for i, a := range l {
		for j, b := range l {
			if got := Same(a, slices.Clone(b)); got != (i == j) {
				t.Fatalf("Same(%#v, %#v) = %v", a, b, got)
			}
		}
	}
}

func TestSameLooksAtAllFields(t *testing.T) {
	d := api.Doc{{C: 'a', Marks: 1, Link: "http:x"}, {C: 10, Marks: 2}}
	for _, other := range []api.Doc{
		{{C: 'b', Marks: 1, Link: "http:x"}, {C: 10, Marks: 2}},
		{{C: 'a', Marks: 2, Link: "http:x"}, {C: 10, Marks: 2}},
		{{C: 'a', Marks: 1, Link: "http:y"}, {C: 10, Marks: 2}},
		{{C: 'a', Marks: 1, Link: "HTTP:x"}, {C: 10, Marks: 2}},
		{{C: 'a', Marks: 1}, {C: 10, Marks: 2}},
		{{C: 'a', Marks: 1, Link: "http:x"}, {C: 10, Marks: 3}},
		{{C: 10, Marks: 2}, {C: 'a', Marks: 1, Link: "http:x"}},
		d[:1], d[1:], nil, append(slices.Clone(d), api.Item{C: 10}),
	} {
		if Same(d, other) || Same(other, d) {
			t.Errorf("%#v and %#v are alike", d, other)
		}
	}
	if !Same(d, slices.Clone(d)) {
		t.Error("a document and its copy aren't alike")
	}
}

func TestSameOfWhatIsNoDocument(t *testing.T) {
	if !Same(nil, nil) || !Same(nil, api.Doc{}) || !Same(api.Doc{}, nil) || !Same(api.Doc{}, make(api.Doc, 0, 9)) {
		t.Error("lists that have nothing in them aren't alike")
	}
	if Same(nil, make(api.Doc, 1)) || Same(make(api.Doc, 1), nil) {
		t.Error("one item and none are alike")
	}
	long := make(api.Doc, 9*api.MaxItems)
	other := slices.Clone(long)
	if !Same(long, other) {
		t.Error("two long lists of the same items aren't alike")
	}
	other[len(other)-1].Marks = math.MinInt
	if Same(long, other) || Same(long, long[1:]) {
		t.Error("two other long lists are alike")
	}
}

func TestPlainOfDocuments(t *testing.T) {
	wantPlain(t, blocks("\n"), "\n")
	wantPlain(t, blocks("a < \"b\" & c\n\n~\n"), "a < \"b\" & c\n\n~\n")
	wantPlain(t, api.Doc{
		{C: 'a', Marks: api.Bold}, {C: ' ', Link: "http:x"}, {C: 'b', Marks: 3, Link: "mailto:"}, {C: 10, Marks: api.Slant},
	}, "a b\n")
	most := strings.Repeat("ab", api.MaxItems/2-1) + "c\n"
	wantPlain(t, blocks(most), most)
	for c := byte(32); c <= 126; c++ {
		wantPlain(t, blocks(string([]byte{c, 10})), string([]byte{c, 10}))
	}
}

func TestRunsOfOneKindOfCharacter(t *testing.T) {
	wantRuns(t, blocks("\n"), 0)
	wantRuns(t, blocks("a\n"), 0, 1)
	wantRuns(t, blocks("aa\n"), 0, 2)
	wantRuns(t, blocks("abcd\n"), 0, 4)
	wantRuns(t, blocks(strings.Repeat("a", api.MaxItems-1)+"\n"), 0, api.MaxItems-1)
}

func TestRunsAtEndsOfBlocks(t *testing.T) {
	wantRuns(t, blocks("\n\n"), 0, 1)
	wantRuns(t, blocks("\n\n\n"), 0, 1, 2)
	wantRuns(t, blocks("\nab\n"), 0, 1, 3)
	wantRuns(t, blocks("ab\ncd\n"), 0, 2, 3, 5)
	wantRuns(t, blocks("ab\n\ncd\n"), 0, 2, 3, 4, 6)
	// Marks of a block are another thing than those of its characters, even where they are the same number.
	wantRuns(t, api.Doc{{C: 'a', Marks: 1}, {C: 'b', Marks: 1}, {C: 10, Marks: 1}, {C: 'c', Marks: 1}, {C: 10, Marks: 1}}, 0, 2, 3, 4)
}

func TestRunsWhereMarksTurn(t *testing.T) {
	var d api.Doc
	for _, marks := range []int{0, 0, 1, 1, 3, 2, 2, 0, 0} {
		d = append(d, api.Item{C: 'a', Marks: marks})
	}
	wantRuns(t, append(d, api.Item{C: 10}), 0, 2, 4, 5, 7, 9)
}

func TestRunsWhereTheLinkTurns(t *testing.T) {
	var d api.Doc
	for _, link := range []string{"", "", "http:x", "http:x", "http:y", "HTTP:y", "", "http:y", "http:y"} {
		d = append(d, api.Item{C: 'a', Link: link})
	}
	wantRuns(t, append(d, api.Item{C: 10}), 0, 2, 4, 5, 6, 7, 9)
}

func TestRunsWhereMarksAndLinkTurn(t *testing.T) {
	wantRuns(t, api.Doc{
		{C: 'a', Marks: 1, Link: "http:x"}, {C: 'b', Marks: 1, Link: "http:x"},
		{C: 'c', Marks: 2, Link: "http:x"}, {C: 'd', Marks: 2, Link: "http:y"},
		{C: 'e'}, {C: 'f'}, {C: 10, Marks: 2},
	}, 0, 2, 3, 4, 6)
}

// The places are told here by cutting the document into runs, so that it isn't the program's own rule once more.
func TestRunsOfEveryShortDocument(t *testing.T) {
	fair := []api.Item{{C: 'a'}, {C: 'b'}, {C: 'a', Marks: 1}, {C: 'a', Link: "http:x"}, {C: 10}, {C: 10, Marks: 1}}
	everyDoc(fair, 5, func(d api.Doc) {
		if len(d) == 0 || d[len(d)-1].C != 10 {
			return
		}
		var want []int
		for at := 0; at < len(d); {
			want = append(want, at)
			n := 1
			for d[at].C != 10 && d[at+n].C != 10 && d[at+n].Marks == d[at].Marks && d[at+n].Link == d[at].Link {
				n++
			}
			at += n
		}
		wantRuns(t, d, want...)
	})
}

func TestRunsAnswersNewMemory(t *testing.T) {
	d := blocks("ab\n")
	first, _ := Runs(d)
	for i := range first {
		first[i] = -1
	}
	wantRuns(t, d, 0, 2)
}

func TestNothingHandedInIsChanged(t *testing.T) {
	room := append(blocks("ab\ncd\n"), telling...)
	kept := slices.Clone(room)
	for n := range room {
		d := room[:n]
		Items(d)
		Check(d)
		Same(d, room)
		Plain(d)
		Runs(d)
		if !slices.Equal(room, kept) {
			t.Fatalf("of %d items something is changed: %#v", n, room)
		}
	}
}
