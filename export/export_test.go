package export

import (
	"slices"
	"strings"
	"testing"

	"manyhands/api"
	"manyhands/doc"
)

func wantPage(t *testing.T, d api.Doc, want string) {
	t.Helper()
	if got, e := Page(d); got != want || e != api.OK {
		t.Fatalf("Page(%#v) = %q, %d, want %q, OK", d, got, e, want)
	}
}

func wantError(t *testing.T, d api.Doc, want api.Errno) {
	t.Helper()
	if got, e := Page(d); got != "" || e != want {
		t.Fatalf("Page(%#v) = %q, %d, want the error %d", d, got, e, want)
	}
}

// shown answers the characters of s, all with these marks and this link.
func shown(s string, marks int, link string) api.Doc {
	var d api.Doc
	for _, c := range []byte(s) {
		d = append(d, api.Item{C: c, Marks: marks, Link: link})
	}
	return d
}

// block answers a block of the kind, with the characters of the runs in it.
func block(kind int, runs ...api.Doc) api.Doc {
	return append(slices.Concat(runs...), api.Item{C: 10, Marks: kind})
}

// plain answers a block of the kind with s in it.
func plain(kind int, s string) api.Doc {
	return block(kind, shown(s, 0, ""))
}

func TestNamesOfBlocks(t *testing.T) {
	wantPage(t, plain(0, "ab"), "<p>ab</p>")
	wantPage(t, plain(api.Bold, "ab"), "<h1>ab</h1>")
	wantPage(t, plain(api.Slant, "ab"), "<ul><li>ab</li></ul>")
	wantPage(t, plain(api.Bold|api.Slant, "ab"), "<h2>ab</h2>")
	wantPage(t, slices.Concat(plain(1, "a"), plain(0, "b"), plain(3, "c"), plain(0, "d")), "<h1>a</h1><p>b</p><h2>c</h2><p>d</p>")
}

func TestEmptyBlocks(t *testing.T) {
	wantPage(t, plain(0, ""), "<p></p>")
	wantPage(t, plain(1, ""), "<h1></h1>")
	wantPage(t, plain(2, ""), "<ul><li></li></ul>")
	wantPage(t, plain(3, ""), "<h2></h2>")
	wantPage(t, slices.Concat(plain(0, ""), plain(0, "a"), plain(1, ""), plain(1, ""), plain(0, "")), "<p></p><p>a</p><h1></h1><h1></h1><p></p>")
}

func TestLists(t *testing.T) {
	one, other := plain(2, "a"), plain(0, "b")
	wantPage(t, slices.Concat(one, one, one), "<ul><li>a</li><li>a</li><li>a</li></ul>")
	wantPage(t, slices.Concat(one, other), "<ul><li>a</li></ul><p>b</p>")
	wantPage(t, slices.Concat(one, one, other), "<ul><li>a</li><li>a</li></ul><p>b</p>")
	wantPage(t, slices.Concat(other, one), "<p>b</p><ul><li>a</li></ul>")
	wantPage(t, slices.Concat(other, one, one), "<p>b</p><ul><li>a</li><li>a</li></ul>")
	wantPage(t, slices.Concat(other, one, one, other), "<p>b</p><ul><li>a</li><li>a</li></ul><p>b</p>")
	wantPage(t, slices.Concat(one, one, other, one), "<ul><li>a</li><li>a</li></ul><p>b</p><ul><li>a</li></ul>")
	wantPage(t, slices.Concat(plain(2, ""), plain(1, ""), plain(2, ""), plain(3, ""), plain(2, "")),
		"<ul><li></li></ul><h1></h1><ul><li></li></ul><h2></h2><ul><li></li></ul>")
}

// Marks say one thing of a character, and another one of the end of a block.
func TestMarksOfCharactersNameNoBlock(t *testing.T) {
	wantPage(t, block(0, shown("a", 2, "")), "<p><i>a</i></p>")
	wantPage(t, block(2, shown("a", 1, "")), "<ul><li><b>a</b></li></ul>")
	wantPage(t, slices.Concat(block(2, shown("a", 0, "")), block(2, shown("b", 3, ""))), "<ul><li>a</li><li><b><i>b</i></b></li></ul>")
	wantPage(t, block(3, shown("a", 3, "")), "<h2><b><i>a</i></b></h2>")
}

func TestTagsOfARun(t *testing.T) {
	for _, one := range []struct {
		marks      int
		link, want string
	}{
		{0, "", "ab"},
		{1, "", "<b>ab</b>"},
		{2, "", "<i>ab</i>"},
		{3, "", "<b><i>ab</i></b>"},
		{0, "http:x", `<a href="http:x">ab</a>`},
		{1, "http:x", `<a href="http:x"><b>ab</b></a>`},
		{2, "http:x", `<a href="http:x"><i>ab</i></a>`},
		{3, "http:x", `<a href="http:x"><b><i>ab</i></b></a>`},
	} {
		wantPage(t, block(0, shown("ab", one.marks, one.link)), "<p>"+one.want+"</p>")
	}
}

func TestRunsSideBySide(t *testing.T) {
	wantPage(t, block(0, shown("a", 0, ""), shown("bc", 1, ""), shown("d", 3, ""), shown("e", 2, ""), shown("f", 0, "")),
		"<p>a<b>bc</b><b><i>d</i></b><i>e</i>f</p>")
	wantPage(t, block(0, shown("a", 0, "http:x"), shown("b", 0, "http:y"), shown("c", 0, "HTTP:y"), shown("d", 0, ""), shown("e", 0, "http:x")),
		`<p><a href="http:x">a</a><a href="http:y">b</a><a href="HTTP:y">c</a>d<a href="http:x">e</a></p>`)
	wantPage(t, block(0, shown("a", 1, "http:x"), shown("b", 2, "http:x"), shown("c", 2, ""), shown("d", 2, "http:x")),
		`<p><a href="http:x"><b>a</b></a><a href="http:x"><i>b</i></a><i>c</i><a href="http:x"><i>d</i></a></p>`)
}

func TestRunsEndWithTheirBlock(t *testing.T) {
	same := shown("ab", 3, "http:x")
	inside := `<a href="http:x"><b><i>ab</i></b></a>`
	wantPage(t, slices.Concat(block(3, same), block(3, same)), "<h2>"+inside+"</h2><h2>"+inside+"</h2>")
	wantPage(t, slices.Concat(block(2, same), block(2, same)), "<ul><li>"+inside+"</li><li>"+inside+"</li></ul>")
}

func TestCharactersThatMeanSomething(t *testing.T) {
	wantPage(t, plain(0, `a & <b> "c"`), "<p>a &amp; &lt;b&gt; &quot;c&quot;</p>")
	wantPage(t, plain(1, "&lt;&amp;"), "<h1>&amp;lt;&amp;amp;</h1>")
	wantPage(t, block(0, shown("</p>", 1, "")), "<p><b>&lt;/p&gt;</b></p>")
	wantPage(t, block(0, shown("x", 0, "http:?a&b"), shown(`"&"`, 2, "http:&&")),
		`<p><a href="http:?a&amp;b">x</a><a href="http:&amp;&amp;"><i>&quot;&amp;&quot;</i></a></p>`)
	wantPage(t, block(0, shown("y", 0, "http:&lt;")), `<p><a href="http:&amp;lt;">y</a></p>`)
	wantPage(t, plain(0, "  '/= "), "<p>  '/= </p>")
}

func TestEachCharacter(t *testing.T) {
	means := map[byte]string{'&': "&amp;", '<': "&lt;", '>': "&gt;", '"': "&quot;"}
	for c := byte(32); c <= 126; c++ {
		want := string(rune(c))
		if s, ok := means[c]; ok {
			want = s
		}
		wantPage(t, plain(0, string(rune(c))), "<p>"+want+"</p>")
	}
}

func TestExampleOfTheDocument(t *testing.T) {
	wantPage(t, block(0, shown("a < ", 0, ""), shown("b", 1, "")), "<p>a &lt; <b>b</b></p>")
}

func TestGreatestDocuments(t *testing.T) {
	n := api.MaxItems
	wantPage(t, plain(0, strings.Repeat(`"`, n-1)), "<p>"+strings.Repeat("&quot;", n-1)+"</p>")
	var lists, runs api.Doc
	link := "http:" + strings.Repeat("&", api.MaxLink-5)
	for i := range n {
		lists = append(lists, api.Item{C: 10, Marks: 2})
		runs = append(runs, api.Item{C: '"', Marks: i % 2 * 3, Link: link})
	}
	wantPage(t, lists, "<ul>"+strings.Repeat("<li></li>", n)+"</ul>")
	open := `<a href="http:` + strings.Repeat("&amp;", api.MaxLink-5) + `">`
	two := open + "&quot;</a>" + open + "<b><i>&quot;</i></b></a>"
	wantPage(t, block(1, runs[:n-2]), "<h1>"+strings.Repeat(two, (n-2)/2)+"</h1>")
}

func TestWhatIsNoDocument(t *testing.T) {
	wantError(t, nil, api.ErrForm)
	wantError(t, api.Doc{}, api.ErrForm)
	wantError(t, shown("a", 0, ""), api.ErrForm)
	wantError(t, append(plain(0, "a"), api.Item{C: 'b'}), api.ErrForm)
	wantError(t, api.Doc{{C: 10, Link: "http:x"}}, api.ErrForm)
	for _, link := range []string{"x", "javascript:x", `http:"`, "http:<", "http:a b", "http:" + strings.Repeat("x", api.MaxLink-4)} {
		wantError(t, block(0, shown("a", 0, link)), api.ErrForm)
	}
	for _, c := range []string{"\x00", "\t", "\r", "\x1f", "\x7f", "\x80", "\xff"} {
		wantError(t, plain(0, "a"+c), api.ErrText)
	}
	for _, marks := range []int{-1, 4, 5, 1 << 40, -1 << 63} {
		wantError(t, plain(marks, "a"), api.ErrRange)
		wantError(t, block(0, shown("a", marks, "")), api.ErrRange)
	}
	wantError(t, plain(0, strings.Repeat("a", api.MaxItems)), api.ErrMany)
	wantError(t, make(api.Doc, 9*api.MaxItems), api.ErrMany)
}

func TestTheFirstErrorIsTold(t *testing.T) {
	wantError(t, plain(4, strings.Repeat("\x00", api.MaxItems)), api.ErrMany)
	wantError(t, api.Doc{{C: 'a', Marks: 4}, {C: 9}}, api.ErrRange)
	wantError(t, api.Doc{{C: 9, Marks: 4, Link: "x"}}, api.ErrText)
	wantError(t, api.Doc{{C: 'a', Link: "x"}, {C: 10, Marks: 4}}, api.ErrForm)
}

// everyDoc hands on all lists of at most n of the items, one behind the other.
func everyDoc(items []api.Item, n int, use func(api.Doc)) {
	use(nil)
	level := []api.Doc{nil}
	for range n {
		var next []api.Doc
		for _, d := range level {
			for _, x := range items {
				next = append(next, append(slices.Clone(d), x))
			}
		}
		for _, d := range next {
			use(d)
		}
		level = next
	}
}

// Some of these may stand in a document, some may not.
var telling = []api.Item{
	{C: 'a'}, {C: '<'}, {C: 'a', Marks: 1}, {C: 'a', Marks: 3, Link: "http:&"},
	{C: 10}, {C: 10, Marks: 1}, {C: 10, Marks: 2}, {C: 10, Marks: 3},
	{C: 9}, {C: 'a', Marks: -1},
}

// pieces answers the page of d by another way than the program's: tags by what stands beside each character, each item of a list as a list of its own, and lists that touch joined at the end.
func pieces(d api.Doc) string {
	page := ""
	for len(d) > 0 {
		n := slices.IndexFunc(d, func(x api.Item) bool { return x.C == 10 })
		page += [4]string{"<p>", "<h1>", "<ul><li>", "<h2>"}[d[n].Marks]
		for i, x := range d[:n] {
			open, shut := around(x)
			if i == 0 || d[i-1].Marks != x.Marks || d[i-1].Link != x.Link {
				page += open
			}
			page += strings.NewReplacer("&", "&amp;", "<", "&lt;", ">", "&gt;", `"`, "&quot;").Replace(string(rune(x.C)))
			if i == n-1 || d[i+1].Marks != x.Marks || d[i+1].Link != x.Link {
				page += shut
			}
		}
		page += [4]string{"</p>", "</h1>", "</li></ul>", "</h2>"}[d[n].Marks]
		d = d[n+1:]
	}
	return strings.ReplaceAll(page, "</ul><ul>", "")
}

func around(x api.Item) (string, string) {
	open := [4]string{"", "<b>", "<i>", "<b><i>"}[x.Marks]
	shut := [4]string{"", "</b>", "</i>", "</i></b>"}[x.Marks]
	if x.Link != "" {
		return `<a href="` + strings.ReplaceAll(x.Link, "&", "&amp;") + `">` + open, shut + "</a>"
	}
	return open, shut
}

func TestEveryShortList(t *testing.T) {
	everyDoc(telling, 5, func(d api.Doc) {
		if e := doc.Check(d); e != api.OK {
			wantError(t, d, e)
		} else {
			wantPage(t, d, pieces(d))
		}
	})
}

func TestNothingHandedInIsChanged(t *testing.T) {
	room := slices.Concat(plain(2, "ab"), block(1, shown("c<", 3, "http:&")), telling)
	kept := slices.Clone(room)
	for n := range room {
		Page(room[:n])
		if !slices.Equal(room, kept) {
			t.Fatalf("of %d items something is changed: %#v", n, room)
		}
	}
}
