package sanitize

import (
	"slices"
	"strings"
	"testing"

	"manyhands/api"
	"manyhands/doc"
	"manyhands/export"
	"manyhands/token"
)

func wantMade(t *testing.T, page string, want api.Doc) {
	t.Helper()
	if got, e := Page([]byte(page)); !slices.Equal(got, want) || e != api.OK {
		t.Fatalf("Page(%q) = %#v, %d, want %#v, OK", page, got, e, want)
	}
}

// wantWritten holds what is made of the page to how it is written, which is shorter to tell.
func wantWritten(t *testing.T, page, want string) {
	t.Helper()
	d, e := Page([]byte(page))
	if got, f := export.Page(d); got != want || e != api.OK || f != api.OK {
		t.Fatalf("of %q: %q, %d, %d, want %q, OK, OK", page, got, e, f, want)
	}
}

func wantMany(t *testing.T, page string) {
	t.Helper()
	if d, e := Page([]byte(page)); d != nil || e != api.ErrMany {
		t.Fatalf("of %d bytes %.30q: %d items, %d, want none, ErrMany", len(page), page, len(d), e)
	}
}

// end answers the end of a block of the kind.
func end(kind int) api.Item { return api.Item{C: 10, Marks: kind} }

func TestExamplesOfTheDocument(t *testing.T) {
	wantMade(t, "<p>a &lt; <b>b</b></p>", api.Doc{{C: 'a'}, {C: ' '}, {C: '<'}, {C: ' '}, {C: 'b', Marks: api.Bold}, end(0)})
	wantMade(t, `<a href="javascript:x">y</a>`, api.Doc{{C: 'y'}, end(0)})
}

func TestOrdinaryPages(t *testing.T) {
	wantMade(t, `<h1>a</h1><p><a href="http:x">b<i>c</i></a></p>`, api.Doc{
		{C: 'a'}, end(api.Bold),
		{C: 'b', Link: "http:x"}, {C: 'c', Marks: api.Slant, Link: "http:x"}, end(0),
	})
	wantMade(t, "<ul><li><b>a<em>b</em></b></li></ul><h2>&amp;</h2>", api.Doc{
		{C: 'a', Marks: api.Bold}, {C: 'b', Marks: api.Bold | api.Slant}, end(api.Slant),
		{C: '&'}, end(api.Bold | api.Slant),
	})
	wantWritten(t, "<!DOCTYPE html><html><head><title>x</title><style>p { }</style></head><body><H1 class=y>a</H1><p>b<br/>c</body></html>",
		"<h1>a</h1><p>b</p><p>c</p>")
}

func TestKindsOfBlocks(t *testing.T) {
	for name, kind := range map[string]int{"p": 0, "div": 0, "h1": 1, "li": 2, "h2": 3, "P": 0, "DIV": 0, "H1": 1, "Li": 2, "H2": 3} {
		want := api.Doc{{C: 'a'}, end(kind)}
		wantMade(t, "<"+name+">a</"+name+">", want)
		wantMade(t, "<"+name+">a", want)
		wantMade(t, "<"+name+" class='x'/>a", want)
	}
}

func TestBlocksWithNothingInThem(t *testing.T) {
	for i, name := range [4]string{"p", "h1", "li", "h2"} {
		wantMade(t, "<"+name+"></"+name+">", api.Doc{end(i)})
		wantMade(t, "<"+name+">", api.Doc{end(i)})
		wantMade(t, "<"+name+"><b></b><!-- a -->", api.Doc{end(i)})
		wantMade(t, "<"+name+"><"+name+">", api.Doc{end(i), end(i)})
		wantMade(t, "<"+name+"><p></p></"+name+">", api.Doc{end(i), end(0)})
		wantMade(t, "a<"+name+">", api.Doc{{C: 'a'}, end(0), end(i)})
	}
}

func TestABlockIsEndedWhenAnotherOneBegins(t *testing.T) {
	wantWritten(t, "<h1>a<h2>b", "<h1>a</h1><h2>b</h2>")
	wantWritten(t, "<h1>a<p>b</p>c</h1>d", "<h1>a</h1><p>b</p><p>c</p><p>d</p>")
	wantWritten(t, "<li>a<li>b<p>c</li>d", "<ul><li>a</li><li>b</li></ul><p>c</p><p>d</p>")
	wantWritten(t, "<div><div><h1>a</h1></div></div>", "<p></p><p></p><h1>a</h1>")
	wantWritten(t, "<li><ul><li>a</ul><li>b", "<ul><li></li><li>a</li><li>b</li></ul>")
}

// Whichever block is closed, the one that is open is ended, and nothing if there is none.
func TestClosesOfBlocks(t *testing.T) {
	wantWritten(t, "<h1>a</p>b", "<h1>a</h1><p>b</p>")
	wantWritten(t, "<h1></div>b", "<h1></h1><p>b</p>")
	wantWritten(t, "</p>a", "<p>a</p>")
	wantWritten(t, "</h1>a</h1></h1></li>b</h2>", "<p>a</p><p>b</p>")
	wantWritten(t, "<p>a</p></p></div>", "<p>a</p>")
	wantWritten(t, "<h1>a</h1></h1><h2></h2></h2>", "<h1>a</h1><h2></h2>")
	wantWritten(t, "<h1>a</h3>b</span>c</ul>d", "<h1>abcd</h1>")
}

func TestTextOutsideOfBlocks(t *testing.T) {
	wantWritten(t, "a", "<p>a</p>")
	wantWritten(t, "a<p>b</p>c", "<p>a</p><p>b</p><p>c</p>")
	wantWritten(t, "a<h1>b</h1>c<li>d</li>e", "<p>a</p><h1>b</h1><p>c</p><ul><li>d</li></ul><p>e</p>")
	wantWritten(t, "<b>a</b></p>b", "<p><b>a</b></p><p>b</p>")
	wantWritten(t, "<p>a</p>\n<p>b</p>\n", "<p>a</p><p> </p><p>b</p><p> </p>")
	wantWritten(t, "<ul>a<li>b</li></ul>", "<p>a</p><ul><li>b</li></ul>")
}

func TestMarks(t *testing.T) {
	for _, bold := range []string{"b", "strong", "B", "STRONG"} {
		for _, slanted := range []string{"i", "em", "I", "Em"} {
			wantWritten(t, "a<"+bold+">b</"+bold+">c<"+slanted+">d</"+slanted+">e", "<p>a<b>b</b>c<i>d</i>e</p>")
			wantWritten(t, "<"+bold+">a<"+slanted+">b</"+bold+">c</"+slanted+">d", "<p><b>a</b><b><i>b</i></b><i>c</i>d</p>")
			wantWritten(t, "<"+slanted+">a<"+bold+">b</"+slanted+">c</"+bold+">d", "<p><i>a</i><b><i>b</i></b><b>c</b>d</p>")
		}
	}
}

func TestMarksMoreThanOnce(t *testing.T) {
	wantWritten(t, "<b>a<b>b</b>c</b>d", "<p><b>abc</b>d</p>")
	wantWritten(t, "<b><strong>a</b>b</b>c", "<p><b>ab</b>c</p>")
	wantWritten(t, "<i><em><i>a</i></i>b</em>c", "<p><i>ab</i>c</p>")
	wantWritten(t, strings.Repeat("<b>", 500)+"a"+strings.Repeat("</b>", 499)+"b</strong>c", "<p><b>ab</b>c</p>")
	wantWritten(t, strings.Repeat("<em>", 500)+"a"+strings.Repeat("</i>", 499)+"b</em>c", "<p><i>ab</i>c</p>")
}

func TestMarksClosedMoreOftenThanOpened(t *testing.T) {
	wantWritten(t, "</b>a<b>b</b></b></strong>c<b>d", "<p>a<b>b</b>c<b>d</b></p>")
	wantWritten(t, "</i></em>a<i>b</i></i></em>c<em>d", "<p>a<i>b</i>c<i>d</i></p>")
	wantWritten(t, "<b></i>a<i></b>b</b><b>c", "<p><b>a</b><i>b</i><b><i>c</i></b></p>")
}

// The marks and the link go on in the next block; its end has neither.
func TestMarksAndLinksGoOnInTheNextBlock(t *testing.T) {
	wantMade(t, "<a href=http:x><b>a<h1>b</b>c</a><li>d", api.Doc{
		{C: 'a', Marks: 1, Link: "http:x"}, end(0),
		{C: 'b', Marks: 1, Link: "http:x"}, {C: 'c', Link: "http:x"}, end(1),
		{C: 'd'}, end(2),
	})
	wantWritten(t, "<p><i>a</p><p>b</p></i>c", "<p><i>a</i></p><p><i>b</i></p><p>c</p>")
	wantMade(t, "<a href=http:x><b><i><br></p><h1></h1>", api.Doc{end(0), end(1)})
}

func TestLinks(t *testing.T) {
	for href, want := range map[string]string{
		`"http:x"`:                 "http:x",
		"https://y":                "https://y",
		"'mailto:a@b'":             "mailto:a@b",
		`" http:x "`:               "http:x",
		"'\n\thttp:x\r\f'":         "http:x",
		"HTTP:X":                   "HTTP:X",
		`"http:?a&amp;b"`:          "http:?a&b",
		"http:&amp;lt;":            "http:&lt;",
		"http:1234567890123456789": "http:1234567890123456789",

		"http:12345678901234567890": "",
		`""`:                        "",
		"x":                         "",
		"/x":                        "",
		"javascript:x":              "",
		"JavaScript:x":              "",
		"data:x":                    "",
		"'java\nscript:x'":          "",
		"' javascript:http:x'":      "",
		`"http:a b"`:                "",
		"'http:\"'":                 "",
		`"http:&lt;"`:               "",
		`"http:'"`:                  "",
		`http:\`:                    "",
		"http:\x7f":                 "",
		"http:\xc3\xa4":             "",
	} {
		wantMade(t, "<a href="+href+">a</a>b", api.Doc{{C: 'a', Link: want}, {C: 'b'}, end(0)})
	}
}

func TestWhereLinksBeginAndEnd(t *testing.T) {
	x, y := `<a href="http:x">`, `<a href="http:y">`
	wantWritten(t, "a"+x+"b</a>c</a>d", "<p>a"+x+"b</a>cd</p>")
	wantWritten(t, x+"a"+y+"b</a>c", "<p>"+x+"a</a>"+y+"b</a>c</p>")
	wantWritten(t, x+"a<a>b", "<p>"+x+"a</a>b</p>")
	wantWritten(t, x+"a<a href=javascript:x>b</a>c", "<p>"+x+"a</a>bc</p>")
	wantWritten(t, x+"a<a name=z>b", "<p>"+x+"a</a>b</p>")
	wantWritten(t, x+"a</A>b<A HREF=http:y>c", "<p>"+x+"a</a>b"+y+"c</a></p>")
	wantWritten(t, x+"a", "<p>"+x+"a</a></p>")
	wantWritten(t, "<p href=http:x>a<b href=http:x>b<span href=http:x>c", "<p>a<b>bc</b></p>")
	wantWritten(t, "<a href=http:x href=http:y>a", "<p>"+x+"a</a></p>")
}

func TestBreaksInABlock(t *testing.T) {
	for name, open := range map[string]string{"p": "<p>", "h1": "<h1>", "h2": "<h2>"} {
		shut := "</" + name + ">"
		wantWritten(t, open+"a<br>b"+shut, open+"a"+shut+open+"b"+shut)
		wantWritten(t, open+"a<br>b<br>"+shut, open+"a"+shut+open+"b"+shut)
		wantWritten(t, open+"a<br>b<br>c", open+"a"+shut+open+"b"+shut+open+"c"+shut)
		wantWritten(t, open+"a<br><br>b"+shut, open+"a"+shut+open+shut+open+"b"+shut)
		wantWritten(t, open+"<br>a", open+shut+open+"a"+shut)
		wantWritten(t, open+"<br>"+shut, open+shut)
		wantWritten(t, open+"<BR/>", open+shut)
		wantWritten(t, open+"a<br><p>b", open+"a"+shut+"<p>b</p>")
		wantWritten(t, open+"a<br><h2>b", open+"a"+shut+"<h2>b</h2>")
	}
	wantWritten(t, "<li>a<br>b<li>c", "<ul><li>a</li><li>b</li><li>c</li></ul>")
	wantWritten(t, "<b>a<br>b", "<p><b>a</b></p><p><b>b</b></p>")
}

func TestBreaksOutsideOfBlocks(t *testing.T) {
	wantWritten(t, "<br>", "<p></p>")
	wantWritten(t, "<br><br>", "<p></p><p></p>")
	wantWritten(t, "a<br>", "<p>a</p>")
	wantWritten(t, "a<br>b", "<p>a</p><p>b</p>")
	wantWritten(t, "<br>a", "<p></p><p>a</p>")
	wantWritten(t, "a<br><h1>b", "<p>a</p><h1>b</h1>")
	wantWritten(t, "<h1>a</h1><br>b", "<h1>a</h1><p></p><p>b</p>")
	wantWritten(t, "<h1>a</h1>b<br>c", "<h1>a</h1><p>b</p><p>c</p>")
	wantWritten(t, "a</br>b", "<p>ab</p>")
}

// What stands behind the Close of a block isn't of its kind, even if a br ended all that stood in it.
func TestTheKindEndsWithItsBlock(t *testing.T) {
	wantWritten(t, "<h1>a<br></h1>b", "<h1>a</h1><p>b</p>")
	wantWritten(t, "<h2><br></p><br>b", "<h2></h2><p></p><p>b</p>")
	wantWritten(t, "<li>a<br></li></ul>b", "<ul><li>a</li></ul><p>b</p>")
	wantWritten(t, "<h1>a<br>b</h1>c", "<h1>a</h1><h1>b</h1><p>c</p>")
}

func TestWhatIsHidden(t *testing.T) {
	for _, name := range []string{"script", "style", "template", "svg", "math", "iframe", "title", "textarea", "noscript", "SCRIPT", "Svg"} {
		open, shut := "<"+name+">", "</"+name+">"
		wantWritten(t, "a"+open+"b"+shut+"c", "<p>ac</p>")
		wantWritten(t, "a"+open+"b", "<p>a</p>")
		wantWritten(t, open+"b", "<p></p>")
		wantWritten(t, "a"+open+"<p>b</p><h1>c<br></h1>"+shut+"d", "<p>ad</p>")
		wantWritten(t, "a"+open+"<b><i><a href=http:x>b"+shut+"c", "<p>ac</p>")
		wantWritten(t, "<b><i><a href=http:x>"+open+"</b></i></a></p>"+shut+"a", `<p><a href="http:x"><b><i>a</i></b></a></p>`)
		wantWritten(t, "a"+open+"b"+open+"c"+shut+"d"+shut+"e", "<p>ade</p>")
		wantWritten(t, "a"+open+"b"+shut+"c"+open+"d"+shut+"e", "<p>ace</p>")
		wantWritten(t, "a"+open+"<!-- "+shut+" -->b"+shut+"c", "<p>ac</p>")
		wantWritten(t, "a<"+name+" src=x/>b"+shut+"c", "<p>ac</p>")
		wantWritten(t, "a"+open+"b</"+name+" x=y>c", "<p>ac</p>")
		wantWritten(t, "a"+open+"b</"+name, "<p>a</p>")
		wantWritten(t, "a"+shut+"b", "<p>ab</p>")
		wantWritten(t, "<h1>a"+open+"</h1>"+shut+"b", "<h1>ab</h1>")
		wantWritten(t, "<h1>a<br>"+open+"</h1>b"+shut+"c", "<h1>a</h1><h1>c</h1>")
	}
}

func TestOnlyACloseOfItsNameEndsWhatIsHidden(t *testing.T) {
	wantWritten(t, "a<script>b</style>c</p>d</scripts>e</script>f", "<p>af</p>")
	wantWritten(t, "a<svg>b<script>c</svg>d</script>e", "<p>ade</p>")
	wantWritten(t, "a<math>b<title>c</title>d</math>e", "<p>ae</p>")
	wantWritten(t, "a<style>b</ style>c&lt;/style>d", "<p>a</p>")
	// What is hidden is taken apart like all else: here the Close is within a tag.
	wantWritten(t, "a<script>b<c</script>d", "<p>a</p>")
	wantWritten(t, "a<script>b < c</script>d", "<p>ad</p>")
}

func TestEachByte(t *testing.T) {
	for n := range 256 {
		c := byte(n)
		want := c
		switch {
		case strings.ContainsRune("\t\n\r\f", rune(n)):
			want = ' '
		case n < ' ' || n > '~':
			want = '?'
		}
		wantMade(t, string([]byte{c}), api.Doc{{C: want}, end(0)})
		wantMade(t, string([]byte{'<', 'b', '>', 'a', c, '.'}), bold('a', want, '.'))
	}
	wantWritten(t, "a\nb\x01", "<p>a b?</p>")
	wantWritten(t, "\u00e4\u20ac\xff", "<p>??????</p>")
	wantWritten(t, "\r\n \t", "<p>    </p>")
	wantWritten(t, "&lt;&gt;&quot;&amp;&nbsp;", "<p>&lt;&gt;&quot;&amp;&amp;nbsp;</p>")
}

// bold answers these, bold, and the end of a block behind them.
func bold(characters ...byte) api.Doc {
	var d api.Doc
	for _, c := range characters {
		d = append(d, api.Item{C: c, Marks: api.Bold})
	}
	return append(d, end(0))
}

func TestTagsThatMeanNothing(t *testing.T) {
	for _, name := range []string{
		"span", "ul", "ol", "table", "tr", "td", "body", "html", "head", "img", "h3", "h4", "u", "s", "hr", "pre", "object", "embed",
		"p1", "pp", "d", "di", "divs", "h", "h10", "l", "lis", "bs", "bb", "str", "strongs", "ii", "e", "ems", "aa", "abbr", "brr",
		"scripts", "scrip", "styl", "titles", "x:p", "b<", "p\x00",
	} {
		for _, around := range [][2]string{{"<p>", "</p>"}, {"<h1><b>", "</b></h1>"}, {"<h2><i>", "</i></h2>"}} {
			for _, tag := range []string{"<" + name + ">", "</" + name + ">", "<" + name + " href=http:x>", "<" + name + "/>"} {
				wantWritten(t, around[0]+"a"+tag+"b"+around[1], around[0]+"ab"+around[1])
			}
		}
	}
	wantWritten(t, "a<!-- <p>b</p> -->c<!d>e<?f>g", "<p>aceg</p>")
}

func TestAPageOfNothing(t *testing.T) {
	for _, page := range []string{
		"", "<!-- a -->", "<!a>", "<?", "<p", "<h1 ", "</h1>", "</p></div>", "<b>", "</b>", "<a href=http:x>", "</a>",
		"<script>", "<title>a", "</script>", "<span></span>", "<style>a<p></p></style>", "</br>",
	} {
		wantMade(t, page, api.Doc{end(0)})
	}
	if d, e := Page(nil); !slices.Equal(d, api.Doc{end(0)}) || e != api.OK {
		t.Fatalf("of nil: %#v, %d", d, e)
	}
}

func TestPagesThatAreTooLong(t *testing.T) {
	for _, s := range []string{"a", "<b>", "<!--", "<script>", "<p"} {
		for _, n := range []int{api.MaxText + 1, 7 * api.MaxText} {
			wantMany(t, strings.Repeat(s, n)[:n])
		}
	}
}

func TestTheLongestPages(t *testing.T) {
	n := api.MaxText
	wantWritten(t, strings.Repeat("<b>", n/3)+"ab", "<p><b>ab</b></p>")
	wantWritten(t, strings.Repeat("</i>", n/4-1)+"<i>a", "<p><i>a</i></p>")
	wantWritten(t, "<svg>"+strings.Repeat("<p>a", n/4-4)+"</svg>abcde", "<p>abcde</p>")
	wantWritten(t, "<a href='"+strings.Repeat(" ", n-18)+"http:x'>a", `<p><a href="http:x">a</a></p>`)
	wantWritten(t, "<a href='"+strings.Repeat("&amp;", n/5-3)+"'>ab", "<p>ab</p>")
}

func TestTooManyItems(t *testing.T) {
	n := api.MaxItems
	for _, s := range []string{"a", "&amp;", "<", "\n", "\x00", "<b>a</b>", "<a href=http:x>a"} {
		d, e := Page([]byte(strings.Repeat(s, n-1)))
		if len(d) != n || e != api.OK || doc.Check(d) != api.OK {
			t.Fatalf("%d times %q: %d items, %d", n-1, s, len(d), e)
		}
		wantMany(t, strings.Repeat(s, n))
		wantMany(t, strings.Repeat(s, n+1))
		wantMany(t, strings.Repeat(s, n)+"<p>")
		wantMany(t, strings.Repeat(s, n)+"<br>")
		wantMany(t, strings.Repeat(s, n-1)+"<p>")
	}
	for _, s := range []string{"<p>", "<h1></h1>", "<br>", "<li><span></li>"} {
		d, e := Page([]byte(strings.Repeat(s, n)))
		if len(d) != n || e != api.OK || doc.Check(d) != api.OK {
			t.Fatalf("%d times %q: %d items, %d", n, s, len(d), e)
		}
		wantMany(t, strings.Repeat(s, n+1))
		wantMany(t, strings.Repeat(s, n)+"a")
	}
	wantMany(t, strings.Repeat("a", api.MaxText))
	wantMany(t, strings.Repeat("<br>", api.MaxText/4))
	wantMany(t, strings.Repeat("a", n+1)+"<script>")
}

func TestWhatIsNotShownCountsNothing(t *testing.T) {
	n := api.MaxItems
	want := append(slices.Repeat(api.Doc{{C: 'a'}}, n-1), end(0))
	for _, s := range []string{"<script>" + strings.Repeat("b<p>", n) + "</script>", strings.Repeat("<!-- b -->", n), strings.Repeat("</p>", n), strings.Repeat("<i></i>", n)} {
		wantMade(t, s+strings.Repeat("a", n-1), want)
		wantMade(t, strings.Repeat("a", n-1)+s, want)
		wantMany(t, s+strings.Repeat("a", n))
	}
}

// everyText hands on all texts of at most n of the pieces, one behind the other.
func everyText(pieces []string, n int, use func(string)) {
	use("")
	level := []string{""}
	for range n {
		var next []string
		for _, s := range level {
			for _, p := range pieces {
				use(s + p)
				next = append(next, s+p)
			}
		}
		level = next
	}
}

// shownOf leaves out what is hidden.
func shownOf(l []api.Token) []api.Token {
	var out []api.Token
	for i := 0; i < len(l); i++ {
		if x := l[i]; x.Kind != api.Open || !strings.Contains(" script style template svg math iframe title textarea noscript ", " "+x.Name+" ") {
			out = append(out, x)
			continue
		}
		n := slices.Index(l[i+1:], api.Token{Kind: api.Close, Name: l[i].Name})
		if n < 0 {
			return out
		}
		i += 1 + n
	}
	return out
}

// depthOf answers how deep in tags of one of the names the end of l is: what was opened since it was never less.
func depthOf(l []api.Token, names string) int {
	depth, least := 0, 0
	for _, x := range l {
		switch {
		case x.Kind == api.Text || !strings.Contains(names, " "+x.Name+" "):
		case x.Kind == api.Open:
			depth++
		case x.Kind == api.Close:
			depth--
		}
		least = min(least, depth)
	}
	return depth - least
}

// hrefOf answers what the last `a` of l says.
func hrefOf(l []api.Token) string {
	for _, x := range slices.Backward(l) {
		if x.Name == "a" {
			to := strings.Trim(x.Href, " \t\n\r\f")
			if doc.Item(api.Item{C: 'a', Link: to}) == api.OK {
				return to
			}
			return ""
		}
	}
	return ""
}

// byLines answers what is made of a page by another way than the program's: the tokens fall into lines, each of which is a block if something stands in it, if it begins with the Open of a block, or if a br ends it.
func byLines(page string) api.Doc {
	kinds := map[string]int{"p": 0, "div": 0, "h1": 1, "li": 2, "h2": 3}
	l, _ := token.Page([]byte(page))
	l = shownOf(l)
	var d, line api.Doc
	kind, opened := 0, false
	finish := func(isBlock bool) {
		if isBlock || opened || len(line) > 0 {
			d = append(append(d, line...), end(kind))
		}
		line = nil
	}
	for i, x := range l {
		k, isBlock := kinds[x.Name]
		switch {
		case x.Kind == api.Text:
			line = append(line, itemsOf(x.Text, l[:i])...)
		case x.Kind == api.Open && x.Name == "br":
			finish(true)
			opened = false
		case isBlock:
			finish(false)
			kind, opened = 0, x.Kind == api.Open
			if opened {
				kind = k
			}
		}
	}
	finish(false)
	if d == nil {
		return api.Doc{end(0)}
	}
	return d
}

// itemsOf answers the items of a text behind these tokens.
func itemsOf(s string, ahead []api.Token) api.Doc {
	x := api.Item{Link: hrefOf(ahead)}
	if depthOf(ahead, " b strong ") > 0 {
		x.Marks++
	}
	if depthOf(ahead, " i em ") > 0 {
		x.Marks += 2
	}
	var d api.Doc
	for _, c := range []byte(s) {
		x.C = c
		if doc.Item(api.Item{C: c}) != api.OK {
			x.C = '?'
		}
		if strings.TrimSpace(string(rune(c))) == "" && c < 128 && c != '\v' {
			x.C = ' '
		}
		d = append(d, x)
	}
	return d
}

// wantItself: what is made of the page is a document, and what is written of it is made that again.
func wantItself(t *testing.T, page string) {
	t.Helper()
	d, e := Page([]byte(page))
	if e != api.OK || doc.Check(d) != api.OK {
		t.Fatalf("of %q no document is made, but %#v, %d", page, d, e)
	}
	wantBack(t, d)
}

// wantBack: what is written of d is made d again.
func wantBack(t *testing.T, d api.Doc) {
	t.Helper()
	page, e := export.Page(d)
	if e != api.OK {
		t.Fatalf("%#v is not written: %d", d, e)
	}
	wantMade(t, page, d)
}

func TestEveryShortPage(t *testing.T) {
	for _, pieces := range [][]string{
		{"a", "<p>", "<h1>", "<li>", "</h1>", "<br>", "<b>", "</b>", "<script>", "</script>"},
		{"a", "<b>", "<strong>", "</strong>", "</b>", "<em>", "</i>", "<a href=http:x>", "</a>", "</div>"},
		{"a", "<div>", "</p>", "<h2>", "</h2>", "<br>", "<svg>", "</svg>", "<title>", "</title>"},
	} {
		everyText(pieces, 5, func(page string) {
			wantMade(t, page, byLines(page))
			wantItself(t, page)
		})
	}
}

// Whatever the bytes are, a document is made of them.
func TestEveryShortPageOfBytes(t *testing.T) {
	everyText([]string{"<", ">", "/", "!", "--", "p", "b", "a href=", "http:", "'", " ", "\v", "&lt;", "\x00"}, 4, func(page string) {
		for _, s := range []string{page, "<" + page + ">a", "<a " + page + ">b</" + page + ">c"} {
			wantMade(t, s, byLines(s))
			wantItself(t, s)
		}
	})
}

// everyDoc hands on all documents of at most n of the items and the end of a block of each kind behind them.
func everyDoc(items []api.Item, n int, use func(api.Doc)) {
	level := []api.Doc{nil}
	for range n + 1 {
		var next []api.Doc
		for _, d := range level {
			for kind := range 4 {
				use(append(slices.Clone(d), end(kind)))
			}
			for _, x := range items {
				next = append(next, append(slices.Clone(d), x))
			}
		}
		level = next
	}
}

func TestWhatIsWrittenOfDocumentsIsMadeThemAgain(t *testing.T) {
	link := "http:?a&b&lt;"
	everyDoc([]api.Item{
		{C: 'a'}, {C: '<'}, {C: ' ', Marks: 1}, {C: '"', Marks: 2, Link: link}, {C: '>', Marks: 3}, {C: '&', Marks: 3, Link: link},
		end(0), end(1), end(2), end(3),
	}, 4, func(d api.Doc) { wantBack(t, d) })
}

func TestTelltaleCharactersAreMadeThemselvesAgain(t *testing.T) {
	for _, s := range []string{"<b>", "</p>", "<!--", "-->", "<br>", "&lt;p&gt;", "&amp;lt;", "<script>x", "</a>", `<a href="http:x">`, "   ", "?"} {
		for marks := range 4 {
			for _, link := range []string{"", "http:x", "mailto:a&b=c/?&gt;", "HTTPS:////&quot;"} {
				var d api.Doc
				for _, c := range []byte(s) {
					d = append(d, api.Item{C: c, Marks: marks, Link: link})
				}
				wantBack(t, append(d, end(marks)))
			}
		}
	}
	for c := byte(32); c <= 126; c++ {
		wantBack(t, api.Doc{{C: c}, {C: c, Marks: 3, Link: "http:&"}, end(0)})
	}
}

func TestTheGreatestDocumentsAreMadeThemselvesAgain(t *testing.T) {
	var d api.Doc
	for i := range api.MaxItems - 1 {
		d = append(d, api.Item{C: '"', Marks: 3, Link: "http:" + strings.Repeat("&", api.MaxLink-6-i%2) + "x"})
	}
	wantBack(t, append(d, end(2)))
	wantBack(t, slices.Repeat(api.Doc{end(2), end(1)}, api.MaxItems/2))
	wantBack(t, slices.Repeat(api.Doc{end(2)}, api.MaxItems))
	wantBack(t, slices.Repeat(api.Doc{{C: ' '}, end(0)}, api.MaxItems/2))
}

func TestNothingHandedInIsChangedOrKept(t *testing.T) {
	room := []byte("a&lt;<A HREF='http:x&amp;'>B</A><!--c--><h1>\n<B e=\"f'>\">g<br>h<svg>i</svg>j")
	kept := slices.Clone(room)
	for n := range len(room) + 1 {
		d, _ := Page(room[:n])
		if !slices.Equal(room, kept) {
			t.Fatalf("of %d bytes something is changed: %q", n, room)
		}
		want, _ := Page(slices.Clone(room[:n]))
		for i := range room {
			room[i] = '#'
		}
		if !slices.Equal(d, want) {
			t.Fatalf("of %d bytes something is kept: %#v", n, d)
		}
		copy(room, kept)
	}
}

// What a caller does to one answer is not to be seen in the next one.
func TestEachAnswerIsNew(t *testing.T) {
	for _, page := range []string{"", "<script>a", "<h1>a<br>b", "<a href=http:x>a"} {
		d, _ := Page([]byte(page))
		want := slices.Clone(d)
		clear(d[:cap(d)])
		wantMade(t, page, want)
	}
}
