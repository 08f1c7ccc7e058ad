package token

import (
	"regexp"
	"slices"
	"strings"
	"testing"

	"manyhands/api"
	"manyhands/export"
)

func wantTokens(t *testing.T, page string, want ...api.Token) {
	t.Helper()
	if got, e := Page([]byte(page)); !slices.Equal(got, want) || e != api.OK {
		t.Fatalf("Page(%q) = %#v, %d, want %#v, OK", page, got, e, want)
	}
}

// wantHref is for pages of one tag, an `a` that is opened.
func wantHref(t *testing.T, page, want string) {
	t.Helper()
	wantTokens(t, page, leading(want))
}

func shown(s string) api.Token     { return api.Token{Kind: api.Text, Text: s} }
func opened(name string) api.Token { return api.Token{Kind: api.Open, Name: name} }
func closed(name string) api.Token { return api.Token{Kind: api.Close, Name: name} }
func leading(to string) api.Token  { return api.Token{Kind: api.Open, Name: "a", Href: to} }
func other() api.Token             { return api.Token{Kind: api.Other} }

func TestOrdinaryPages(t *testing.T) {
	wantTokens(t, "<p>a &lt; <b>b</b></p>", opened("p"), shown("a < "), opened("b"), shown("b"), closed("b"), closed("p"))
	wantTokens(t, `<a href="javascript:x">y</a>`, leading("javascript:x"), shown("y"), closed("a"))
	wantTokens(t, "<!DOCTYPE html>\n<ul class=\"x y\"><li>a<br/>b</ul><!-- c -->\n",
		other(), shown("\n"), opened("ul"), opened("li"), shown("a"), opened("br"), shown("b"), closed("ul"), other(), shown("\n"))
}

func TestTexts(t *testing.T) {
	wantTokens(t, "")
	wantTokens(t, "a", shown("a"))
	wantTokens(t, " a>b/c='d'\n", shown(" a>b/c='d'\n"))
	wantTokens(t, "a<b>", shown("a"), opened("b"))
	wantTokens(t, "<b>a", opened("b"), shown("a"))
	wantTokens(t, "<b> <i>", opened("b"), shown(" "), opened("i"))
	wantTokens(t, "<b><i>", opened("b"), opened("i"))
	wantTokens(t, ">", shown(">"))
	wantTokens(t, "-->a", shown("-->a"))
}

func TestTextsAreRead(t *testing.T) {
	wantTokens(t, "&lt;b&gt; &amp;lt; &quot;", shown(`<b> &lt; "`))
	wantTokens(t, "&nbsp;&LT;&lt", shown("&nbsp;&LT;&lt"))
	// What a tag stands in is no way of writing, and what was read is no tag.
	wantTokens(t, "&l<b>t;&lt;i>", shown("&l"), opened("b"), shown("t;<i>"))
	wantTokens(t, "&<t;", shown("&"))
}

func TestWhatBeginsNoTag(t *testing.T) {
	wantTokens(t, "<", shown("<"))
	wantTokens(t, "</", shown("<"), shown("/"))
	wantTokens(t, "a<", shown("a"), shown("<"))
	wantTokens(t, "<<", shown("<"), shown("<"))
	wantTokens(t, "<<b>", shown("<"), opened("b"))
	wantTokens(t, "< b>", shown("<"), shown(" b>"))
	wantTokens(t, "</ b>", shown("<"), shown("/ b>"))
	wantTokens(t, "<//b>", shown("<"), shown("//b>"))
	wantTokens(t, "</!-->", shown("<"), shown("/!-->"))
	wantTokens(t, "<>", shown("<"), shown(">"))
	wantTokens(t, "</>", shown("<"), shown("/>"))
	wantTokens(t, "a<1 &amp; b", shown("a"), shown("<"), shown("1 & b"))
	wantTokens(t, "<&lt;", shown("<"), shown("<"))
}

// A tag begins with a letter, and of all bytes with no other one.
func TestEachByteBehindALess(t *testing.T) {
	for n := range 256 {
		c := string([]byte{byte(n)})
		name := strings.ToLower(c)
		switch {
		case n >= 'a' && n <= 'z' || n >= 'A' && n <= 'Z':
			wantTokens(t, "<"+c+">x", opened(name), shown("x"))
			wantTokens(t, "</"+c+">x", closed(name), shown("x"))
			continue
		case c == "!" || c == "?":
			wantTokens(t, "<"+c+">x", other(), shown("x"))
		case c == "<":
			wantTokens(t, "<"+c+">x", shown("<"), shown("<"), shown(">x"))
		default:
			wantTokens(t, "<"+c+">x", shown("<"), shown(c+">x"))
		}
		if c == "<" {
			wantTokens(t, "</"+c+">x", shown("<"), shown("/"), shown("<"), shown(">x"))
		} else {
			wantTokens(t, "</"+c+">x", shown("<"), shown("/"+c+">x"))
		}
	}
}

func TestComments(t *testing.T) {
	wantTokens(t, "<!---->a", other(), shown("a"))
	wantTokens(t, "<!-- <b> > -- -> -->a-->", other(), shown("a-->"))
	wantTokens(t, "<!-- <!-- -->a", other(), shown("a"))
	wantTokens(t, "<!----->a", other(), shown("a"))
	wantTokens(t, "<!--\n\"-->\"", other(), shown("\""))
	wantTokens(t, "a<!--b--><!--c-->d", shown("a"), other(), other(), shown("d"))
	// The end stands behind the beginning: they share no bytes.
	wantTokens(t, "<!-->a", other())
	wantTokens(t, "<!--->a", other())
	wantTokens(t, "<!-->a-->b", other(), shown("b"))
	wantTokens(t, "<!--->a-->b", other(), shown("b"))
	wantTokens(t, "<!--", other())
	wantTokens(t, "<!--a<b>--", other())
	wantTokens(t, "<!--a<b>--!>", other())
}

func TestOthers(t *testing.T) {
	wantTokens(t, "<!>a", other(), shown("a"))
	wantTokens(t, "<?>a", other(), shown("a"))
	wantTokens(t, "<!-a-->b", other(), shown("b"))
	wantTokens(t, "<! -- >b-->", other(), shown("b-->"))
	wantTokens(t, "<?--a>b-->", other(), shown("b-->"))
	wantTokens(t, "<!a \">\">b", other(), shown("\">b"))
	wantTokens(t, "<?a '>'?>b", other(), shown("'?>b"))
	wantTokens(t, "<!a<b>c", other(), shown("c"))
	wantTokens(t, "<!", other())
	wantTokens(t, "<?", other())
	wantTokens(t, "<!-", other())
	wantTokens(t, "a<!b<i", shown("a"), other())
	wantTokens(t, "<![CDATA[a>b]]>", other(), shown("b]]>"))
}

func TestNames(t *testing.T) {
	wantTokens(t, "<b></b>", opened("b"), closed("b"))
	wantTokens(t, "<ABCDEFGHIJKLMNOPQRSTUVWXYZ>", opened("abcdefghijklmnopqrstuvwxyz"))
	wantTokens(t, "</ScRiPt>", closed("script"))
	wantTokens(t, "<H1></h2>", opened("h1"), closed("h2"))
	for _, end := range []string{" ", "\t", "\n", "\r", "\f", "/", " /", "/ ", "//"} {
		wantTokens(t, "<Ab"+end+">c", opened("ab"), shown("c"))
		wantTokens(t, "</Ab"+end+">c", closed("ab"), shown("c"))
		wantTokens(t, "<Ab"+end+"d>c", opened("ab"), shown("c"))
	}
	wantTokens(t, "<b/a>", opened("b"))
	// All else belongs to the name.
	for n := range 256 {
		if strings.IndexByte(" \t\n\r\f/>", byte(n)) < 0 && (n < 'A' || n > 'Z') {
			name := "x" + string([]byte{byte(n)}) + "y"
			wantTokens(t, "<"+name+">", opened(name))
		}
	}
	wantTokens(t, "<b<I>", opened("b<i"))
	wantTokens(t, "<b=\"X>\">", opened(`b="x`), shown(`">`))
	wantTokens(t, "<a&amp;>", opened("a&amp;"))
	wantTokens(t, "<bÄÉK\xff>", opened("bÄÉk\xff"))
	wantTokens(t, "<b\u212a>", opened("b\u212a"))
}

func TestAttributesWithoutValue(t *testing.T) {
	wantTokens(t, "<b x>c", opened("b"), shown("c"))
	wantTokens(t, "<b x y/z>c", opened("b"), shown("c"))
	wantTokens(t, "<b <i>c", opened("b"), shown("c"))
	wantTokens(t, "<b \">\">c", opened("b"), shown("\">c"))
	wantTokens(t, "<b ' '>c", opened("b"), shown("c"))
	wantHref(t, "<a href>", "")
	wantHref(t, "<a href/>", "")
	wantHref(t, "<a href x=y>", "")
	wantHref(t, `<a href "x">`, "")
	wantHref(t, "<a href/=x>", "")
	wantHref(t, "<a hrefx>", "")
}

func TestValuesWithoutQuotes(t *testing.T) {
	wantHref(t, "<a href=x>", "x")
	wantHref(t, "<a href=x y>", "x")
	wantHref(t, "<a href=http://x/y/>", "http://x/y/")
	wantHref(t, "<a href=x\"y'=z<w>", `x"y'=z<w`)
	wantHref(t, "<a href==>", "=")
	wantHref(t, "<a href=>", "")
	wantHref(t, "<a href= >", "")
	wantHref(t, "<a href=/>", "/")
	for _, space := range []string{" ", "\t", "\n", "\r", "\f", " \n\t"} {
		wantHref(t, "<a"+space+"href=x"+space+"y=z>", "x")
		wantHref(t, "<a href"+space+"=x>", "x")
		wantHref(t, "<a href="+space+"x>", "x")
		wantHref(t, "<a href"+space+"="+space+"x"+space+">", "x")
	}
	// What is no space belongs to the value.
	wantHref(t, "<a href=\vx\v>", "\vx\v")
	wantHref(t, "<a href=\x00\xa0\xff>", "\x00\xa0\xff")
}

func TestValuesInQuotes(t *testing.T) {
	for _, q := range []string{`"`, "'"} {
		wantHref(t, "<a href="+q+"x"+q+">", "x")
		wantHref(t, "<a href="+q+q+">", "")
		wantHref(t, "<a href="+q+" x > y / z = \n"+q+">", " x > y / z = \n")
		wantHref(t, "<a href \n=\t "+q+"x"+q+">", "x")
		wantHref(t, "<a href="+q+"x"+q+"y=z>", "x")
		wantHref(t, "<a y="+q+"z"+q+"href=x>", "x")
		wantHref(t, "<a y="+q+" href=z "+q+" href=x>", "x")
		wantHref(t, "<a y="+q+">"+q+"/href=x>", "x")
		wantTokens(t, "<a href="+q+"x"+q+q+">"+q+">", leading("x"), shown(q+">"))
	}
	wantHref(t, `<a href="it's">`, "it's")
	wantHref(t, `<a href='"x"'>`, `"x"`)
}

func TestValuesWithoutEnd(t *testing.T) {
	wantTokens(t, `a<b c="`, shown("a"))
	wantTokens(t, `a<b c="d>e<i>'`, shown("a"))
	wantTokens(t, `a<b c='d>e<i>"`, shown("a"))
	wantTokens(t, `a<a href="d>e`, shown("a"))
	wantTokens(t, `a</b c="d>e`, shown("a"))
	wantTokens(t, `<b c="x>"><i c="y>`, opened("b"))
}

func TestNamesOfAttributes(t *testing.T) {
	wantHref(t, "<A HREF=x>", "x")
	wantHref(t, "<a hReF=X>", "X")
	wantHref(t, "<a xhref=x>", "")
	wantHref(t, "<a href2=x>", "")
	wantHref(t, "<a hre f=x>", "")
	wantHref(t, `<a "href=x>`, "")
	wantHref(t, `<a "href"=x>`, "")
	wantHref(t, "<a \x00href=x>", "")
	wantHref(t, "<a src=x>", "")
	// The first byte belongs to the name, even if it is `=`.
	wantHref(t, "<a =href=x>", "")
	wantHref(t, "<a = href=x>", "x")
	wantHref(t, "<a ==href=x>", "")
	wantHref(t, "<a ===href=x href=y>", "y")
	wantHref(t, "<a =\"href=x>", "")
	wantHref(t, "<a =>", "")
	wantHref(t, "<a //href=x>", "x")
	wantHref(t, "<a/href=x>", "x")
	wantHref(t, "<a b/href=x>", "x")
	wantHref(t, "<a b=/href=x>", "")
	wantHref(t, "<a b=/ href=x>", "x")
}

func TestTheFirstHref(t *testing.T) {
	wantHref(t, "<a href=x href=y>", "x")
	wantHref(t, "<a HREF='x' href=\"y\">", "x")
	wantHref(t, "<a b=c href=x d=e href=y>", "x")
	wantHref(t, "<a href href=y>", "")
	wantHref(t, `<a href="" href=y>`, "")
	wantHref(t, "<a href= href=y>", "href=y")
	wantTokens(t, "<a href=x><a href=y><a>", leading("x"), leading("y"), leading(""))
}

func TestHrefIsRead(t *testing.T) {
	wantHref(t, `<a href="x&amp;y&quot;&lt;&gt;">`, `x&y"<>`)
	wantHref(t, "<a href=&amp;lt;>", "&lt;")
	wantHref(t, "<a href='&quot;'>", `"`)
	wantHref(t, "<a &quot;href=x>", "")
	wantHref(t, "<a h&lt;=x hre&amp;f=x>", "")
}

// Whatever its name is, an Open may have one; a Close has none.
func TestWhichTagsHaveHref(t *testing.T) {
	wantTokens(t, "<b href=x>", api.Token{Kind: api.Open, Name: "b", Href: "x"})
	wantTokens(t, "<xyz/href=x>", api.Token{Kind: api.Open, Name: "xyz", Href: "x"})
	wantTokens(t, "</a href=x>", closed("a"))
	wantTokens(t, `</A b="c>" HREF='d'/>e`, closed("a"), shown("e"))
}

func TestTagsWithoutEnd(t *testing.T) {
	for _, tag := range []string{"<b", "</b", "<b ", "<b/", "<b c", "<b c ", "<b c=", "<b c= ", "<b c=d", "<b c=d ", `<b c="d"`, "<b c<i", "<a href=x", "</a href=x", "<b =", "<b =="} {
		wantTokens(t, tag)
		wantTokens(t, "a<i>"+tag, shown("a"), opened("i"))
	}
	wantTokens(t, "<b <i>c<u", opened("b"), shown("c"))
}

func TestLongPages(t *testing.T) {
	n := api.MaxText
	wantTokens(t, strings.Repeat("a", n), shown(strings.Repeat("a", n)))
	wantTokens(t, strings.Repeat("\x00", n), shown(strings.Repeat("\x00", n)))
	wantTokens(t, strings.Repeat("<", n), slices.Repeat([]api.Token{shown("<")}, n)...)
	wantTokens(t, strings.Repeat("<b>&", n/4), slices.Repeat([]api.Token{opened("b"), shown("&")}, n/4)...)
	wantTokens(t, "<"+strings.Repeat("B", n-2)+">", opened(strings.Repeat("b", n-2)))
	wantHref(t, "<a href="+strings.Repeat("x", n-9)+">", strings.Repeat("x", n-9))
	wantHref(t, "<a "+strings.Repeat("b=c ", (n-12)/4)+" href=x>", "x")
	wantTokens(t, "<!--"+strings.Repeat("<!--", n/4-1), other())
	wantTokens(t, "<a"+strings.Repeat(" =", n/2-1))
}

func TestPagesThatAreTooLong(t *testing.T) {
	for _, s := range []string{"a", "<", "<b>", "<!--", "<b ", "&amp;"} {
		for _, n := range []int{api.MaxText + 1, 2 * api.MaxText, 7 * api.MaxText} {
			if l, e := Page([]byte(strings.Repeat(s, n)[:n])); l != nil || e != api.ErrMany {
				t.Fatalf("of %d bytes %q: %d tokens, %d, want none, ErrMany", n, s, len(l), e)
			}
		}
	}
}

// everyText hands on all texts of at most n of the pieces, one behind the other.
func everyText(pieces []string, n int, use func(string)) {
	use("")
	level := []string{""}
	for range n {
		var next []string
		for _, s := range level {
			for _, p := range pieces {
				use(s + p)
				next = append(next, s+p)
			}
		}
		level = next
	}
}

// The chapter's sentences, each as a pattern of what stands next.
var (
	textNext    = regexp.MustCompile(`^[^<]+`)
	commentNext = regexp.MustCompile(`(?s)^<!--.*?(?:-->|\z)`)
	otherNext   = regexp.MustCompile(`(?s)^<[!?].*?(?:>|\z)`)
	tagNext     = regexp.MustCompile(`^<(/?)([a-zA-Z][^ \t\n\r\f/>]*)`)
	betweenNext = regexp.MustCompile(`^[ \t\n\r\f/]*`)
	namedNext   = regexp.MustCompile(`(?s)^(.[^ \t\n\r\f/>=]*)(?:[ \t\n\r\f]*=[ \t\n\r\f]*("[^"]*(?:"|\z)|'[^']*(?:'|\z)|[^ \t\n\r\f>]*))?`)
	unwritten   = strings.NewReplacer("&lt;", "<", "&gt;", ">", "&quot;", `"`, "&amp;", "&")
)

// byPatterns takes a page apart by another way than the program's.
func byPatterns(s string) []api.Token {
	var l []api.Token
	for s != "" {
		if m := textNext.FindString(s); m != "" {
			l, s = append(l, shown(unwritten.Replace(m))), s[len(m):]
		} else if m := commentNext.FindString(s); m != "" {
			l, s = append(l, other()), s[len(m):]
		} else if m := otherNext.FindString(s); m != "" {
			l, s = append(l, other()), s[len(m):]
		} else if m := tagNext.FindStringSubmatch(s); m != nil {
			href, n := attributesByPatterns(s[len(m[0]):])
			if n < 0 {
				return l
			}
			tag := api.Token{Kind: api.Open, Name: strings.ToLower(m[2]), Href: href}
			if m[1] != "" {
				tag = closed(tag.Name)
			}
			l, s = append(l, tag), s[len(m[0])+n:]
		} else {
			l, s = append(l, shown("<")), s[1:]
		}
	}
	return l
}

// attributesByPatterns answers what the first href of those that s begins with says, and how long they are with the `>` behind them (-1: there is none).
func attributesByPatterns(s string) (string, int) {
	var values []string
	for at := 0; ; {
		at += len(betweenNext.FindString(s[at:]))
		if at == len(s) {
			return "", -1
		}
		if s[at] == '>' {
			return unwritten.Replace(append(values, "")[0]), at + 1
		}
		m := namedNext.FindStringSubmatch(s[at:])
		at += len(m[0])
		if strings.EqualFold(m[1], "href") {
			value := m[2]
			if strings.HasPrefix(value, `"`) || strings.HasPrefix(value, "'") {
				value = strings.Trim(value, value[:1])
			}
			values = append(values, value)
		}
	}
}

func TestEveryShortPage(t *testing.T) {
	everyText([]string{"<", ">", "/", "!", "?", "-", "--", "a", "B", " ", "&lt;"}, 5, func(s string) {
		wantTokens(t, s, byPatterns(s)...)
	})
}

func TestEveryShortTag(t *testing.T) {
	everyText([]string{"href", "HREF", "x", "=", `"`, "'", " ", "\n", "/", ">", "<", "&amp;"}, 4, func(s string) {
		for _, page := range []string{"<a " + s, "<a href" + s + ">", "<A\t" + s + ">b", "</a " + s + ">", "<a href=" + s + `">'>`, "<a href=y " + s + ">"} {
			wantTokens(t, page, byPatterns(page)...)
		}
	})
}

// everyDoc hands on all documents of at most n of the items and the end of a block of each kind behind them.
func everyDoc(items []api.Item, n int, use func(api.Doc)) {
	level := []api.Doc{nil}
	for range n + 1 {
		var next []api.Doc
		for _, d := range level {
			for kind := range 4 {
				use(append(slices.Clone(d), api.Item{C: 10, Marks: kind}))
			}
			for _, x := range items {
				next = append(next, append(slices.Clone(d), x))
			}
		}
		level = next
	}
}

// tagsOf answers the tags that a document is written with, from the document alone.
func tagsOf(d api.Doc) []api.Token {
	var tags []api.Token
	begin := 0
	for i, x := range d {
		if x.C != 10 {
			continue
		}
		name := [4]string{"p", "h1", "li", "h2"}[x.Marks]
		if x.Marks == 2 && (begin == 0 || d[begin-1].Marks != 2) {
			tags = append(tags, opened("ul"))
		}
		tags = append(tags, opened(name))
		tags = append(tags, tagsInside(d[begin:i])...)
		tags = append(tags, closed(name))
		begin = i + 1
		next := slices.IndexFunc(d[begin:], func(y api.Item) bool { return y.C == 10 })
		if x.Marks == 2 && (next < 0 || d[begin+next].Marks != 2) {
			tags = append(tags, closed("ul"))
		}
	}
	return tags
}

func tagsInside(l []api.Item) []api.Token {
	var tags, ends []api.Token
	for i, x := range l {
		if i > 0 && l[i-1].Marks == x.Marks && l[i-1].Link == x.Link {
			continue
		}
		tags = append(tags, ends...)
		ends = nil
		if x.Link != "" {
			tags, ends = append(tags, leading(x.Link)), append(ends, closed("a"))
		}
		if x.Marks&api.Bold != 0 {
			tags, ends = append(tags, opened("b")), append(ends, closed("b"))
		}
		if x.Marks&api.Slant != 0 {
			tags, ends = append(tags, opened("i")), append(ends, closed("i"))
		}
		slices.Reverse(ends)
	}
	return append(tags, ends...)
}

// wantOwn: of what is written of d the tags are its own, and its texts the characters.
func wantOwn(t *testing.T, d api.Doc) {
	t.Helper()
	page, e := export.Page(d)
	if e != api.OK {
		t.Fatalf("%#v is not written: %d", d, e)
	}
	l, e := Page([]byte(page))
	if e != api.OK {
		t.Fatalf("Page(%q): %d", page, e)
	}
	characters, texts := "", ""
	for _, x := range d {
		if x.C != 10 {
			characters += string(rune(x.C))
		}
	}
	var tags []api.Token
	for _, x := range l {
		if x.Kind == api.Text {
			texts += x.Text
		} else {
			tags = append(tags, x)
		}
	}
	if want := tagsOf(d); texts != characters || !slices.Equal(tags, want) {
		t.Fatalf("of %q: %q and %#v, want %q and %#v", page, texts, tags, characters, want)
	}
}

func TestWhatIsWrittenOfDocuments(t *testing.T) {
	link := "http:?a&b&lt;"
	everyDoc([]api.Item{
		{C: 'a'}, {C: '<'}, {C: '&', Marks: 1}, {C: '"', Marks: 2, Link: link}, {C: '>', Marks: 3}, {C: '/', Marks: 3, Link: link},
		{C: 10}, {C: 10, Marks: 1}, {C: 10, Marks: 2},
	}, 4, func(d api.Doc) { wantOwn(t, d) })
}

// What looks like tags or their values in a document is nothing of the kind on its page.
func TestWhatIsWrittenOfTelltaleCharacters(t *testing.T) {
	for _, s := range []string{"<b>", "</p>", "<!--", "-->", "<!a>", "<?", "a<", "&lt;b&gt;", "&amp;lt;", `<a href="x">`, "'\"=/", "<script>x</script>"} {
		for marks := range 4 {
			for _, link := range []string{"", "http:x", "mailto:a&b=c/?&gt;", "https:////&quot;"} {
				var d api.Doc
				for _, c := range []byte(s) {
					d = append(d, api.Item{C: c, Marks: marks, Link: link})
				}
				wantOwn(t, append(d, api.Item{C: 10, Marks: marks}))
			}
		}
	}
	for c := byte(32); c <= 126; c++ {
		wantOwn(t, api.Doc{{C: c}, {C: c, Marks: 3, Link: "http:&"}, {C: 10}})
	}
}

func TestWhatIsWrittenOfTheGreatestDocuments(t *testing.T) {
	var d api.Doc
	for i := range api.MaxItems - 1 {
		d = append(d, api.Item{C: '"', Marks: 3, Link: "http:" + strings.Repeat("&", api.MaxLink-6-i%2) + "x"})
	}
	wantOwn(t, append(d, api.Item{C: 10, Marks: 2}))
	wantOwn(t, slices.Repeat(api.Doc{{C: 10, Marks: 2}, {C: 10, Marks: 1}}, api.MaxItems/2))
}

func TestNothingHandedInIsChangedOrKept(t *testing.T) {
	room := []byte("a&lt;<A HREF='x&amp;'>B</A><!--c--><!d><B e=\"f'>\"><i>")
	kept := slices.Clone(room)
	for n := range len(room) + 1 {
		l, _ := Page(room[:n])
		if !slices.Equal(room, kept) {
			t.Fatalf("of %d bytes something is changed: %q", n, room)
		}
		want, _ := Page(slices.Clone(room[:n]))
		for i := range room {
			room[i] = '#'
		}
		if !slices.Equal(l, want) {
			t.Fatalf("of %d bytes something is kept: %#v", n, l)
		}
		copy(room, kept)
	}
}
