package escape

import (
	"strings"
	"testing"

	"manyhands/api"
)

// The four characters, spelt here once more, so that a slip in the program's own table shows.
var four = []struct{ char, written string }{
	{"&", "&amp;"},
	{"<", "&lt;"},
	{">", "&gt;"},
	{`"`, "&quot;"},
}

func mustWrite(t *testing.T, s string) string {
	t.Helper()
	out, e := Write(s)
	if e != api.OK {
		t.Fatalf("Write of %d bytes: error %d", len(s), e)
	}
	return out
}

func mustRead(t *testing.T, s string) string {
	t.Helper()
	out, e := Read(s)
	if e != api.OK {
		t.Fatalf("Read of %d bytes: error %d", len(s), e)
	}
	return out
}

// everyText hands on all texts of at most n of the pieces, one behind the other.
func everyText(pieces []string, n int, use func(string)) {
	var grow func(s string, n int)
	grow = func(s string, n int) {
		use(s)
		if n == 0 {
			return
		}
		for _, p := range pieces {
			grow(s+p, n-1)
		}
	}
	grow("", n)
}

func TestWriteOfTexts(t *testing.T) {
	for _, c := range []struct{ in, want string }{
		{"", ""},
		{"plain text", "plain text"},
		{"a < b & c > d", "a &lt; b &amp; c &gt; d"},
		{`<a href="x">`, "&lt;a href=&quot;x&quot;&gt;"},
		{"it's", "it's"},
		{"&amp;", "&amp;amp;"},
		{"&&", "&amp;&amp;"},
		{"\x00\t\r\n\x7f\xff\xc3", "\x00\t\r\n\x7f\xff\xc3"},
		{"äöü€", "äöü€"},
	} {
		if got := mustWrite(t, c.in); got != c.want {
			t.Errorf("Write(%q) = %q, want %q", c.in, got, c.want)
		}
	}
}

func TestWriteOfEachByte(t *testing.T) {
	for i := 0; i < 256; i++ {
		in := string([]byte{byte(i)})
		want := in
		for _, f := range four {
			if in == f.char {
				want = f.written
			}
		}
		if got := mustWrite(t, in); got != want {
			t.Errorf("Write(%q) = %q, want %q", in, got, want)
		}
	}
}

func TestReadOfTexts(t *testing.T) {
	for _, c := range []struct{ in, want string }{
		{"", ""},
		{"plain text", "plain text"},
		{"&amp;&lt;&gt;&quot;", `&<>"`},
		{"a &lt; b", "a < b"},
		{`<b>"&"</b>`, `<b>"&"</b>`},
		{"äöü€\x00\xff", "äöü€\x00\xff"},
	} {
		if got := mustRead(t, c.in); got != c.want {
			t.Errorf("Read(%q) = %q, want %q", c.in, got, c.want)
		}
	}
}

func TestReadDoesNotReadAgain(t *testing.T) {
	for _, c := range []struct{ in, want string }{
		{"&amp;lt;", "&lt;"},
		{"&amp;amp;", "&amp;"},
		{"&amp;amp;lt;", "&amp;lt;"},
		{"&amp;quot;&quot;", `&quot;"`},
		{"&am&amp;p;", "&am&p;"},
		{"&&lt;;", "&<;"},
	} {
		if got := mustRead(t, c.in); got != c.want {
			t.Errorf("Read(%q) = %q, want %q", c.in, got, c.want)
		}
	}
}

func TestReadLeavesAllElse(t *testing.T) {
	for _, s := range []string{
		"&", "&;", "&x;", "&amp", "&lt", "&gt", "&quot", "&am", "&quo", "amp;", "lt;",
		"&AMP;", "&Lt;", "&GT;", "&QUOT;", "& lt;", "&lt ;", "&l&t;",
		"&apos;", "&nbsp;", "&#38;", "&#60;", "&#x3c;", "&amp\x00;",
	} {
		if got := mustRead(t, s); got != s {
			t.Errorf("Read(%q) = %q, want it as it was", s, got)
		}
	}
}

func TestReadGoesFromLeftToRight(t *testing.T) {
	want := strings.NewReplacer("&amp;", "&", "&lt;", "<", "&gt;", ">", "&quot;", `"`)
	pieces := []string{"&", "a", "amp", "lt", "gt;", "quot", ";", "<", "&amp;"}
	everyText(pieces, 5, func(s string) {
		if got := mustRead(t, s); got != want.Replace(s) {
			t.Fatalf("Read(%q) = %q, want %q", s, got, want.Replace(s))
		}
	})
}

func TestReadOfWriteIsTheText(t *testing.T) {
	pieces := []string{"&", "<", ">", `"`, "'", "amp;", "lt;", "\xff"}
	everyText(pieces, 5, func(s string) {
		w := mustWrite(t, s)
		if got := mustRead(t, w); got != s {
			t.Fatalf("Read of Write of %q is %q", s, got)
		}
		if strings.ContainsAny(w, `<>"`) {
			t.Fatalf("Write(%q) = %q", s, w)
		}
	})
}

func TestLongestTexts(t *testing.T) {
	for _, f := range four {
		s := strings.Repeat(f.char, api.MaxText)
		w := mustWrite(t, s)
		if w != strings.Repeat(f.written, api.MaxText) {
			t.Errorf("Write of the most %q isn't each of them written", f.char)
		}
		if mustRead(t, w) != s {
			t.Errorf("Read of Write of the most %q isn't the text", f.char)
		}
	}
	s := strings.Repeat("x", 6*api.MaxText)
	if mustRead(t, s) != s {
		t.Error("Read of the longest plain text isn't the text")
	}
}

func TestTooLongTexts(t *testing.T) {
	for _, more := range []int{1, 2, api.MaxText, 7 * api.MaxText} {
		for _, piece := range []string{"x", "&", "\x00"} {
			s := strings.Repeat(piece, api.MaxText+more)
			if out, e := Write(s); out != "" || e != api.ErrMany {
				t.Errorf("Write of %d bytes: %d bytes, error %d", len(s), len(out), e)
			}
			s = strings.Repeat(piece, 6*api.MaxText+more)
			if out, e := Read(s); out != "" || e != api.ErrMany {
				t.Errorf("Read of %d bytes: %d bytes, error %d", len(s), len(out), e)
			}
		}
	}
}

func TestTooLongToReadThoughShortWhenRead(t *testing.T) {
	s := strings.Repeat("&quot;", api.MaxText) + "x"
	if out, e := Read(s); out != "" || e != api.ErrMany {
		t.Errorf("Read of %d bytes: %d bytes, error %d", len(s), len(out), e)
	}
}
