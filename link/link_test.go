package link

import (
	"strings"
	"testing"

	"manyhands/api"
)

func wantScheme(t *testing.T, s, want string) {
	t.Helper()
	if got := Scheme(s); got != want {
		t.Errorf("Scheme(%q) = %q, want %q", s, got, want)
	}
}

func wantMay(t *testing.T, s string, want bool) {
	t.Helper()
	if got := May(s); got != want {
		t.Errorf("May(%q) = %v, want %v", s, got, want)
	}
}

func wantClean(t *testing.T, s, want string) {
	t.Helper()
	if got, e := Clean(s); got != want || e != api.OK {
		t.Errorf("Clean(%q) = %q, %d, want %q, OK", s, got, e, want)
	}
}

// everyText hands on all texts of at most n of the pieces, one behind the other.
func everyText(pieces []string, n int, use func(string)) {
	var grow func(s string, n int)
	grow = func(s string, n int) {
		use(s)
		if n == 0 {
			return
		}
		for _, p := range pieces {
			grow(s+p, n-1)
		}
	}
	grow("", n)
}

// fill answers s with x behind it up to n bytes.
func fill(s string, n int) string {
	return s + strings.Repeat("x", n-len(s))
}

// stands is what the chapter says of one byte of an address.
func stands(c byte) bool {
	switch c {
	case 34, 39, 60, 62, 92, 96:
		return false
	}
	return c >= 33 && c <= 126
}

func TestSchemeOfAddresses(t *testing.T) {
	for _, c := range []struct{ in, want string }{
		{"http://x", "http"},
		{"https://x/y?z#w", "https"},
		{"mailto:a@b", "mailto"},
		{"javascript:x", "javascript"},
		{"data:x", "data"},
		{"a:", "a"},
		{"a:b:c", "a"},
		{"a::", "a"},
		{"a:/b", "a"},
		{"a:?", "a"},
		{"a:#", "a"},
		{"HtTpS:X", "https"},
		{"ABCDEFGHIJKLMNOPQRSTUVWXYZ:", "abcdefghijklmnopqrstuvwxyz"},
	} {
		wantScheme(t, c.in, c.want)
	}
}

func TestSchemeOfNone(t *testing.T) {
	for _, s := range []string{
		"", "x", "http", "http//x", ":", ":x", "::", ":http:", "/", "/:", "?:", "#:",
		"/a:b", "a/b:c", "a?b:c", "a#b:c", "a/:", "a?:", "a#:", "http/:x", "//http:x",
	} {
		wantScheme(t, s, "")
	}
}

func TestSchemeOfEachByte(t *testing.T) {
	for i := 0; i < 256; i++ {
		c := byte(i)
		want := string([]byte{'x', c, 'y'})
		switch {
		case c == ':':
			want = "x"
		case c == '/' || c == '?' || c == '#':
			want = ""
		case c >= 65 && c <= 90:
			want = string([]byte{'x', c + 32, 'y'})
		}
		wantScheme(t, string([]byte{'x', c, 'y', ':'}), want)
	}
}

func TestSchemeKeepsLettersBeyondZ(t *testing.T) {
	for _, s := range []string{"Ä", "\u212a", "Σ", "\xff\xc3", "\xc3\x28"} {
		wantScheme(t, s+":", s)
	}
}

func TestSchemeKeepsBlanks(t *testing.T) {
	for _, s := range []string{" ", " http", "http ", "ht\ttp", "\nhttp"} {
		wantScheme(t, s+":x", s)
	}
}

func TestSchemeOfEveryShortText(t *testing.T) {
	pieces := []string{":", "/", "?", "#", "a", "B", "\xff"}
	everyText(pieces, 5, func(s string) {
		want, ended := "", false
		for i := 0; i < len(s) && !ended; i++ {
			switch s[i] {
			case ':':
				ended = true
			case '/', '?', '#':
				wantScheme(t, s, "")
				return
			case 'B':
				want += "b"
			default:
				want += s[i : i+1]
			}
		}
		if !ended {
			want = ""
		}
		wantScheme(t, s, want)
	})
}

func TestSchemeOfLongTexts(t *testing.T) {
	long := strings.Repeat("A", 10*api.MaxText)
	wantScheme(t, long, "")
	if got := Scheme(long + ":"); got != strings.ToLower(long) {
		t.Errorf("the scheme of a long text has %d bytes", len(got))
	}
	wantScheme(t, "a:"+long, "a")
}

func TestMayOfAddresses(t *testing.T) {
	for _, s := range []string{
		"http://x", "http:", "https:", "mailto:", "HTTP:x", "HTTPS:", "MailTo:a@b",
		"http:javascript:x", "https://a/b?c#d", "http:!", "http:~", "http:&amp;", "http::",
	} {
		wantMay(t, s, true)
	}
}

func TestMayNotOfOtherSchemes(t *testing.T) {
	for _, s := range []string{
		"", "x", "http", "https", "mailto", ":", ":http:", "http/:", "/http:", "?http:", "#http:",
		"javascript:x", "JavaScript:x", "data:x", "ftp://x", "file:x", "vbscript:x",
		"htt:x", "httpss:x", "xhttp:x", "httpsmailto:x", "mailt:x", "hhttp:",
		"//x", "/x", "x.y", "#x", "a:http:", "javascript:http:",
	} {
		wantMay(t, s, false)
	}
}

func TestMayOfEachByte(t *testing.T) {
	for i := 0; i < 256; i++ {
		c := byte(i)
		wantMay(t, "http:"+string([]byte{c}), stands(c))
		wantMay(t, "http:x"+string([]byte{c})+"y", stands(c))
		wantMay(t, string([]byte{c})+"http:", false)
	}
}

func TestMayOfEachLength(t *testing.T) {
	for _, scheme := range []string{"http:", "https:", "mailto:"} {
		for n := len(scheme); n <= 3*api.MaxLink; n++ {
			wantMay(t, fill(scheme, n), n <= api.MaxLink)
		}
		for n := 0; n < len(scheme); n++ {
			wantMay(t, scheme[:n], false)
		}
	}
	if May(fill("http:", 10*api.MaxText)) {
		t.Error("one may be led to a very long address")
	}
}

func TestMayGoesByBytesNotCharacters(t *testing.T) {
	wantMay(t, "http:ä", false)
	wantMay(t, "http:\u00a0", false)
	wantMay(t, "http:\u212a", false)
	wantMay(t, "\u212a:x", false)
}

func TestCleanOfAddresses(t *testing.T) {
	for _, c := range []struct{ in, want string }{
		{"http://x", "http://x"},
		{"HTTP://X", "HTTP://X"},
		{" http://x", "http://x"},
		{"mailto:a@b\n", "mailto:a@b"},
		{" \t\n\r\fhttps:x\f\r\n\t ", "https:x"},
		{"\r\n\r\n  https:x  \r\n\r\n", "https:x"},
	} {
		wantClean(t, c.in, c.want)
	}
}

func TestCleanOfWhatMayNot(t *testing.T) {
	for _, s := range []string{
		"", " ", "\t\n\r\f ", "x", "data:x", " javascript:x ", "http:a b", "ht\ntp:x", "http:\tx",
		"java\nscript:x", "http:\"", "http:'", "http:<", "http:>", "http:\\", "http:`", "http :x", ": http:",
	} {
		wantClean(t, s, "")
	}
}

func TestCleanOfEachByteAround(t *testing.T) {
	for i := 0; i < 256; i++ {
		c := string([]byte{byte(i)})
		blank := strings.Contains(" \t\n\r\f", c)
		ahead, amid, behind := "", "", ""
		switch {
		case blank:
			ahead, behind = "http:x", "http:x"
		case stands(byte(i)):
			amid, behind = "http:"+c+"x", "http:x"+c
		}
		wantClean(t, c+"http:x", ahead)
		wantClean(t, "http:"+c+"x", amid)
		wantClean(t, "http:x"+c, behind)
	}
}

func TestCleanCountsTheAddressWithoutBlanks(t *testing.T) {
	longest := fill("http:", api.MaxLink)
	wantClean(t, " "+longest+" ", longest)
	wantClean(t, " "+longest+"x ", "")
}

func TestCleanOfCleanIsTheSame(t *testing.T) {
	pieces := []string{"http:", "mailto:", "data:", " ", "\t", "x", "'", "/", "\xff"}
	everyText(pieces, 4, func(s string) {
		got, e := Clean(s)
		if e != api.OK {
			t.Fatalf("Clean(%q): error %d", s, e)
		}
		if got != "" && !May(got) {
			t.Fatalf("Clean(%q) = %q, which may not be", s, got)
		}
		if May(s) && got != s {
			t.Fatalf("Clean(%q) = %q, though it may be", s, got)
		}
		wantClean(t, got, got)
	})
}

func TestCleanOfLongestTexts(t *testing.T) {
	address := "http://x"
	blanks := strings.Repeat(" ", api.MaxText-len(address))
	wantClean(t, blanks+address, address)
	wantClean(t, address+blanks, address)
	wantClean(t, blanks+strings.Repeat("\n", len(address)), "")
	wantClean(t, fill("http:", api.MaxText), "")
}

func TestCleanOfTooLongTexts(t *testing.T) {
	for _, n := range []int{api.MaxText + 1, api.MaxText + 2, 5 * api.MaxText} {
		for _, s := range []string{
			fill("http:", n),
			"http:x" + strings.Repeat(" ", n-6),
			strings.Repeat("\n", n-6) + "http:x",
			strings.Repeat("\x00", n),
		} {
			if got, e := Clean(s); got != "" || e != api.ErrMany {
				t.Errorf("Clean of %d bytes: %q, error %d", n, got, e)
			}
		}
	}
}
