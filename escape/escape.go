// Package escape: see doc/01-escape.md.
package escape

import (
	"strings"

	"manyhands/api"
)

// The longest way of writing has six bytes, so Read takes whatever Write may answer.
const maxWritten = 6 * api.MaxText

type pair struct {
	char    byte
	written string
}

// No way of writing is the begin of another one, so their order doesn't matter.
var pairs = [4]pair{
	{'&', "&amp;"},
	{'<', "&lt;"},
	{'>', "&gt;"},
	{'"', "&quot;"},
}

// Write answers s with the characters that mean something in a page written out.
func Write(s string) (string, api.Errno) {
	if len(s) > api.MaxText {
		return "", api.ErrMany
	}
	out := make([]byte, 0, len(s))
	for i := 0; i < len(s); i++ {
		out = appendWritten(out, s[i])
	}
	return string(out), api.OK
}

// Read answers s with what Write writes out as the characters again.
func Read(s string) (string, api.Errno) {
	if len(s) > maxWritten {
		return "", api.ErrMany
	}
	out := make([]byte, 0, len(s))
	for i := 0; i < len(s); {
		c, n := firstRead(s[i:])
		out = append(out, c)
		i += n
	}
	return string(out), api.OK
}

func appendWritten(out []byte, c byte) []byte {
	for _, p := range pairs {
		if p.char == c {
			return append(out, p.written...)
		}
	}
	return append(out, c)
}

// firstRead answers the character that s, which isn't empty, begins with, and how many bytes it takes there.
func firstRead(s string) (byte, int) {
	for _, p := range pairs {
		if strings.HasPrefix(s, p.written) {
			return p.char, len(p.written)
		}
	}
	return s[0], 1
}
