package vehicle

import (
	"strings"

	"ullage/api"
)

// maxDigits is how many digits a number of the language may have.
const maxDigits = 18

// kind is what a token is.
type kind int

const (
	end kind = iota
	word
	number
	sign
)

// token is a token, and where it begins; the end of a text has no bytes.
type token struct {
	kind kind
	text string
	at   int
}

// signs are the signs; one that begins like a shorter one stands ahead of it.
var signs = [...]string{"+-", "..", "{", "}", ";", ":", "=", "+", "-", "*", "/", "(", ")"}

// fault is what ends a reading.
type fault struct {
	at int
	e  api.Errno
}

// reader goes through the tokens of a text. It looks at one only when it is asked to: what is wrong ahead of a token comes first.
type reader struct {
	text   string
	at     int
	next   token
	looked bool
}

// look returns the next token, and leaves it there.
func (r *reader) look() token {
	if !r.looked {
		r.next = r.scan()
		r.looked = true
	}
	return r.next
}

// take returns the next token, and goes on.
func (r *reader) take() token {
	t := r.look()
	r.looked = false
	return t
}

// expect takes a token that has to be the one with this text.
func (r *reader) expect(text string) {
	if t := r.take(); t.text != text {
		panic(fault{t.at, api.ErrForm})
	}
}

// scan goes behind the next token of the text.
func (r *reader) scan() token {
	rest := strings.TrimLeft(r.text[r.at:], " \n")
	t := token{at: len(r.text) - len(rest)}
	switch {
	case rest == "":
		return t
	case isLetter(rest[0]):
		t.kind, t.text = word, scanWord(rest)
	case isDigit(rest[0]):
		t.kind, t.text = number, scanNumber(rest)
	default:
		t.kind, t.text = sign, scanSign(rest)
	}
	switch {
	case t.kind == sign && t.text == "", t.kind == word && len(t.text) > api.MaxName:
		panic(fault{t.at, api.ErrForm})
	case t.kind == number && len(t.text)-strings.Count(t.text, ".") > maxDigits:
		panic(fault{t.at, api.ErrRange})
	}
	r.at = t.at + len(t.text)
	return t
}

// scanWord returns the word with which a text begins, whose first byte is a letter.
func scanWord(s string) string {
	return strings.TrimRight(leading(s, isWordByte), "-")
}

// scanNumber returns the number with which a text begins, whose first byte is a digit.
func scanNumber(s string) string {
	whole := leading(s, isDigit)
	behind, point := strings.CutPrefix(s[len(whole):], ".")
	tail := leading(behind, isDigit)
	if !point || tail == "" {
		return whole
	}
	return s[:len(whole)+1+len(tail)]
}

// scanSign returns the longest sign with which a text begins, if there is one.
func scanSign(s string) string {
	for _, x := range signs {
		if strings.HasPrefix(s, x) {
			return x
		}
	}
	return ""
}

// leading returns the longest beginning of a text that has only such bytes.
func leading(s string, is func(c byte) bool) string {
	n := 0
	for n < len(s) && is(s[n]) {
		n++
	}
	return s[:n]
}

func isLetter(c byte) bool {
	return 'a' <= c && c <= 'z' || 'A' <= c && c <= 'Z'
}

func isDigit(c byte) bool {
	return '0' <= c && c <= '9'
}

func isWordByte(c byte) bool {
	return isLetter(c) || isDigit(c) || c == '-'
}

// reserved reports whether a word is no name.
func reserved(s string) bool {
	switch s {
	case "vehicle", "let", "stage", "engine", "in", "drag", "limits", "payload":
		return true
	case "dry", "prop", "count", "thrust", "flow", "least", "start", "stop", "axial", "bending":
		return true
	}
	_, is := unitOf(s)
	return is
}

// isName reports whether a text is a name.
func isName(s string) bool {
	return s != "" && len(s) <= api.MaxName && isLetter(s[0]) && scanWord(s) == s && !reserved(s)
}
