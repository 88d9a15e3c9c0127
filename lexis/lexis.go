// Package lexis is layer 1: it divides the texts of intents into tokens, and writes tokens (see shared/doc/01-lexis.md).
package lexis

import (
	"iter"
	"strings"

	"majordomo/api"
)

// maxDigits is how many digits a number may have; package api has no constant for it.
const maxDigits = 9

// Tokens returns the tokens of a text with their offsets, or the first error with its offset.
func Tokens(s string) ([]api.Token, int, api.Errno) {
	if len(s) > api.MaxText {
		return nil, api.MaxText, api.ErrLimit
	}
	var l []api.Token
	for t, e := range tokens(s) {
		if e != api.OK {
			return nil, t.At, e
		}
		l = append(l, t)
	}
	return l, 0, api.OK
}

// Print returns the texts of tokens with a space between each two.
func Print(l []api.Token) (string, api.Errno) {
	var texts []string
	for _, t := range l {
		if !valid(t) {
			return "", api.ErrArg
		}
		texts = append(texts, t.Text)
	}
	s := strings.Join(texts, " ")
	if len(s) > api.MaxText {
		return "", api.ErrLimit
	}
	return s, api.OK
}

// tokens yields the tokens of s, each with OK; at the first error it yields that error with a token that has only its offset, and ends.
func tokens(s string) iter.Seq2[api.Token, api.Errno] {
	return func(yield func(api.Token, api.Errno) bool) {
		for at := skip(s, 0); at < len(s); {
			t, e := read(s[at:])
			t.At = at
			if !yield(t, e) || e != api.OK {
				return
			}
			at = skip(s, at+len(t.Text))
		}
	}
}

// valid reports whether a token has a Text and a Number as its Kind demands: the token that is read from its Text is the token itself.
func valid(t api.Token) bool {
	got, e := read(t.Text)
	t.At = 0
	return e == api.OK && got == t
}

// skip returns the offset of the first byte of s, from the offset at on, that belongs to no blank and no remark.
func skip(s string, at int) int {
	for at < len(s) {
		switch {
		case isBlank(s[at]):
			at++
		case s[at] == '#':
			at += len(front(s[at:], inRemark))
		default:
			return at
		}
	}
	return at
}

// read returns the longest token at the front of s, with the offset 0.
func read(s string) (api.Token, api.Errno) {
	switch {
	case s == "":
		return api.Token{}, api.ErrSyntax
	case isLetter(s[0]):
		return name(front(s, inName))
	case isDigit(s[0]):
		return number(front(s, isDigit))
	case isSign(s[0]):
		return api.Token{Kind: api.TokenSign, Text: s[:1]}, api.OK
	}
	return api.Token{}, api.ErrSyntax
}

func name(text string) (api.Token, api.Errno) {
	if len(text) > api.MaxName {
		return api.Token{}, api.ErrLimit
	}
	return api.Token{Kind: api.TokenName, Text: text}, api.OK
}

func number(text string) (api.Token, api.Errno) {
	if len(text) > 1 && text[0] == '0' {
		return api.Token{}, api.ErrSyntax
	}
	if len(text) > maxDigits {
		return api.Token{}, api.ErrLimit
	}
	n := 0
	for _, c := range []byte(text) {
		n = 10*n + int(c-'0')
	}
	return api.Token{Kind: api.TokenNumber, Text: text, Number: n}, api.OK
}

// front returns the longest part at the front of s whose bytes are all in a class.
func front(s string, in func(c byte) bool) string {
	n := 0
	for n < len(s) && in(s[n]) {
		n++
	}
	return s[:n]
}

func isBlank(c byte) bool { return c == ' ' || c == '\t' || c == '\r' || c == '\n' }

func isLetter(c byte) bool { return 'a' <= c && c <= 'z' }

func isDigit(c byte) bool { return '0' <= c && c <= '9' }

func isSign(c byte) bool { return c == '{' || c == '}' || c == ';' || c == ',' }

func inName(c byte) bool { return isLetter(c) || isDigit(c) || c == '-' }

func inRemark(c byte) bool { return c != '\n' }
