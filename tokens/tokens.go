// Package tokens reads a text rune by rune, as tokens.
package tokens

import (
	"iter"
	"strings"
	"unicode/utf8"
)

// Kind is the kind of a token.
type Kind int

const (
	Wrong    Kind = iota // can stand nowhere
	Name                 // a word with a small first letter
	Variable             // a word with a capital first letter
	Open
	Close
	Comma
	Dot
	If // stands between a head and its body
)

const ifSign = ":-"

// Token is a piece of a text; Place and Runes count runes, not bytes.
type Token struct {
	Kind  Kind
	Text  string
	Place int
	Runes int
}

// All goes through the tokens of a text, from its first to its last.
func All(text string) iter.Seq[Token] {
	return func(yield func(Token) bool) {
		rest, place := text, 0
		for rest != "" {
			if r, size := utf8.DecodeRuneInString(rest); isBlank(r) {
				rest, place = rest[size:], place+1
				continue
			}
			token := first(rest)
			token.Place = place
			if !yield(token) {
				return
			}
			rest, place = rest[len(token.Text):], place+token.Runes
		}
	}
}

// first reads the token that a text, not empty, begins with.
func first(text string) Token {
	r, size := utf8.DecodeRuneInString(text)
	switch {
	case isCapital(r):
		return word(Variable, text)
	case isSmall(r):
		return word(Name, text)
	case strings.HasPrefix(text, ifSign):
		return Token{Kind: If, Text: ifSign, Runes: len(ifSign)}
	}
	return Token{Kind: signKind(r), Text: text[:size], Runes: 1}
}

// word reads the letters and digits that a text begins with.
func word(kind Kind, text string) Token {
	runes := 0
	for at, r := range text {
		if !isCapital(r) && !isSmall(r) && !isDigit(r) {
			return Token{Kind: kind, Text: text[:at], Runes: runes}
		}
		runes++
	}
	return Token{Kind: kind, Text: text, Runes: runes}
}

func signKind(r rune) Kind {
	switch r {
	case '(':
		return Open
	case ')':
		return Close
	case ',':
		return Comma
	case '.':
		return Dot
	}
	return Wrong
}

func isBlank(r rune) bool {
	return r == ' ' || r == '\t' || r == '\n'
}

func isSmall(r rune) bool {
	return 'a' <= r && r <= 'z' || '\u03b1' <= r && r <= '\u03c9'
}

func isCapital(r rune) bool {
	// U+03A2 is left out, for no letter has that number.
	return 'A' <= r && r <= 'Z' || '\u0391' <= r && r <= '\u03a9' && r != '\u03a2'
}

func isDigit(r rune) bool {
	return '0' <= r && r <= '9'
}
