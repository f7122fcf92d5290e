package tokens

import (
	"slices"
	"strings"
	"testing"
	"unicode/utf8"
)

func TestAllTellsKindsAndPlaces(t *testing.T) {
	for _, c := range []struct {
		text string
		want []Token
	}{
		{"", nil},
		{" \t\n", nil},
		{"p(X1,b).", []Token{{Name, "p", 0, 1}, {Open, "(", 1, 1}, {Variable, "X1", 2, 2}, {Comma, ",", 4, 1}, {Name, "b", 5, 1}, {Close, ")", 6, 1}, {Dot, ".", 7, 1}}},
		{"αβ :- Ω9", []Token{{Name, "αβ", 0, 2}, {If, ":-", 3, 2}, {Variable, "Ω9", 6, 2}}},
		{"::-", []Token{{Wrong, ":", 0, 1}, {If, ":-", 1, 2}}},
		{": -", []Token{{Wrong, ":", 0, 1}, {Wrong, "-", 2, 1}}},
		{"a12b3", []Token{{Name, "a12b3", 0, 5}}},
		{"aB Ba", []Token{{Name, "aB", 0, 2}, {Variable, "Ba", 3, 2}}},
		{"12a", []Token{{Wrong, "1", 0, 1}, {Wrong, "2", 1, 1}, {Name, "a", 2, 1}}},
		{"ω\xceω", []Token{{Name, "ω", 0, 1}, {Wrong, "\xce", 1, 1}, {Name, "ω", 2, 1}}},
		{"\xf0\x9f\x98.", []Token{{Wrong, "\xf0", 0, 1}, {Wrong, "\x9f", 1, 1}, {Wrong, "\x98", 2, 1}, {Dot, ".", 3, 1}}},
		{"😀\ufffd.", []Token{{Wrong, "😀", 0, 1}, {Wrong, "\ufffd", 1, 1}, {Dot, ".", 2, 1}}},
		{"a\r\v\u00a0b", []Token{{Name, "a", 0, 1}, {Wrong, "\r", 1, 1}, {Wrong, "\v", 2, 1}, {Wrong, "\u00a0", 3, 1}, {Name, "b", 4, 1}}},
	} {
		if got := slices.Collect(All(c.text)); !slices.Equal(got, c.want) {
			t.Errorf("All(%q) = %v, want %v", c.text, got, c.want)
		}
	}
}

// kindOfRune says what the document says of each single rune, by lists instead of bounds.
func kindOfRune(r rune) Kind {
	switch {
	case strings.ContainsRune("abcdefghijklmnopqrstuvwxyzαβγδεζηθικλμνξοπρςστυφχψω", r):
		return Name
	case strings.ContainsRune("ABCDEFGHIJKLMNOPQRSTUVWXYZΑΒΓΔΕΖΗΘΙΚΛΜΝΞΟΠΡΣΤΥΦΧΨΩ", r):
		return Variable
	case r == '(':
		return Open
	case r == ')':
		return Close
	case r == ',':
		return Comma
	case r == '.':
		return Dot
	}
	return Wrong
}

func TestEveryRuneAlone(t *testing.T) {
	for r := rune(0); r <= utf8.MaxRune; r++ {
		if !utf8.ValidRune(r) {
			continue
		}
		text := string(r)
		got := slices.Collect(All(text))
		if r == ' ' || r == '\t' || r == '\n' {
			if len(got) != 0 {
				t.Errorf("the blank %U is told as %v", r, got)
			}
			continue
		}
		if want := (Token{kindOfRune(r), text, 0, 1}); len(got) != 1 || got[0] != want {
			t.Errorf("the rune %U is told as %v, want %v", r, got, want)
		}
	}
}

func TestEveryRuneBehindALetter(t *testing.T) {
	for r := rune(0); r <= 0x500; r++ {
		kind := kindOfRune(r)
		joins := kind == Name || kind == Variable || strings.ContainsRune("0123456789", r)
		for token := range All("α" + string(r)) {
			if joined := token.Runes == 2; joined != joins {
				t.Errorf("%U behind a letter: the first token is %v", r, token)
			}
			break
		}
	}
}

func TestEveryByteAlone(t *testing.T) {
	for b := 0x80; b <= 0xff; b++ {
		text := string([]byte{byte(b)})
		got := slices.Collect(All(text))
		if want := []Token{{Wrong, text, 0, 1}}; !slices.Equal(got, want) {
			t.Errorf("the byte %#x is told as %v", b, got)
		}
	}
}

func TestAllMayBeLeftEarlyAndTakenTwice(t *testing.T) {
	all := All("p ( a )")
	for range 2 {
		var got []string
		for token := range all {
			got = append(got, token.Text)
			if token.Kind == Open {
				break
			}
		}
		if !slices.Equal(got, []string{"p", "("}) {
			t.Errorf("left early, it told %q", got)
		}
	}
	if n := len(slices.Collect(all)); n != 4 {
		t.Errorf("behind a loop that was left there are %d tokens, want 4", n)
	}
}
