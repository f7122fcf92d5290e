package rules

import (
	"slices"
	"strings"
	"unicode/utf8"

	"ebb/api"
	"ebb/tokens"
)

// Read reads and checks rules; beside an error stands the place of a rune or the number of a rule (P3, P4).
func Read(text string) ([]Rule, api.Errno, int) {
	list, err, place := parse(text)
	if err != api.OK {
		return nil, err, place
	}
	if err, number := check(list); err != api.OK {
		return nil, err, number
	}
	return list, api.OK, 0
}

// ReadAtom reads a text that is one atom and nothing else, or tells that it is none.
func ReadAtom(text string) (Atom, bool) {
	var p parser
	if err, _ := p.takeAll(text); err != api.OK || p.state != headEnd || len(p.rules) > 0 {
		return Atom{}, false
	}
	return p.atoms[0], true
}

// ReadName reads a text that is one name and nothing else, no blank either, or tells that it is none. The name is copied, for it may be kept and the text may not.
func ReadName(text string) (string, bool) {
	if utf8.RuneCountInString(text) > api.MaxWord {
		return "", false
	}
	for token := range tokens.All(text) {
		if token.Kind == tokens.Name && token.Text == text {
			return strings.Clone(text), true
		}
	}
	return "", false
}

func parse(text string) ([]Rule, api.Errno, int) {
	var p parser
	if err, place := p.takeAll(text); err != api.OK {
		return nil, err, place
	}
	if p.state != ruleStart {
		return nil, api.ErrText, utf8.RuneCountInString(text)
	}
	return p.rules, api.OK, 0
}

// state is where between the tokens of a rule the parser stands.
type state int

const (
	ruleStart state = iota // the text may end here alone
	bodyAtom
	open
	argument
	argumentEnd
	headEnd
	bodyEnd
)

// parser takes tokens one by one, so that it can tell which is the first that is wrong.
type parser struct {
	state state
	rules []Rule
	// Of the rule that is being read: its atoms, the head first, and its variables, in the order of their numbers.
	atoms     []Atom
	variables []string
}

// takeAll takes the tokens of a text up to the first error, and tells that with its place.
func (p *parser) takeAll(text string) (api.Errno, int) {
	if utf8.RuneCountInString(text) > api.MaxText {
		return api.ErrLong, 0
	}
	for token := range tokens.All(text) {
		if err := p.take(token); err != api.OK {
			return err, token.Place
		}
	}
	return api.OK, 0
}

func (p *parser) take(token tokens.Token) api.Errno {
	if !p.fits(token.Kind) {
		return api.ErrText
	}
	if p.exceeds(token) {
		return api.ErrSize
	}
	p.add(token)
	return api.OK
}

func (p *parser) fits(kind tokens.Kind) bool {
	switch p.state {
	case ruleStart, bodyAtom:
		return kind == tokens.Name
	case open:
		return kind == tokens.Open
	case argument:
		return kind == tokens.Name || kind == tokens.Variable
	case argumentEnd:
		return kind == tokens.Comma || kind == tokens.Close
	case headEnd:
		return kind == tokens.If || kind == tokens.Dot
	case bodyEnd:
		return kind == tokens.Comma || kind == tokens.Dot
	}
	return false
}

// exceeds tells of a token that fits whether it is, or begins, more than there may be.
func (p *parser) exceeds(token tokens.Token) bool {
	if token.Runes > api.MaxWord {
		return true
	}
	switch p.state {
	case ruleStart:
		return len(p.rules) == api.MaxRules
	case bodyAtom:
		return len(p.atoms) == 1+api.MaxBody
	case argument:
		return len(p.lastAtom().Args) == api.MaxArgs
	}
	return false
}

// add builds on what was read so far; the token must fit.
func (p *parser) add(token tokens.Token) {
	switch token.Kind {
	case tokens.Name, tokens.Variable:
		p.addWord(token)
	case tokens.Open:
		p.state = argument
	case tokens.Close:
		p.endAtom()
	case tokens.Comma:
		p.addComma()
	case tokens.If:
		p.state = bodyAtom
	case tokens.Dot:
		p.endRule()
	}
}

func (p *parser) addWord(token tokens.Token) {
	if p.state == argument {
		atom := p.lastAtom()
		atom.Args = append(atom.Args, p.term(token))
		p.state = argumentEnd
		return
	}
	p.atoms = append(p.atoms, Atom{Relation: strings.Clone(token.Text)})
	p.state = open
}

// term makes an argument of a word; a name is copied, for what is read may be kept and the text may not.
func (p *parser) term(token tokens.Token) Term {
	if token.Kind == tokens.Name {
		return Term{Name: strings.Clone(token.Text)}
	}
	number := slices.Index(p.variables, token.Text)
	if number < 0 {
		number = len(p.variables)
		p.variables = append(p.variables, token.Text)
	}
	return Term{Number: number}
}

func (p *parser) addComma() {
	if p.state == argumentEnd {
		p.state = argument
	} else {
		p.state = bodyAtom
	}
}

func (p *parser) endAtom() {
	if len(p.atoms) == 1 {
		p.state = headEnd
	} else {
		p.state = bodyEnd
	}
}

func (p *parser) endRule() {
	p.rules = append(p.rules, Rule{Head: p.atoms[0], Body: p.atoms[1:]})
	p.atoms, p.variables = nil, nil
	p.state = ruleStart
}

func (p *parser) lastAtom() *Atom {
	return &p.atoms[len(p.atoms)-1]
}
