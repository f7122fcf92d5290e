package ebb_test

import (
	"math/rand"
	"regexp"
	"slices"
	"strconv"
	"strings"
	"testing"
	"unicode/utf8"

	"ebb/api"
	"ebb/ebb"
)

// What P3 to P5 say, once more and in another way: by patterns over the whole text, as slow as it may be. Rules is held against it.
var (
	tokenPattern = regexp.MustCompile(`[a-zα-ωA-ZΑ-ΡΣ-Ω][a-zα-ωA-ZΑ-ΡΣ-Ω0-9]*|:-|[^ \t\n]`)
	rulesPattern = regexp.MustCompile(`^(A(IA(,A)*)?\.)*$`)
	atomPattern  = regexp.MustCompile(`n\([nv](,[nv])*\)`)
	smallPattern = regexp.MustCompile(`^[a-zα-ω]`)
	largePattern = regexp.MustCompile(`^[A-ZΑ-ΡΣ-Ω]`)

	thirdArgument = regexp.MustCompile(`\([nv],[nv],[nv]$`)
	fourthAtom    = regexp.MustCompile(`IA,A,A,n$`)

	wholeAtomPattern = regexp.MustCompile(`[^(),.:-]+\([^)]*\)`)
	wordPattern      = regexp.MustCompile(`[^(),.:-]+`)
)

// kindsOf tells a letter for each token: n for a name, v for a variable, I for :-, ? for what is wrong.
func kindsOf(pieces []string) string {
	var kinds strings.Builder
	for _, piece := range pieces {
		switch {
		case smallPattern.MatchString(piece):
			kinds.WriteByte('n')
		case largePattern.MatchString(piece):
			kinds.WriteByte('v')
		case piece == ":-":
			kinds.WriteByte('I')
		case strings.Contains("().,", piece):
			kinds.WriteString(piece)
		default:
			kinds.WriteByte('?')
		}
	}
	return kinds.String()
}

func areRules(kinds string) bool {
	return rulesPattern.MatchString(atomPattern.ReplaceAllString(kinds, "A"))
}

// mayBecomeRules: whatever begins rules becomes rules by one of these endings.
func mayBecomeRules(kinds string) bool {
	return slices.ContainsFunc([]string{"", ".", ").", "n).", "(n).", "n(n)."}, func(end string) bool { return areRules(kinds + end) })
}

// startsTooMuch tells whether the last token begins an argument, an atom or a rule beyond the bounds; the tokens may become rules.
func startsTooMuch(kinds string) bool {
	return thirdArgument.MatchString(kinds) ||
		fourthAtom.MatchString(atomPattern.ReplaceAllString(kinds, "A")) ||
		strings.Count(kinds, ".") == api.MaxRules && strings.HasSuffix(kinds, ".n")
}

func oracle(text string) (string, api.Errno, int) {
	runes := []rune(text)
	if len(runes) > api.MaxText {
		return "", api.ErrLong, 0
	}
	clean := string(runes)
	var pieces []string
	for _, span := range tokenPattern.FindAllStringIndex(clean, -1) {
		piece := clean[span[0]:span[1]]
		pieces = append(pieces, piece)
		place := utf8.RuneCountInString(clean[:span[0]])
		kinds := kindsOf(pieces)
		if !mayBecomeRules(kinds) {
			return "", api.ErrText, place
		}
		if utf8.RuneCountInString(piece) > api.MaxWord || startsTooMuch(kinds) {
			return "", api.ErrSize, place
		}
	}
	if !areRules(kindsOf(pieces)) {
		return "", api.ErrText, len(runes)
	}
	return oracleRules(strings.Join(pieces, ""))
}

// oracleAtoms splits rules without blanks into lists of words: a relation and its arguments.
func oracleAtoms(rules string) [][]string {
	var atoms [][]string
	for _, atom := range wholeAtomPattern.FindAllString(rules, -1) {
		atoms = append(atoms, strings.FieldsFunc(atom, func(r rune) bool { return strings.ContainsRune("(),", r) }))
	}
	return atoms
}

func oracleRules(squeezed string) (string, api.Errno, int) {
	lines := strings.SplitAfter(squeezed, ".")
	lines = lines[:len(lines)-1]
	firstArity, firstUnsafe, firstNames := -1, -1, -1
	for number := len(lines) - 1; number >= 0; number-- { // from the last on, so that the first is what stays
		ahead := oracleAtoms(strings.Join(lines[:number+1], ""))
		if oracleArity(ahead) {
			firstArity = number
		}
		if oracleUnsafe(oracleAtoms(lines[number])) {
			firstUnsafe = number
		}
		if oracleNames(ahead) > api.MaxNames {
			firstNames = number
		}
	}
	switch {
	case firstArity >= 0:
		return "", api.ErrArity, firstArity
	case firstUnsafe >= 0:
		return "", api.ErrSafe, firstUnsafe
	case firstNames >= 0:
		return "", api.ErrSize, firstNames
	}
	return oracleWrite(lines), api.OK, 0
}

func oracleArity(atoms [][]string) bool {
	for i, atom := range atoms {
		for _, other := range atoms[:i] {
			if atom[0] == other[0] && len(atom) != len(other) {
				return true
			}
		}
	}
	return false
}

func oracleUnsafe(atoms [][]string) bool {
	for _, word := range atoms[0][1:] {
		bound := false
		for _, atom := range atoms[1:] {
			bound = bound || slices.Contains(atom[1:], word)
		}
		if largePattern.MatchString(word) && !bound {
			return true
		}
	}
	return false
}

func oracleNames(atoms [][]string) int {
	names := map[string]bool{}
	for _, atom := range atoms {
		for _, word := range atom[1:] {
			if smallPattern.MatchString(word) {
				names[word] = true
			}
		}
	}
	return len(names)
}

func oracleWrite(lines []string) string {
	var out strings.Builder
	for _, line := range lines {
		numbers := map[string]string{}
		line = wordPattern.ReplaceAllStringFunc(line, func(word string) string {
			if smallPattern.MatchString(word) {
				return word
			}
			if numbers[word] == "" {
				numbers[word] = "X" + strconv.Itoa(len(numbers))
			}
			return numbers[word]
		})
		line = strings.ReplaceAll(line, ":-", " :- ")
		out.WriteString(strings.ReplaceAll(line, "),", "), ") + "\n")
	}
	return out.String()
}

func checkOracle(t *testing.T, text string) api.Errno {
	t.Helper()
	got, err, at := ebb.Rules(text)
	want, wantErr, wantAt := oracle(text)
	if got != want || err != wantErr || at != wantAt {
		t.Errorf("Rules(%q) = %q, %d, %d, want %q, %d, %d", text, got, err, at, want, wantErr, wantAt)
	}
	return err
}

func TestP3AllShortTexts(t *testing.T) {
	pieces := []string{"p", "X", "(", ")", ",", ".", ":-", "1"}
	var grow func(text string, more int)
	grow = func(text string, more int) {
		checkOracle(t, text)
		if more == 0 {
			return
		}
		for _, piece := range pieces {
			grow(text+" "+piece, more-1)
		}
	}
	grow("", 4)
	for _, start := range []string{"p(a", "p(a):-q(b", "p(a):-q(a),r(b)", "p(a):-q(b),r(c),s(d", "p(X)."} {
		grow(start, 3)
	}
}

func pick(random *rand.Rand, words ...string) string {
	return words[random.Intn(len(words))]
}

func madeWord(random *rand.Rand) string {
	return pick(random, "X", "Y", "Ω", "Wwwwwwww", "X", "Y", "a", "b", "ω", "c2", "d", "e", "f", "γ", "δ", "abcdefgh")
}

// madeAtom: p and q mostly have one argument, the others two.
func madeAtom(random *rand.Rand) string {
	relation := pick(random, "p", "q", "ρ", "σσσσσσσσ")
	args := []string{madeWord(random)}
	if (relation > "q") != (random.Intn(40) == 0) {
		args = append(args, madeWord(random))
	}
	if random.Intn(80) == 0 {
		args = append(args, madeWord(random), madeWord(random))
	}
	return relation + "(" + strings.Join(args, ",") + ")"
}

// madeRules makes a text of rules that is often well, and often a little beyond a bound.
func madeRules(random *rand.Rand) string {
	text := ""
	for range random.Intn(10) {
		text += madeAtom(random)
		sign := ":-"
		for range random.Intn(17) / 4 {
			text += sign + madeAtom(random)
			sign = ","
		}
		text += "." + pick(random, "", " ", "\n")
	}
	return text
}

func TestP3ToP5MadeTexts(t *testing.T) {
	random := rand.New(rand.NewSource(1))
	wrong := []string{"", " ", "\t", "\n", "(", ")", ",", ".", ":-", ":", "-", "a", "X", "ω", "Ω", "7", "\xff", "\xce", "\xe2\x82", "é", "\u03a2", "\r", "longlongword"}
	seen := map[api.Errno]int{}
	for range 2000 {
		text := madeRules(random)
		seen[checkOracle(t, text)]++
		at := random.Intn(len(text) + 1)
		to := min(len(text), at+random.Intn(3))
		seen[checkOracle(t, text[:at]+pick(random, wrong...)+text[to:])]++
		if t.Failed() {
			return
		}
	}
	for err := api.OK; err <= api.ErrSafe; err++ {
		if err != api.ErrLong && seen[err] < 50 {
			t.Errorf("too few of the texts are answered by %d: %v", err, seen)
		}
	}
	t.Log(seen)
}

func FuzzRules(f *testing.F) {
	for _, text := range []string{"", "p(a).", "path(X,Z):-path(X,Y),edge(Y,Z).", "p(X", "α(1).", "ω\xce(a).", "p(a,b,c).", "p(a). p(a,b).", strings.Repeat("ω", 301)} {
		f.Add(text)
	}
	f.Fuzz(func(t *testing.T, text string) {
		checkOracle(t, text)
		again, err, at := ebb.Rules(text)
		if err == api.OK && at == 0 && utf8.RuneCountInString(again) <= api.MaxText {
			checkWritten(t, []written{{again, again}})
		}
	})
}
