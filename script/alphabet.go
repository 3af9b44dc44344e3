package script

import (
	"iter"
	"strings"

	"customhouse/api"
)

const (
	small   = "abcdefghijklmnopqrstuvwxyz"
	capital = "ABCDEFGHIJKLMNOPQRSTUVWXYZ"
	vowels  = "aiueo"
)

// alphabet has the word that stands for a script in texts, and the bytes of its letters: a letter is a byte of alone, or one of first and one of second behind it.
type alphabet struct{ word, alone, first, second string }

// alphabets are found by the numbers of their scripts; 0 is the number of none.
var alphabets = [...]alphabet{
	api.ScriptPlain:  {word: "plain", alone: small},
	api.ScriptCased:  {word: "cased", alone: small + capital, first: small + capital, second: "'`^"},
	api.ScriptAbjad:  {word: "abjad", alone: "bdfghjklmnpqrstwxyz'"},
	api.ScriptSyllab: {word: "syllab", alone: vowels + "n", first: "kstnhmyrwgzdbp", second: vowels},
}

// alphabetOf returns the alphabet of a script, which has no letters if there is no such script.
func alphabetOf(script int) alphabet {
	if script < 0 || script >= len(alphabets) {
		return alphabet{}
	}
	return alphabets[script]
}

// scripts returns the numbers of the scripts by their words.
func scripts() map[string]int {
	m := map[string]int{}
	for script, a := range alphabets {
		if script != 0 {
			m[a.word] = script
		}
	}
	return m
}

// letters yields the letters with which a text begins, in order, up to where none begins.
func (a alphabet) letters(text string) iter.Seq[string] {
	return func(yield func(string) bool) {
		for at := 0; ; {
			n := a.length(text[at:])
			if n == 0 || !yield(text[at:at+n]) {
				return
			}
			at += n
		}
	}
}

// length returns the number of bytes of the longest letter with which a text begins, or 0 if it begins with none.
func (a alphabet) length(text string) int {
	switch {
	case len(text) > 1 && contains(a.first, text[0]) && contains(a.second, text[1]):
		return 2
	case text != "" && contains(a.alone, text[0]):
		return 1
	}
	return 0
}

// split returns the words of a text with blanks between them, or an error and its offset.
func (a alphabet) split(text string) ([]string, api.Errno, int) {
	var words []string
	at, full := 0, false
reading:
	for {
		at = len(text) - len(strings.TrimLeft(text[at:], blank))
		start, count := at, 0
		for letter := range a.letters(text[at:]) {
			if len(words) == api.MaxWords || count == api.MaxLetters {
				full = true
				break reading
			}
			at += len(letter)
			count++
		}
		if at == start {
			break
		}
		words = append(words, text[start:at])
	}
	switch {
	case full:
		return nil, api.ErrLimit, at
	case at < len(text):
		return nil, api.ErrChar, at
	case len(words) == 0:
		return nil, api.ErrEnd, at
	}
	return words, api.OK, 0
}

// contains reports whether a byte is one of others.
func contains(bytes string, c byte) bool { return strings.IndexByte(bytes, c) >= 0 }
