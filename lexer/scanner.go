package lexer

import (
	"slices"
	"strconv"

	"customhouse/api"
)

const maxNumber = 13 // digits of a number

// scanner is a text with the classes of all bytes.
type scanner struct {
	text    string
	classOf [256]class
}

// has reports whether there is a byte of one of these classes at an offset.
func (s *scanner) has(at int, classes ...class) bool {
	return at < len(s.text) && slices.Contains(classes, s.classOf[s.text[at]])
}

// skip returns the offset of the first byte from an offset on that is of none of these classes, or the length of the text.
func (s *scanner) skip(at int, classes ...class) int {
	for s.has(at, classes...) {
		at++
	}
	return at
}

// find returns the offset of the first byte from an offset on that is of one of these classes, or the length of the text.
func (s *scanner) find(at int, classes ...class) int {
	for at < len(s.text) && !s.has(at, classes...) {
		at++
	}
	return at
}

// skipGaps returns the offset of the first byte from an offset on that is in no gap, or the length of the text.
func (s *scanner) skipGaps(at int) int {
	at = s.skip(at, blank, lineFeed)
	for s.has(at, hash) {
		at = s.skip(s.find(at, lineFeed), blank, lineFeed)
	}
	return at
}

// token returns the token that begins at an offset of the text, and where it ends.
func (s *scanner) token(at int) (api.Token, int, api.Errno) {
	switch s.classOf[s.text[at]] {
	case letter:
		return s.name(at)
	case digit:
		return s.number(at)
	case quote:
		return s.quoted(at)
	default:
		return s.symbol(at)
	}
}

// name returns the name that begins with the letter at an offset, and where it ends.
func (s *scanner) name(at int) (api.Token, int, api.Errno) {
	end := s.skip(at, letter, digit, underscore)
	if end-at > api.MaxName {
		return api.Token{}, 0, api.ErrLimit
	}
	return api.Token{Kind: api.TokName, At: at, Text: s.text[at:end]}, end, api.OK
}

// number returns the number that begins with the digit at an offset, and where it ends.
func (s *scanner) number(at int) (api.Token, int, api.Errno) {
	end := s.skip(at, digit)
	if end-at > maxNumber || s.has(end, letter, underscore) {
		return api.Token{}, 0, api.ErrNumber
	}
	digits := s.text[at:end]
	// So few digits are always an int.
	n, _ := strconv.Atoi(digits)
	return api.Token{Kind: api.TokNumber, At: at, N: n, Text: digits}, end, api.OK
}

// quoted returns the string that begins with the quote at an offset, and where it ends.
func (s *scanner) quoted(at int) (api.Token, int, api.Errno) {
	end := s.find(at+1, quote, lineFeed)
	if !s.has(end, quote) {
		return api.Token{}, 0, api.ErrEnd
	}
	inside := s.text[at+1 : end]
	if len(inside) > api.MaxText {
		return api.Token{}, 0, api.ErrLimit
	}
	return api.Token{Kind: api.TokString, At: at, Text: inside}, end + 1, api.OK
}

// symbol returns the symbol that begins at an offset, and where it ends.
func (s *scanner) symbol(at int) (api.Token, int, api.Errno) {
	end := at
	switch s.classOf[s.text[at]] {
	case exclamation:
		if !s.has(at+1, equals) {
			return api.Token{}, 0, api.ErrChar
		}
		end += 2
	case angle:
		if s.has(at+1, equals) {
			end++
		}
		fallthrough
	case equals, sign:
		end++
	default:
		return api.Token{}, 0, api.ErrChar
	}
	return api.Token{Kind: api.TokSymbol, At: at, Text: s.text[at:end]}, end, api.OK
}
