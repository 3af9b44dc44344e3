package lexer

// class says what a byte may be part of, outside of strings and comments.
type class byte

const (
	unknown class = iota // begins no token and stands in none but strings
	blank
	lineFeed
	hash
	letter
	digit
	underscore
	quote
	exclamation
	angle
	equals
	sign // a symbol that no byte can follow in one token
)

// classTable returns the classes of all bytes.
func classTable() [256]class {
	var table [256]class
	for c, chars := range [...]string{
		blank:       " \t",
		lineFeed:    "\n",
		hash:        "#",
		letter:      "ABCDEFGHIJKLMNOPQRSTUVWXYZabcdefghijklmnopqrstuvwxyz",
		digit:       "0123456789",
		underscore:  "_",
		quote:       "\"",
		exclamation: "!",
		angle:       "<>",
		equals:      "=",
		sign:        ";,.:()[]{}+-",
	} {
		for i := range len(chars) {
			table[chars[i]] = class(c)
		}
	}
	return table
}
