package rewrite

import "customhouse/api"

// failure is what the functions of the parser are left with by a panic: an error and its offset.
type failure struct {
	err api.Errno
	at  int
}

// require leaves the parser with an error at an offset unless a condition holds.
func require(ok bool, err api.Errno, at int) {
	if !ok {
		panic(failure{err, at})
	}
}

// parser has the tokens that were not read yet, and the number of bytes of the text.
type parser struct {
	tokens []api.Token
	end    int
}

// table reads a table, and nothing behind it.
func (p *parser) table() api.Table {
	var t api.Table
	t.Rules = lines(p, ruleWord, 1, api.MaxRules, p.rule, freeRule)
	t.Drops = lines(p, dropWord, 0, api.MaxDrops, func() api.Drop { return p.drop(api.MaxLetters) }, freeDrop)
	t.Ends = lines(p, endWord, 0, api.MaxDrops, func() api.Drop { return p.drop(maxEnd) }, freeDrop)
	p.word(costsWord)
	t.Drop = p.cost()
	t.Order = p.cost()
	t.Initial = p.cost()
	p.semicolon()
	p.finish()
	return t
}

// finish makes sure that all tokens were read.
func (p *parser) finish() {
	if len(p.tokens) > 0 {
		panic(failure{api.ErrSyntax, p.tokens[0].At})
	}
}

// lines reads the lines that begin with a word, of which there are at least least and at most most. Two of them may not be equal if they are freed from their costs.
func lines[Row comparable](p *parser, begin string, least, most int, read func() Row, free func(Row) Row) []Row {
	var l []Row
	seen := set[Row]{}
	for len(l) < least || p.sees(begin) {
		at := p.word(begin)
		require(len(l) < most, api.ErrLimit, at)
		row := read()
		at = p.semicolon()
		require(seen.add(free(row)), api.ErrTwice, at)
		l = append(l, row)
	}
	return l
}

// rule reads what follows the first word of a rule, up to the semicolon.
func (p *parser) rule() api.Rule {
	var r api.Rule
	r.Script = p.script()
	r.From = p.quoted(func(text string) bool { return isFolded(r.Script, text, maxFrom) })
	p.word(toWord)
	r.To = p.quoted(isTo)
	p.word(costWord)
	r.Cost = p.cost()
	return r
}

// drop reads what follows the first word of a drop or an end, up to the semicolon.
func (p *parser) drop(letters int) api.Drop {
	var d api.Drop
	d.Script = p.script()
	d.Word = p.quoted(func(text string) bool { return isFolded(d.Script, text, letters) })
	d.Cost = p.cost()
	return d
}

// script reads the word of a script.
func (p *parser) script() int {
	t := p.take(api.TokName)
	for script, word := range scriptWords {
		if word == t.Text {
			return script
		}
	}
	panic(failure{api.ErrSyntax, t.At})
}

// quoted reads a string, which must be allowed.
func (p *parser) quoted(allowed func(string) bool) string {
	t := p.take(api.TokString)
	require(allowed(t.Text), api.ErrArg, t.At)
	return t.Text
}

// cost reads a number, which must be a cost.
func (p *parser) cost() int {
	t := p.take(api.TokNumber)
	require(isCost(t.N), api.ErrRange, t.At)
	return t.N
}

// word reads a word as it is written, and returns its offset.
func (p *parser) word(word string) int {
	t := p.take(api.TokName)
	require(t.Text == word, api.ErrSyntax, t.At)
	return t.At
}

// semicolon reads a semicolon, and returns its offset.
func (p *parser) semicolon() int {
	t := p.take(api.TokSymbol)
	require(t.Text == semicolon, api.ErrSyntax, t.At)
	return t.At
}

// sees reports whether the next token is a word.
func (p *parser) sees(word string) bool {
	return len(p.tokens) > 0 && p.tokens[0].Kind == api.TokName && p.tokens[0].Text == word
}

// take reads a token of a kind.
func (p *parser) take(kind int) api.Token {
	require(len(p.tokens) > 0, api.ErrEnd, p.end)
	t := p.tokens[0]
	require(t.Kind == kind, api.ErrSyntax, t.At)
	p.tokens = p.tokens[1:]
	return t
}
