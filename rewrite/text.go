package rewrite

import (
	"strconv"

	"customhouse/api"
)

// The words of the text of a table.
const (
	ruleWord  = "rule"
	toWord    = "to"
	costWord  = "cost"
	dropWord  = "drop"
	endWord   = "end"
	costsWord = "costs"
	semicolon = ";"
)

// scriptWords are found by the numbers of their scripts; 0 is the number of none.
var scriptWords = [...]string{
	api.ScriptPlain:  "plain",
	api.ScriptCased:  "cased",
	api.ScriptAbjad:  "abjad",
	api.ScriptSyllab: "syllab",
}

// ruleLine returns the line of a rule.
func ruleLine(r api.Rule) string {
	return ruleWord + " " + scriptWords[r.Script] + " " + quoted(r.From) + " " + toWord + " " + quoted(r.To) + " " + costWord + " " + strconv.Itoa(r.Cost) + semicolon + "\n"
}

// dropLine returns the line of a drop or an end, which begins with this word.
func dropLine(begin string, d api.Drop) string {
	return begin + " " + scriptWords[d.Script] + " " + quoted(d.Word) + " " + strconv.Itoa(d.Cost) + semicolon + "\n"
}

// costsLine returns the last line of a table.
func costsLine(t api.Table) string {
	return costsWord + " " + strconv.Itoa(t.Drop) + " " + strconv.Itoa(t.Order) + " " + strconv.Itoa(t.Initial) + semicolon + "\n"
}

// quoted returns a text in quotes. No word has a quote.
func quoted(text string) string { return "\"" + text + "\"" }
