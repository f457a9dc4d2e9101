package parser

import (
	"frustum/api"
	"frustum/lexer"
)

// The grammar of the chapter. Symbols with capital letters are its rules, with one list of symbols for each choice; all other symbols are tokens.
func grammar() map[string][][]string {
	return map[string][][]string{
		"MODULE":       {{"shader", "STAGE", ";", "DECLARATIONS", "main", "BLOCK", "<end>"}},
		"STAGE":        {{"vertex"}, {"geometry"}, {"fragment"}},
		"DECLARATIONS": {{}, {"DECLARATIONS", "DECLARATION"}},
		"DECLARATION": {
			{"struct", "<name>", "{", "FIELDS", "}"}, {"uniform", "FIELD", ";"}, {"in", "FIELD", ";"}, {"out", "FIELD", ";"}, {"texture", "<name>", ";"}, {"buffer", "<name>", ";"},
			{"fn", "<name>", "(", ")", "RESULT"}, {"fn", "<name>", "(", "PARAMETERS", ")", "RESULT"},
		},
		"RESULT":     {{"->", "TYPE", "{", "STATEMENTS", "return", "EXPR", ";", "}"}},
		"FIELDS":     {{}, {"FIELDS", "FIELD", ";"}},
		"PARAMETERS": {{"FIELD"}, {"PARAMETERS", ",", "FIELD"}},
		"FIELD":      {{"<name>", ":", "TYPE"}},
		"TYPE":       {{"<type>"}, {"<name>"}},
		"BLOCK":      {{"{", "STATEMENTS", "}"}},
		"STATEMENTS": {{}, {"STATEMENTS", "STATEMENT"}},
		"STATEMENT": {
			{"let", "FIELD", "=", "EXPR", ";"}, {"if", "(", "EXPR", ")", "BLOCK"}, {"if", "(", "EXPR", ")", "BLOCK", "else", "BLOCK"}, {"loop", "<integer>", "BLOCK"},
			{"break", ";"}, {"continue", ";"}, {"discard", ";"}, {"emit", ";"}, {"cut", ";"}, {"POSTFIX", "=", "EXPR", ";"},
		},
		"EXPR":       {{"XOR"}, {"EXPR", "|", "XOR"}},
		"XOR":        {{"AND"}, {"XOR", "^", "AND"}},
		"AND":        {{"COMPARISON"}, {"AND", "&", "COMPARISON"}},
		"COMPARISON": {{"SHIFT"}, {"SHIFT", "COMPARE", "SHIFT"}},
		"COMPARE":    {{"=="}, {"!="}, {"<"}, {"<="}, {">"}, {">="}},
		"SHIFT":      {{"SUM"}, {"SHIFT", "<<", "SUM"}, {"SHIFT", ">>", "SUM"}},
		"SUM":        {{"PRODUCT"}, {"SUM", "+", "PRODUCT"}, {"SUM", "-", "PRODUCT"}},
		"PRODUCT":    {{"UNARY"}, {"PRODUCT", "*", "UNARY"}, {"PRODUCT", "/", "UNARY"}, {"PRODUCT", "%", "UNARY"}},
		"UNARY":      {{"POSTFIX"}, {"-", "UNARY"}, {"!", "UNARY"}},
		"POSTFIX":    {{"PRIMARY"}, {"POSTFIX", ".", "<name>"}, {"POSTFIX", "[", "EXPR", "]"}},
		"PRIMARY": {
			{"<integer>"}, {"<fixed>"}, {"true"}, {"false"}, {"(", "EXPR", ")"}, {"<name>"}, {"<name>", "(", ")"}, {"<name>", "(", "ARGUMENTS", ")"}, {"<type>", "(", ")"}, {"<type>", "(", "ARGUMENTS", ")"},
		},
		"ARGUMENTS": {{"EXPR"}, {"ARGUMENTS", ",", "EXPR"}},
		"WHOLE":     {{"EXPR", "<end>"}},
	}
}

// symbolOf returns the symbol of a token in the grammar.
func symbolOf(token api.Token) string {
	switch {
	case token.Kind == api.IntToken:
		return "<integer>"
	case token.Kind == api.FixedToken:
		return "<fixed>"
	case token.Kind == api.EndToken:
		return "<end>"
	case lexer.IsTypeWord(token.Text):
		return "<type>"
	case token.Kind == api.WordToken && !lexer.IsKeyword(token.Text):
		return "<name>"
	}
	return token.Text
}

// item is a choice of a rule, of which the symbols in front of a dot were found from a place on.
type item struct {
	rule        string
	choice, dot int
	from        int
}

// recognizer knows, by Earley's algorithm, all ways to derive the tokens up to each place from a rule.
type recognizer struct {
	rules map[string][][]string
	items [][]item
}

// newRecognizer returns a recognizer in front of all tokens.
func newRecognizer(rule string) *recognizer {
	r := &recognizer{rules: grammar(), items: [][]item{nil}}
	for choice := range r.rules[rule] {
		r.add(item{rule: rule, choice: choice})
	}
	r.close()
	return r
}

// after returns the symbol behind the dot of an item, or the empty string at its end.
func (r *recognizer) after(i item) string {
	symbols := r.rules[i.rule][i.choice]
	if i.dot == len(symbols) {
		return ""
	}
	return symbols[i.dot]
}

// add adds an item to the last place.
func (r *recognizer) add(i item) {
	last := len(r.items) - 1
	for _, known := range r.items[last] {
		if known == i {
			return
		}
	}
	r.items[last] = append(r.items[last], i)
}

// close adds all items that follow from those of the last place.
func (r *recognizer) close() {
	last := len(r.items) - 1
	for at := 0; at < len(r.items[last]); at++ {
		i := r.items[last][at]
		symbol := r.after(i)
		if symbol == "" {
			for _, waiting := range append([]item(nil), r.items[i.from]...) {
				if r.after(waiting) == i.rule {
					waiting.dot++
					r.add(waiting)
				}
			}
			continue
		}
		for choice, symbols := range r.rules[symbol] {
			r.add(item{rule: symbol, choice: choice, from: last})
			// A rule that may be empty is complete at once.
			if len(symbols) == 0 {
				i.dot++
				r.add(i)
				i.dot--
			}
		}
	}
}

// with returns the recognizer behind one more token, or nil if the token cannot continue the text.
func (r *recognizer) with(symbol string) *recognizer {
	next := &recognizer{rules: r.rules, items: append(r.items[:len(r.items):len(r.items)], nil)}
	for _, i := range r.items[len(r.items)-1] {
		if r.after(i) == symbol {
			i.dot++
			next.add(i)
		}
	}
	if len(next.items[len(next.items)-1]) == 0 {
		return nil
	}
	next.close()
	return next
}

// wrongLine returns the line of the first token that cannot continue a text, or 0 if it is derived from the rule. The recognizer is that in front of the tokens.
func wrongLine(r *recognizer, tokens []api.Token) int {
	for _, token := range tokens {
		if r = r.with(symbolOf(token)); r == nil {
			return token.Line
		}
	}
	return 0
}
