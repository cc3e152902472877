package printer

import (
	"slices"

	"cleanse/api"
)

// writer writes tokens. It has the text so far, the number of its tokens, and what comes before the next token, unless this is one before which nothing stands.
type writer struct {
	text   []byte
	tokens int
	gap    string
}

// put writes tokens.
func (w *writer) put(tokens ...string) {
	for _, token := range tokens {
		if !slices.Contains([]string{";", ",", ".", ")", "(", "/"}, token) {
			w.add(w.gap)
		}
		w.add(token)
		w.tokens++
		w.gap = " "
		if slices.Contains([]string{"(", ".", "/", "@"}, token) {
			w.gap = ""
		}
	}
}

// end writes the end of a line, with which the next token begins another one.
func (w *writer) end() {
	w.add("\n")
	w.gap = ""
}

// add adds bytes to the text. Behind the limit none are needed, because such a text is not returned.
func (w *writer) add(s string) {
	if len(w.text) <= api.MaxSource {
		w.text = append(w.text, s...)
	}
}
