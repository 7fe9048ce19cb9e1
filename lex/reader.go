package lex

import (
	"strconv"
	"strings"

	"billhook/api"
	"billhook/word"
)

const (
	mostNumber = 1 << 63
	mostTag    = 1000000
)

// reader goes through a text, word by word. Words are asked for only where it
// has not ended.
type reader struct {
	text   string
	at     int
	shapes []shape
	signs  []string
}

// shape is a way in which words are built: begins asks whether the word that
// comes next is built so, and take tells that word; ok is false, if it may not
// be as it stands there.
type shape struct {
	begins func() bool
	take   func() (t Token, ok bool)
}

// newReader makes the shapes and the signs once for a text, not once a word.
func newReader(s string) *reader {
	r := &reader{text: s, signs: signs()}
	r.shapes = []shape{
		{r.atLetter, r.takeName},
		{r.atDigit, r.takeNumber},
		{r.atTag, r.takeTag},
		{r.atSign, r.takeSign},
	}
	return r
}

// signs lists all of them; one may begin another one.
func signs() []string {
	return append(word.Ops(), "~", "!", "(", ")", "[", "]", "{", "}", ",", ";", "=")
}

func (r *reader) ended() bool { return r.at == len(r.text) }

// rest is what has not been passed by.
func (r *reader) rest() string { return r.text[r.at:] }

func (r *reader) passSpace() { r.at += extent(r.rest(), isSpace) }

func (r *reader) pass(t Token) { r.at += len(t.Text) }

// word tells the word that comes next; it is not passed by, so that the reader
// still stands where it begins, if it may not be.
func (r *reader) word() (t Token, ok bool) {
	for _, s := range r.shapes {
		if s.begins() {
			return s.take()
		}
	}
	return Token{}, false
}

// What a word may begin with.

func (r *reader) atLetter() bool { return isLetter(r.text[r.at]) }
func (r *reader) atDigit() bool  { return isDigit(r.text[r.at]) }
func (r *reader) atTag() bool    { return r.text[r.at] == '@' }
func (r *reader) atSign() bool   { return r.longestSign() != "" }

func (r *reader) takeName() (Token, bool) {
	text := r.rest()[:extent(r.rest(), isPart)]
	if IsKey(text) {
		return Token{Kind: Key, Text: text, At: r.at}, true
	}
	if len(text) > api.MaxName {
		return Token{}, false
	}
	return Token{Kind: Name, Text: text, At: r.at}, true
}

func (r *reader) takeNumber() (Token, bool) {
	text := r.rest()[:extent(r.rest(), isDigit)]
	n, ok := value(text, mostNumber)
	if !ok {
		return Token{}, false
	}
	return Token{Kind: Number, Text: text, N: n, At: r.at}, true
}

func (r *reader) takeTag() (Token, bool) {
	text := r.rest()[:1+extent(r.rest()[1:], isDigit)]
	n, ok := value(text[1:], mostTag)
	if !ok {
		return Token{}, false
	}
	return Token{Kind: Tag, Text: text, N: n, At: r.at}, true
}

func (r *reader) takeSign() (Token, bool) {
	return Token{Kind: Sign, Text: r.longestSign(), At: r.at}, true
}

// longestSign is nothing where no sign begins.
func (r *reader) longestSign() string {
	longest := ""
	for _, sign := range r.signs {
		if len(sign) > len(longest) && strings.HasPrefix(r.rest(), sign) {
			longest = sign
		}
	}
	return longest
}

// value is the number that digits are; ok is false, if there are none, a 0
// stands ahead, or it is above most.
func value(digits string, most uint64) (n uint64, ok bool) {
	if len(digits) > 1 && digits[0] == '0' {
		return 0, false
	}
	n, err := strconv.ParseUint(digits, 10, 64)
	if err != nil || n > most {
		return 0, false
	}
	return n, true
}
