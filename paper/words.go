package paper

import (
	"math"
	"strings"

	"horarium/api"
	"horarium/clock"
	"horarium/digits"
	"horarium/pair"
)

// words are those of a line that were not read yet, and what is wrong with those that were.
type words struct {
	left []string
	why  api.Errno
}

// blame keeps err, if it is one: a word of no form goes ahead of one that is out of its range, wherever it stands.
func (w *words) blame(err api.Errno) {
	if err != api.OK && w.why != api.ErrForm {
		w.why = err
	}
}

// end: what is wrong with the line, of which there should be no word left.
func (w *words) end() api.Errno {
	if len(w.left) > 0 {
		w.blame(api.ErrForm)
	}
	return w.why
}

// text: the next word.
func (w *words) text() string {
	if len(w.left) == 0 {
		w.blame(api.ErrForm)
		return ""
	}
	next := w.left[0]
	w.left = w.left[1:]
	return next
}

func (w *words) number() int {
	return w.numberOf(w.text())
}

func (w *words) numberOf(s string) int {
	n, err := digits.Parse(s)
	w.blame(err)
	return n
}

// numbers: all words that are left.
func (w *words) numbers() []int {
	var l []int
	for len(w.left) > 0 {
		l = append(l, w.number())
	}
	return l
}

func (w *words) gear() uint16 {
	n, err := digits.Within(w.text(), 0, math.MaxUint16)
	w.blame(err)
	return uint16(n)
}

// when: the time whose three words are the next ones.
func (w *words) when(g api.Grid) api.When {
	x, err := clock.Parse(g, strings.Join(texts(w.text(), w.text(), w.text()), blank))
	// In a grid that may not be no time is of no form or out of its range: what is read may not be as a whole.
	if err != api.ErrGrid {
		w.blame(err)
	}
	return x
}

func (w *words) kind() api.RuleKind {
	k, ok := pair.Kind(w.text())
	if !ok {
		w.blame(api.ErrForm)
	}
	return k
}

// rule: the rule whose words are all that are left.
func (w *words) rule() api.Rule {
	r := api.Rule{Kind: w.kind()}
	cost := w.text()
	r.Hard = cost == hard
	if !r.Hard {
		r.Cost = w.numberOf(cost)
	}
	r.A = w.number()
	r.B = w.number()
	r.Classes = w.numbers()
	return r
}
