package formula

import (
	"strconv"
	"strings"

	"tallyhall/api"
)

const (
	maxText   = 100
	maxDigits = 7
)

// Parse a formula.
func Parse(text string) (l []api.Node, at int, err error) {
	var b builder
	take := b.take
	if len(text) > maxText {
		// It is read all the same, as a byte that cannot stand there is told ahead of the length; but nothing of it is kept.
		take = func(word string) {}
	}
	if at, err = read(text, take); err != nil {
		return nil, at, err
	}
	if len(text) > maxText {
		return nil, 0, api.ErrFull
	}
	l = b.all()
	if err = Check(l); err != nil {
		return nil, 0, err
	}
	return l, 0, nil
}

// misplaced is the place of a byte that cannot stand there, or the end of a text that cannot end there. A reading panics with it, and so is ended from wherever it is.
type misplaced int

// read a text, and hand on word by word what it says: brackets, signs, numbers and names.
func read(text string, take func(word string)) (at int, err error) {
	defer func() {
		switch wrong := recover().(type) {
		case nil:
		case misplaced:
			at, err = int(wrong), api.ErrSyntax
		default:
			panic(wrong)
		}
	}()
	r := reader{text: text, take: take}
	r.all()
	return 0, nil
}

// reader of a text. Of brackets it keeps how many are open, rather than being one call deeper in each, so that they may be nested as deep as a text is long.
type reader struct {
	text string
	at   int // of the byte that is next
	open int
	take func(word string)
}

func (r *reader) all() {
	r.operand()
	for r.at < len(r.text) {
		r.sign()
		r.operand()
	}
	if r.open > 0 {
		r.stop()
	}
}

// operand is a number or a name, with the brackets that open ahead of it, and those that close behind it.
func (r *reader) operand() {
	for r.next() == '(' {
		r.open++
		r.word(1)
	}
	switch c := r.next(); {
	case isDigit(c):
		r.word(r.digits())
	case isLetter(c):
		r.word(lead(r.text[r.at:], isLetter))
	default:
		r.stop()
	}
	for r.open > 0 && r.next() == ')' {
		r.open--
		r.word(1)
	}
}

func (r *reader) sign() {
	if strings.IndexByte(signs, r.next()) < 0 {
		r.stop()
	}
	r.word(1)
}

// digits tells how many the number has that is next. None follows a 0, which it would make a needless one; and those that are too many are left, as they cannot stand there.
func (r *reader) digits() int {
	if r.next() == '0' {
		return 1
	}
	return min(lead(r.text[r.at:], isDigit), maxDigits)
}

// next byte: behind the end one that can stand nowhere.
func (r *reader) next() byte {
	if r.at == len(r.text) {
		return 0
	}
	return r.text[r.at]
}

// word of so many bytes: it is handed on, and gone past.
func (r *reader) word(size int) {
	from := r.at
	r.at += size
	r.take(r.text[from:r.at])
}

func (r *reader) stop() { panic(misplaced(r.at)) }

// lead tells how many bytes a text begins with that are so.
func lead(text string, so func(c byte) bool) int {
	for i := range len(text) {
		if !so(text[i]) {
			return i
		}
	}
	return len(text)
}

func isDigit(c byte) bool { return '0' <= c && c <= '9' }

func isLetter(c byte) bool { return 'a' <= c && c <= 'z' }

// bracket stands among ops for one that is open; no op has its number.
const bracket = 0

// builder makes nodes of the words of a text.
type builder struct {
	nodes   []api.Node
	ready   []int // places of nodes that no other one uses yet
	waiting []int // ops whose right side has not ended, and brackets
}

// take a word of a text that is right as far as that word.
func (b *builder) take(word string) {
	switch c := word[0]; c {
	case '(':
		b.waiting = append(b.waiting, bracket)
	case ')':
		b.settle(0)
		b.waiting = b.waiting[:len(b.waiting)-1]
	case '+', '-', '*', '/':
		op := api.Plus + strings.IndexByte(signs, c)
		b.settle(binds(op))
		b.waiting = append(b.waiting, op)
	default:
		b.add(operand(word))
	}
}

// all nodes, when the text has ended.
func (b *builder) all() []api.Node {
	b.settle(0)
	return b.nodes
}

// settle the ops behind the last bracket, from the last one, as far as they bind at least so much: their right sides end here.
func (b *builder) settle(least int) {
	for k := len(b.waiting) - 1; k >= 0; k-- {
		op := b.waiting[k]
		if op == bracket || binds(op) < least {
			return
		}
		b.waiting = b.waiting[:k]
		b.join(op)
	}
}

func (b *builder) join(op int) {
	k := len(b.ready) - 2
	left, right := b.ready[k], b.ready[k+1]
	b.ready = b.ready[:k]
	b.add(api.Node{Op: op, Left: left, Right: right})
}

func (b *builder) add(n api.Node) {
	b.ready = append(b.ready, len(b.nodes))
	b.nodes = append(b.nodes, n)
}

// operand that a number or a name is.
func operand(word string) api.Node {
	if isLetter(word[0]) {
		return api.Node{Op: api.Ref, Name: strings.Clone(word)}
	}
	// The error is left out: so few digits are always a number.
	n, _ := strconv.Atoi(word)
	return api.Node{Op: api.Num, N: n}
}
