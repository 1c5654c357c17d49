package sheet

import (
	"strconv"
	"strings"

	"tallyhall/api"
	"tallyhall/place"
)

// No line has more words; a piece beyond them is enough to tell that it has.
const maxWords = 4

// Numbers of a text have at most seven digits, and so are below this, either way.
const tooGreat = 10_000_000

// draft is what the lines of a text say, whether or not it makes a cube.
type draft struct {
	dims  []api.Dim
	cells []written
}

// written is what a cell's line says, and its number: what is wrong with the place is told there.
type written struct {
	line int
	at   string
	n    int
}

// read all lines, or tell the first that cannot be, or cannot stand there.
func read(text string) (draft, int, error) {
	var d draft
	for i := 0; text != ""; i++ {
		line, rest, ended := strings.Cut(text, end)
		if !ended || !d.take(line, i) {
			return draft{}, i, api.ErrSyntax
		}
		text = rest
	}
	return d, 0, nil
}

// entries of the cells' lines, or the first line of which the place is none.
func entries(o api.Outline, cells []written) ([]api.Entry, int, error) {
	var l []api.Entry
	for _, c := range cells {
		at, err := place.Parse(o, c.at)
		if err != nil {
			return nil, c.line, err
		}
		l = append(l, api.Entry{At: at, N: c.n})
	}
	return l, 0, nil
}

// take a line, if it is one and can stand behind those that were taken.
func (d *draft) take(line string, i int) bool {
	words := strings.SplitN(line, between, maxWords+1)
	switch {
	case words[0] == ofDim && len(words) == 3:
		return d.takeDim(words[1], words[2])
	case words[0] == ofMember && len(words) == 4:
		return d.takeMember(words[1], words[2], words[3])
	case words[0] == ofCell && len(words) == 3:
		return d.takeCell(words[1], words[2], i)
	}
	return false
}

func (d *draft) takeDim(name, solve string) bool {
	n, is := count(solve)
	if !is || !isName(name) || len(d.cells) > 0 {
		return false
	}
	d.dims = append(d.dims, api.Dim{Name: strings.Clone(name), Solve: n})
	return true
}

func (d *draft) takeMember(name, parent, tail string) bool {
	p, isParent := parentOf(parent)
	sign, formula, isTail := tailOf(tail)
	if !isParent || !isTail || !isName(name) || len(d.dims) == 0 || len(d.cells) > 0 {
		return false
	}
	last := &d.dims[len(d.dims)-1]
	last.Members = append(last.Members, api.Member{Name: strings.Clone(name), Parent: p, Sign: sign, Formula: strings.Clone(formula)})
	return true
}

// takeCell even where there is no dim yet: that is for chapter 10's All to tell.
func (d *draft) takeCell(at, number string, i int) bool {
	n, is := numberOf(number)
	if !is || !isPlace(at) {
		return false
	}
	d.cells = append(d.cells, written{line: i, at: at, n: n})
	return true
}

// parentOf a text: a place, or none.
func parentOf(text string) (int, bool) {
	if text == top {
		return none, true
	}
	return count(text)
}

// tailOf a member's line: its sign, and its formula, if there is one.
func tailOf(text string) (int, string, bool) {
	first, formula, has := strings.Cut(text, by)
	// What is told by nothing is not written as told.
	if has && formula == "" {
		return 0, "", false
	}
	sign, is := signOf(first)
	return sign, formula, is
}

func signOf(text string) (int, bool) {
	switch text {
	case adds:
		return 1, true
	case takes:
		return -1, true
	case idles:
		return 0, true
	}
	return 0, false
}

// count is a number that has no sign.
func count(text string) (int, bool) {
	n, is := numberOf(text)
	if !is || n < 0 {
		return 0, false
	}
	return n, true
}

// numberOf a text that is just what it would be written as.
func numberOf(text string) (int, bool) {
	n, err := strconv.Atoi(text)
	if err != nil || n <= -tooGreat || n >= tooGreat || strconv.Itoa(n) != text {
		return 0, false
	}
	return n, true
}

// isName tells whether a word can be one, not whether any dim or member may have it.
func isName(word string) bool {
	return word != "" && !strings.ContainsAny(word, "=.")
}

// isPlace tells whether a word is names with dots between, not whether there is such a place. A name that is empty shows as two dots.
func isPlace(word string) bool {
	return !strings.Contains(word, "=") && !strings.Contains("."+word+".", "..")
}
