// Package cell has what stands at a place.
package cell

import (
	"slices"
	"strconv"
	"strings"

	"tallyhall/api"
)

// A longer number is no text of a cell at all, rather than one that is too great.
const maxDigits = 15

// Texts of cells that are no Number.
const (
	emptyText = "-"
	faultText = "#"
)

// Check tells what is wrong with a cell.
func Check(c api.Cell) error {
	switch c.Kind {
	case api.Number:
		if !within(c.N) {
			return api.ErrRange
		}
	case api.Empty, api.Fault:
		if c.N != 0 {
			return api.ErrRange
		}
	default:
		return api.ErrRange
	}
	return nil
}

// Of a number.
func Of(n int) api.Cell {
	if !within(n) {
		return api.Cell{Kind: api.Fault}
	}
	return api.Cell{Kind: api.Number, N: n}
}

// Add two cells.
func Add(a, b api.Cell) (api.Cell, error) {
	return join(a, b, bothEmpty, func(x, y int) api.Cell { return Of(x + y) })
}

// Sub one of another one.
func Sub(a, b api.Cell) (api.Cell, error) {
	return join(a, b, bothEmpty, func(x, y int) api.Cell { return Of(x - y) })
}

// Mul two cells.
func Mul(a, b api.Cell) (api.Cell, error) {
	return join(a, b, oneEmpty, product)
}

// Div one by another one.
func Div(a, b api.Cell) (api.Cell, error) {
	return join(a, b, oneEmpty, quotient)
}

// Print a cell.
func Print(c api.Cell) (string, error) {
	if err := Check(c); err != nil {
		return "", err
	}
	switch c.Kind {
	case api.Empty:
		return emptyText, nil
	case api.Fault:
		return faultText, nil
	}
	return strconv.Itoa(c.N), nil
}

// Parse a cell.
func Parse(text string) (api.Cell, error) {
	switch text {
	case emptyText:
		return api.Cell{Kind: api.Empty}, nil
	case faultText:
		return api.Cell{Kind: api.Fault}, nil
	}
	n, ok := number(text)
	if !ok {
		return api.Cell{}, api.ErrSyntax
	}
	if !within(n) {
		return api.Cell{}, api.ErrRange
	}
	return api.Cell{Kind: api.Number, N: n}, nil
}

// within tells whether a number may stand in a cell.
func within(n int) bool {
	return -api.MaxValue <= n && n <= api.MaxValue
}

// join makes one cell of two. Both are checked ahead of all else, so that a cell that is wrong is told even beside a Fault; and blank is asked behind Faults, which outweigh what is Empty.
func join(a, b api.Cell, blank func(l []api.Cell) bool, of func(x, y int) api.Cell) (api.Cell, error) {
	both := []api.Cell{a, b}
	for _, c := range both {
		if err := Check(c); err != nil {
			return api.Cell{}, err
		}
	}
	if anyOf(both, func(c api.Cell) bool { return c.Kind == api.Fault }) {
		return api.Cell{Kind: api.Fault}, nil
	}
	if blank(both) {
		return api.Cell{Kind: api.Empty}, nil
	}
	// N of what is Empty is 0 (Check), which is what it counts as.
	return of(a.N, b.N), nil
}

// anyOf tells whether anything of a list is so.
func anyOf(l []api.Cell, so func(c api.Cell) bool) bool {
	return slices.ContainsFunc(l, so)
}

func oneEmpty(l []api.Cell) bool {
	return anyOf(l, func(c api.Cell) bool { return c.Kind == api.Empty })
}

func bothEmpty(l []api.Cell) bool {
	return !anyOf(l, func(c api.Cell) bool { return c.Kind != api.Empty })
}

// product asks by division whether x times y is too great, as the product itself may not fit an int.
func product(x, y int) api.Cell {
	if y != 0 && size(x) > api.MaxValue/size(y) {
		return api.Cell{Kind: api.Fault}
	}
	return Of(x * y)
}

func quotient(x, y int) api.Cell {
	if y == 0 {
		return api.Cell{Kind: api.Fault}
	}
	return Of(x / y)
}

// size of a number without its sign; those of cells are far from the one int that has none.
func size(n int) int {
	return max(n, -n)
}

// number reads a text that is just as a number is written: one that, written again, is the same.
func number(text string) (int, bool) {
	if len(strings.TrimPrefix(text, "-")) > maxDigits {
		return 0, false
	}
	n, err := strconv.Atoi(text)
	if err != nil || strconv.Itoa(n) != text {
		return 0, false
	}
	return n, true
}
