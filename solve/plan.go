package solve

import (
	"slices"

	"tallyhall/api"
	"tallyhall/cell"
	"tallyhall/formula"
	"tallyhall/place"
	"tallyhall/reckon"
	"tallyhall/rules"
	"tallyhall/tree"
)

// nobody stands where the number of a dim would: a place of leafs is told by none.
const nobody = -1

// Plan of a cube: by which other places each one is told, and how. It is laid out once, as many places are asked of it, and shares nothing with the outline.
type Plan struct {
	axes   []axis
	places int
}

// axis is a dim, as it tells places.
type axis struct {
	solve int
	apart int   // how far apart the numbers of two places are that differ here alone, by one member
	ways  []way // of each member
}

// way in which a member is told.
type way struct {
	leaf  bool       // it is told in none
	nodes []api.Node // of its formula; none: by its parts
	names []string   // of its refs, rising
	needs []int      // members: those of the names, one each, or else the parts that count
	signs []int      // of these parts
}

// New plan of an outline: its error is chapter 10's All's.
func New(o api.Outline) (*Plan, error) {
	if _, _, err := rules.All(o); err != nil {
		return nil, err
	}
	places, err := place.Cells(o)
	if err != nil {
		return nil, err
	}
	axes := make([]axis, len(o.Dims))
	apart := 1
	for i := len(axes) - 1; i >= 0; i-- {
		ways, err := waysOf(o.Dims[i])
		if err != nil {
			return nil, err
		}
		axes[i] = axis{solve: o.Dims[i].Solve, apart: apart, ways: ways}
		apart *= len(ways)
	}
	return &Plan{axes: axes, places: places}, nil
}

// Places tells how many there are.
func (p *Plan) Places() int { return p.places }

// Needs of the place of a number: the numbers of the places of which the values tell its own, rising: ErrRange: there is no such place.
func (p *Plan) Needs(n int) ([]int, error) {
	if n < 0 || n >= p.places {
		return nil, api.ErrRange
	}
	out := p.needs(n)
	slices.Sort(out)
	return out, nil
}

// Users of each place, by its number: the numbers of the places that need its value, rising.
func (p *Plan) Users() [][]int {
	out := make([][]int, p.places)
	for n := range p.places {
		for _, k := range p.needs(n) {
			out[k] = append(out[k], n)
		}
	}
	return out
}

// Leaf tells whether the place of a number is one of leafs; none is, if there is no such place.
func (p *Plan) Leaf(n int) bool {
	return n >= 0 && n < p.places && p.by(n) == nobody
}

// Tell the value at the place of a number, of cells, by number, that are right at all that it needs; at a place of leafs it is the one that stands there: ErrRange: there is no such place; ErrShape: not as many cells as places.
func (p *Plan) Tell(cells []api.Cell, n int) (api.Cell, error) {
	if n < 0 || n >= p.places {
		return api.Cell{}, api.ErrRange
	}
	if len(cells) != p.places {
		return api.Cell{}, api.ErrShape
	}
	i := p.by(n)
	if i == nobody {
		return cells[n], nil
	}
	var needed []api.Cell
	for _, k := range p.needs(n) {
		needed = append(needed, cells[k])
	}
	return p.axes[i].way(n).tell(needed)
}

// by which dim the place of a number is told.
func (p *Plan) by(n int) int {
	best := nobody
	for i, a := range p.axes {
		if a.way(n).leaf {
			continue
		}
		if best == nobody || a.solve > p.axes[best].solve {
			best = i
		}
	}
	return best
}

// needs of a place, in the order in which they are reckoned with.
func (p *Plan) needs(n int) []int {
	i := p.by(n)
	if i == nobody {
		return nil
	}
	a := p.axes[i]
	var out []int
	for _, k := range a.way(n).needs {
		out = append(out, n+(k-a.member(n))*a.apart)
	}
	return out
}

// member of a place, by its number.
func (a axis) member(n int) int { return n / a.apart % len(a.ways) }

// way of the member of a place.
func (a axis) way(n int) way { return a.ways[a.member(n)] }

// tell what a member comes to, of the cells of those that it needs.
func (w way) tell(cells []api.Cell) (api.Cell, error) {
	if len(w.nodes) > 0 {
		return reckon.Value(w.nodes, w.names, cells)
	}
	return together(w.signs, cells)
}

// together is what comes of the cells of parts that count, each by its sign.
func together(signs []int, cells []api.Cell) (api.Cell, error) {
	sum := api.Cell{Kind: api.Empty}
	var err error
	for i, c := range cells {
		if signs[i] < 0 {
			sum, err = cell.Sub(sum, c)
		} else {
			sum, err = cell.Add(sum, c)
		}
		if err != nil {
			return api.Cell{}, err
		}
	}
	return sum, nil
}

func waysOf(d api.Dim) ([]way, error) {
	var out []way
	for i := range d.Members {
		w, err := wayOf(d, i)
		if err != nil {
			return nil, err
		}
		out = append(out, w)
	}
	return out, nil
}

func wayOf(d api.Dim, i int) (way, error) {
	if text := d.Members[i].Formula; text != "" {
		return byFormula(d, text)
	}
	return byParts(d, i)
}

// byParts: a leaf is told apart from a member whose parts all count nothing, as both need none.
func byParts(d api.Dim, i int) (way, error) {
	leaf, err := tree.Leaf(d, i)
	if err != nil {
		return way{}, err
	}
	needs, err := rules.Needs(d, i)
	if err != nil {
		return way{}, err
	}
	var signs []int
	for _, k := range needs {
		signs = append(signs, d.Members[k].Sign)
	}
	return way{leaf: leaf, needs: needs, signs: signs}, nil
}

// byFormula has members in the order of their names, which is that in which a reckoning asks for cells.
func byFormula(d api.Dim, text string) (way, error) {
	nodes, _, err := formula.Parse(text)
	if err != nil {
		return way{}, err
	}
	names, err := formula.Refs(nodes)
	if err != nil {
		return way{}, err
	}
	var needs []int
	for _, name := range names {
		needs = append(needs, slices.IndexFunc(d.Members, func(m api.Member) bool { return m.Name == name }))
	}
	return way{nodes: nodes, names: names, needs: needs}, nil
}
