package tests

import (
	"slices"
	"strconv"
	"strings"

	"loop.example/g00221/impl"
)

// maker makes right trees and products by a fixed list of numbers.
type maker struct {
	nums []int64
	at   int
}

// below: a number from 0 on, below that one.
func (g *maker) below(n int64) int64 {
	g.at = (g.at + 1) % len(g.nums)
	return int64(uint64(g.nums[g.at]) * 2654435761 >> 17 % uint64(n))
}

// within: a number of these bounds, often one of the two.
func (g *maker) within(low int64, high int64) int64 {
	switch g.below(4) {
	case 0:
		return low
	case 1:
		return high
	}
	return low + g.below(high-low+1)
}

func (g *maker) name() string {
	list := []string{"a", "owed", "due", "till", "x9", "a_b", "z__", "most_owed", "lets", "tos", strings.Repeat("w", 20)}
	return list[g.below(int64(len(list)))]
}

// bounds: the least and the greatest number of a type, as the document has them.
func bounds(kind int64) (int64, int64) {
	return []int64{0, -impl.MaxMoney, -impl.MaxMoney, 0, 0, 0}[kind], []int64{0, impl.MaxMoney, impl.MaxMoney, 1000000, 36524, 1}[kind]
}

// expression: of at most so many nodes and such a depth, both at least 1.
func (g *maker) expression(size int, depth int) []impl.Node {
	if size < 3 || depth < 2 || g.below(5) == 0 {
		return g.leaf()
	}
	switch g.below(3) {
	case 0:
		text := operatorList()[g.below(8)]
		return op(g.expression((size-1)/2, depth-1), text, g.expression((size-1)/2, depth-1))
	case 1:
		return not(g.expression(size-1, depth-1))
	}
	var kids [][]impl.Node
	count := min(1+int(g.below(4)), size-1)
	for range count {
		kids = append(kids, g.expression((size-1)/count, depth-1))
	}
	return call(functionList()[g.below(7)], kids...)
}

func (g *maker) leaf() []impl.Node {
	kind := 1 + g.below(11)
	switch {
	case kind <= impl.KBool:
		low, high := bounds(kind)
		return number(kind, g.within(low, high))
	case kind <= impl.KBal:
		return tree(impl.Node{Kind: kind, Text: g.name()})
	}
	return plain(kind)
}

// statement: of at least 4 nodes that may be, and a depth of at least 2.
func (g *maker) statement(size int, depth int) []impl.Node {
	switch g.below(8) {
	case 0:
		return let(g.name(), g.expression(size-1, depth-1))
	case 1:
		return set(g.name(), g.expression(size-1, depth-1))
	case 2:
		third := (size - 1) / 3
		return choice(g.expression(third, depth-1), g.block(third, depth-1), g.block(third, depth-1))
	case 3:
		return post(g.expression(size-1, depth-1), g.name(), g.name())
	case 4:
		return next(g.expression(size-1, depth-1))
	case 5:
		return repeat(g.expression((size-1)/2, depth-1), g.block((size-1)/2, depth-1))
	case 6:
		return g.block(size, depth)
	}
	return reject(g.within(1, 99))
}

func (g *maker) block(size int, depth int) []impl.Node {
	var kids [][]impl.Node
	left := size - 1
	for left >= 4 && depth >= 3 && len(kids) < maxBlock && g.below(8) != 0 {
		kid := g.statement(4+int(g.below(int64(left-3))), depth-1)
		kids = append(kids, kid)
		left -= len(kid)
	}
	return block(kids...)
}

// hook: a right one of at most so many nodes.
func (g *maker) hook(size int) []impl.Node {
	return g.block(size, impl.MaxDepth)
}

// turned: the list with one node, or one field of it, another one; it may still be right.
func (g *maker) turned(l []impl.Node) []impl.Node {
	other := slices.Clone(l)
	at := int(g.below(int64(len(l))))
	n := &other[at]
	words := append(append([]string{"", "Owed", "owed", "till", "not"}, operatorList()...), functionList()...)
	switch g.below(8) {
	case 0:
		n.Kind = g.below(29)
	case 1:
		n.Text = words[g.below(int64(len(words)))]
	case 2:
		n.More = words[g.below(3)]
	case 3:
		n.N = g.within(-1, 101)
	case 4:
		n.Many += g.within(-1, 1)
	case 5:
		return slices.Delete(other, at, at+1)
	case 6:
		return slices.Insert(other, at, rightTree(kindList()[g.below(22)])...)
	default:
		return slices.Replace(other, at, at+1, rightTree(kindList()[g.below(22)])...)
	}
	return other
}

// product: a right one.
func (g *maker) product() impl.Product {
	p := impl.Product{Name: g.name(), Basis: 1 + g.below(3), Open: g.hook(150), Pay: g.hook(60), Tick: g.hook(20)}
	for i := range g.within(0, 4) {
		p.Contras = append(p.Contras, "c"+strconv.FormatInt(i, 10))
	}
	for i := range g.within(1, 6) {
		p.Slots = append(p.Slots, "s"+strconv.FormatInt(i, 10))
	}
	for i := range g.within(0, 8) {
		kind := 1 + g.below(5)
		low, high := bounds(kind)
		least := g.within(low, high)
		p.Params = append(p.Params, impl.Param{Name: "p" + strconv.FormatInt(i, 10), Type: kind, Low: least, High: g.within(least, high)})
	}
	return p
}
