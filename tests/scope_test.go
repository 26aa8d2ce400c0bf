package tests

import (
	"slices"

	"loop.example/g00221/impl"
)

// scope: a right hook of a product, each node with the place of the one that it stands in, and those of its kids, so
// that what is seen at a place is found by going up from it, and not by going through the hook.
type scope struct {
	p      impl.Product
	hook   int64
	nodes  []impl.Node
	above  []int
	kids   [][]int
	types  []int64
	looked []int
}

func scopeOf(p impl.Product, hook int64) *scope {
	s := &scope{p: p, hook: hook, nodes: [][]impl.Node{p.Open, p.Pay, p.Tick}[hook-1]}
	s.above, s.kids, s.types = make([]int, len(s.nodes)), make([][]int, len(s.nodes)), make([]int64, len(s.nodes))
	var open []int
	for at, n := range s.nodes {
		s.above[at] = -1
		if len(open) > 0 {
			s.above[at] = open[len(open)-1]
			s.kids[s.above[at]] = append(s.kids[s.above[at]], at)
		}
		if n.Many > 0 {
			open = append(open, at)
		}
		for len(open) > 0 && s.whole(open[len(open)-1]) {
			open = open[:len(open)-1]
		}
	}
	s.look(0)
	return s
}

// whole: have all its kids come?
func (s *scope) whole(at int) bool {
	return int64(len(s.kids[at])) == s.nodes[at].Many
}

// look lists the places of a tree in the order in which they are looked at.
func (s *scope) look(at int) {
	kind := s.nodes[at].Kind
	for i, kid := range s.kids[at] {
		if i == 1 && (kind == impl.KIf || kind == impl.KRepeat) {
			s.looked = append(s.looked, at)
		}
		s.look(kid)
	}
	if kind != impl.KIf && kind != impl.KRepeat {
		s.looked = append(s.looked, at)
	}
}

// lets: the places of those whose variables are seen at a place, the first one first.
func (s *scope) lets(at int) []int {
	var list []int
	for at > 0 {
		up := s.above[at]
		for _, kid := range s.kids[up] {
			if kid < at && s.nodes[kid].Kind == impl.KLet {
				list = append(list, kid)
			}
		}
		at = up
	}
	slices.Sort(list)
	return list
}

// letOf: the place of the KLet whose variable is named there, or -1, if it is a Param.
func (s *scope) letOf(at int) int {
	for _, place := range s.lets(at) {
		if s.nodes[place].Text == s.nodes[at].Text {
			return place
		}
	}
	return -1
}

// variable: the type of the one of that name that is seen at a place, or 0.
func (s *scope) variable(at int, name string) int64 {
	for _, place := range s.lets(at) {
		if s.nodes[place].Text == name {
			return s.typeAt(place + 1)
		}
	}
	return 0
}

// vars: all that are seen at a place.
func (s *scope) vars(at int) []impl.Var {
	var list []impl.Var
	for _, place := range s.lets(at) {
		list = append(list, impl.Var{Name: s.nodes[place].Text, Type: s.typeAt(place + 1)})
	}
	return list
}

func (s *scope) param(name string) int64 {
	for _, a := range s.p.Params {
		if a.Name == name {
			return a.Type
		}
	}
	return 0
}

// typeAt: of the expression at a place, 0 of one that has none.
func (s *scope) typeAt(at int) int64 {
	if s.types[at] == 0 {
		s.types[at] = s.freshType(at)
	}
	return s.types[at]
}

func (s *scope) freshType(at int) int64 {
	n := s.nodes[at]
	var kids []int64
	for _, kid := range s.kids[at] {
		kids = append(kids, s.typeAt(kid))
	}
	switch n.Kind {
	case impl.KName:
		return max(s.variable(at, n.Text), s.param(n.Text))
	case impl.KOp:
		return opTypeOf(n.Text, kids[0], kids[1])
	case impl.KCall:
		if types := typesIn(callTable()[n.Text]); slices.Equal(types[1:], kids) {
			return types[0]
		}
		return 0
	case impl.KNot:
		return map[int64]int64{impl.TypeBool: impl.TypeBool}[kids[0]]
	}
	return map[int64]int64{impl.KInt: 1, impl.KMoney: 2, impl.KRate: 3, impl.KDate: 4, impl.KBool: 5, impl.KBal: 2, impl.KToday: 4,
		impl.KSince: 4, impl.KCount: 1, impl.KAmount: 2}[n.Kind]
}

// wrongName: a name at the node that may not stand there.
func (s *scope) wrongName(at int) bool {
	n := s.nodes[at]
	spots := append(slices.Clone(s.p.Slots), s.p.Contras...)
	switch n.Kind {
	case impl.KName:
		return s.variable(at, n.Text) == 0 && s.param(n.Text) == 0
	case impl.KBal:
		return !slices.Contains(s.p.Slots, n.Text)
	case impl.KSet:
		return s.variable(at, n.Text) == 0
	case impl.KPost:
		return !slices.Contains(spots, n.Text) || !slices.Contains(spots, n.More)
	}
	return false
}

// wrongType: of a node whose names may stand there, and whose kids have no fault.
func (s *scope) wrongType(at int) bool {
	n := s.nodes[at]
	first := func() int64 { return s.typeAt(at + 1) }
	switch n.Kind {
	case impl.KOp, impl.KNot, impl.KCall:
		return s.typeAt(at) == 0
	case impl.KAmount, impl.KReject:
		return s.hook == impl.HookTick
	case impl.KIf:
		return first() != impl.TypeBool
	case impl.KSet:
		return first() != s.variable(at, n.Text)
	case impl.KPost:
		return first() != impl.TypeMoney
	case impl.KNext:
		return first() != impl.TypeDate || s.hook == impl.HookPay
	case impl.KRepeat:
		return first() != impl.TypeInt
	}
	return false
}

// code: of one node, all that is looked at ahead of it having no fault.
func (s *scope) code(at int) int64 {
	n := s.nodes[at]
	isLet := n.Kind == impl.KLet
	switch {
	case s.wrongName(at):
		return impl.ErrName
	case isLet && (s.variable(at, n.Text) != 0 || s.param(n.Text) != 0):
		return impl.ErrThere
	case isLet && len(s.lets(at)) >= impl.MaxVars:
		return impl.ErrFull
	case s.wrongType(at):
		return impl.ErrType
	}
	return impl.OK
}

// checkOf: what ProductCheck tells of a right product.
func checkOf(p impl.Product) impl.CheckOut {
	for _, hook := range hookList() {
		s := scopeOf(p, hook)
		for _, at := range s.looked {
			if code := s.code(at); code != impl.OK {
				return impl.CheckOut{Hook: hook, At: int64(at), Code: code}
			}
		}
	}
	return impl.CheckOut{}
}

// hookList: the three.
func hookList() []int64 {
	return []int64{impl.HookOpen, impl.HookPay, impl.HookTick}
}
