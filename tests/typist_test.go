package tests

import (
	"slices"
	"strconv"

	"loop.example/g00221/impl"
)

// typist makes products without a fault, by a maker's numbers.
type typist struct {
	*maker
	p    impl.Product
	hook int64
	seen []impl.Var
}

// namePool: names for variables, some of which are those of slots and contras, or of Params.
func namePool() []string {
	list := []string{"owed", "till", "a", "b", "c", "fine", "rest", "n", "m", "r", "d", "y"}
	return append(list, numberedNames("v", 40)...)
}

// product: the empty one with hooks that have no fault.
func (g *typist) product() impl.Product {
	g.p = emptyProduct()
	for _, g.hook = range hookList() {
		g.seen = nil
		*hookIn(&g.p, g.hook) = g.block(30+int(g.below(120)), impl.MaxDepth)
	}
	return g.p
}

// hookIn: where a product keeps that hook.
func hookIn(p *impl.Product, hook int64) *[]impl.Node {
	return []*[]impl.Node{&p.Open, &p.Pay, &p.Tick}[hook-1]
}

// pick: one of a list that is not empty.
func (g *typist) pick(list []string) string {
	return list[g.below(int64(len(list)))]
}

// names: of the variables that are seen, and the Params, that are of that type.
func (g *typist) names(kind int64) []string {
	var list []string
	for _, v := range g.seen {
		if v.Type == kind {
			// Twice, so that variables are named more often than Params.
			list = append(list, v.Name, v.Name)
		}
	}
	for _, a := range g.p.Params {
		if a.Type == kind {
			list = append(list, a.Name)
		}
	}
	return list
}

// leaf: an expression of that type in one node.
func (g *typist) leaf(kind int64) []impl.Node {
	low, high := bounds(kind)
	choices := [][]impl.Node{number(kind, g.within(low, high))}
	switch kind {
	case impl.TypeInt:
		choices = append(choices, plain(impl.KCount))
	case impl.TypeMoney:
		choices = append(choices, bal(g.pick(g.p.Slots)))
		if g.hook != impl.HookTick {
			choices = append(choices, plain(impl.KAmount))
		}
	case impl.TypeDate:
		choices = append(choices, plain(impl.KToday), plain(impl.KSince))
	}
	if list := g.names(kind); len(list) > 0 {
		choices = append(choices, named(g.pick(list)), named(g.pick(list)))
	}
	return choices[g.below(int64(len(choices)))]
}

// value: an expression of that type, of at most so many nodes and such a depth.
func (g *typist) value(kind int64, size int, depth int) []impl.Node {
	if size < 5 || depth < 2 || g.below(4) == 0 {
		return g.leaf(kind)
	}
	if kind == impl.TypeBool && g.below(4) == 0 {
		return not(g.value(kind, size-1, depth-1))
	}
	var forms []impl.Node
	var kids [][]int64
	for _, word := range functionList() {
		if types := typesIn(callTable()[word]); types[0] == kind {
			forms, kids = append(forms, impl.Node{Kind: impl.KCall, Text: word}), append(kids, types[1:])
		}
	}
	for _, word := range operatorList() {
		for _, row := range opTable()[word] {
			if types := typesIn(row); types[2] == kind {
				forms, kids = append(forms, impl.Node{Kind: impl.KOp, Text: word}), append(kids, types[:2])
			}
		}
	}
	if len(forms) == 0 {
		return g.leaf(kind)
	}
	i := g.below(int64(len(forms)))
	var trees [][]impl.Node
	for _, kid := range kids[i] {
		trees = append(trees, g.value(kid, (size-1)/len(kids[i]), depth-1))
	}
	return tree(forms[i], trees...)
}

// isSeen: is there a variable or a Param of that name?
func (g *typist) isSeen(name string) bool {
	list := slices.Concat(g.names(1), g.names(2), g.names(3), g.names(4), g.names(5))
	return slices.Contains(list, name)
}

// statement: of at least 4 nodes that may be, and a depth of at least 2.
func (g *typist) statement(size int, depth int) []impl.Node {
	kind := 1 + g.below(5)
	switch g.below(9) {
	case 0, 1, 2:
		name := g.pick(namePool())
		if len(g.seen) >= impl.MaxVars || g.isSeen(name) {
			break
		}
		kid := g.value(kind, min(size-1, 9), depth-1)
		g.seen = append(g.seen, impl.Var{Name: name, Type: kind})
		return let(name, kid)
	case 3:
		if len(g.seen) > 0 {
			v := g.seen[g.below(int64(len(g.seen)))]
			return set(v.Name, g.value(v.Type, min(size-1, 9), depth-1))
		}
	case 4:
		third := (size - 1) / 3
		return choice(g.value(impl.TypeBool, third, depth-1), g.block(third, depth-1), g.block(third, depth-1))
	case 5:
		return repeat(g.value(impl.TypeInt, (size-1)/2, depth-1), g.block((size-1)/2, depth-1))
	case 6:
		return g.block(size, depth)
	case 7:
		if g.hook != impl.HookPay {
			return next(g.value(impl.TypeDate, min(size-1, 9), depth-1))
		}
	case 8:
		if g.hook != impl.HookTick {
			return reject(g.within(1, 99))
		}
	}
	spots := append(slices.Clone(g.p.Slots), g.p.Contras...)
	return post(g.value(impl.TypeMoney, min(size-1, 9), depth-1), g.pick(spots), g.pick(spots))
}

func (g *typist) block(size int, depth int) []impl.Node {
	ahead := len(g.seen)
	var kids [][]impl.Node
	left := size - 1
	for left >= 4 && depth >= 3 && len(kids) < maxBlock && g.below(12) != 0 {
		kid := g.statement(4+int(g.below(int64(left-3))), depth-1)
		kids = append(kids, kid)
		left -= len(kid)
	}
	g.seen = g.seen[:ahead]
	return block(kids...)
}

// altered: a right product with one word of one hook another one, or a node, or with two hooks exchanged; it may still
// be without a fault.
func (g *typist) altered(p impl.Product) impl.Product {
	other := copiedProduct(p)
	hook := *hookIn(&other, 1+g.below(3))
	at := g.below(int64(len(hook)))
	n := &hook[at]
	words := slices.Concat(namePool(), []string{"owed", "due", "till", "income", "zzz", "plain"})
	switch g.below(9) {
	case 0:
		other.Open, other.Tick = other.Tick, other.Open
	case 1:
		other.Pay, other.Open = other.Open, other.Pay
	case 2:
		if n.More != "" {
			n.More = g.pick(words)
		}
	case 3:
		g.rename(hook)
	default:
		g.reword(n, words)
	}
	return other
}

// rename: one of the hook's KLets has the name of another one, or of a Param.
func (g *typist) rename(hook []impl.Node) {
	names := []string{g.p.Params[g.below(5)].Name}
	var places []int
	for at, n := range hook {
		if n.Kind == impl.KLet {
			places, names = append(places, at), append(names, n.Text)
		}
	}
	if len(places) > 0 {
		hook[places[g.below(int64(len(places)))]].Text = g.pick(names)
	}
}

// reword: another word in a node, or, if it has none, another node without kids.
func (g *typist) reword(n *impl.Node, words []string) {
	switch {
	case n.Kind == impl.KOp:
		n.Text = g.pick(operatorList())
	case n.Kind == impl.KCall:
		n.Text = g.pick(functionList())
	case n.Text != "":
		n.Text = g.pick(words)
	case n.Kind <= impl.KAmount:
		*n = g.leaf(1 + g.below(5))[0]
	}
}

// emptyProduct: with two of all but Params, of which it has one of each type, named by its first letter (n for an int,
// y for a bool), and with nothing in its hooks.
func emptyProduct() impl.Product {
	p := impl.Product{Name: "plain", Basis: impl.BasisAct365, Contras: []string{"till", "income"}, Slots: []string{"owed", "due"},
		Open: block(), Pay: block(), Tick: block()}
	for i, name := range []string{"n", "m", "r", "d", "y"} {
		kind := int64(i + 1)
		low, high := bounds(kind)
		p.Params = append(p.Params, impl.Param{Name: name, Type: kind, Low: low, High: high})
	}
	return p
}

// madeProducts: so many without a fault.
func madeProducts(count int) ([]impl.Product, *typist) {
	g := &typist{maker: &maker{nums: someNums(30011)}}
	var list []impl.Product
	for i := range count {
		p := g.product()
		p.Name = "made" + strconv.Itoa(i)
		list = append(list, p)
	}
	return list, g
}
