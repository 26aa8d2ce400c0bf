package tests

import (
	"math"
	"slices"
	"strconv"
	"strings"
	"testing"

	"loop.example/g00221/impl"
)

// plainProduct: one with something in each list.
func plainProduct() impl.Product {
	return impl.Product{
		Name: "plain", Basis: impl.BasisAct360, Contras: []string{"till", "income"}, Slots: []string{"owed", "due"},
		Params: []impl.Param{{Name: "yearly", Type: impl.TypeRate, High: 500000}, {Name: "top", Type: impl.TypeMoney, Low: 100, High: 200}},
		Open:   block(post(plain(impl.KAmount), "till", "owed")),
		Pay:    block(let("rest", bal("owed")), reject(3)),
		Tick:   block(next(plain(impl.KToday))),
	}
}

// productWith: the plain one, changed.
func productWith(change func(p *impl.Product)) impl.Product {
	p := plainProduct()
	change(&p)
	return p
}

// sameProduct: by the lists' items, told apart from what is asked of the program.
func sameProduct(a impl.Product, b impl.Product) bool {
	return a.Name == b.Name && a.Basis == b.Basis && slices.Equal(a.Contras, b.Contras) && slices.Equal(a.Slots, b.Slots) &&
		slices.Equal(a.Params, b.Params) && slices.Equal(a.Open, b.Open) && slices.Equal(a.Pay, b.Pay) && slices.Equal(a.Tick, b.Tick)
}

// copiedProduct: with lists of its own.
func copiedProduct(p impl.Product) impl.Product {
	p.Contras, p.Slots, p.Params = slices.Clone(p.Contras), slices.Clone(p.Slots), slices.Clone(p.Params)
	p.Open, p.Pay, p.Tick = slices.Clone(p.Open), slices.Clone(p.Pay), slices.Clone(p.Tick)
	return p
}

// numberedNames: so many, no two alike.
func numberedNames(letter string, count int) []string {
	var list []string
	for i := range count {
		list = append(list, letter+strconv.Itoa(i))
	}
	return list
}

// numberedParams: so many, of each type in turn, in all of its bounds.
func numberedParams(count int) []impl.Param {
	var list []impl.Param
	for i, name := range numberedNames("p", count) {
		kind := int64(1 + i%5)
		low, high := bounds(kind)
		list = append(list, impl.Param{Name: name, Type: kind, Low: low, High: high})
	}
	return list
}

// paramOf: the plain product with that Param alone.
func paramOf(kind int64, low int64, high int64) impl.Product {
	return productWith(func(p *impl.Product) {
		p.Params = []impl.Param{{Name: "a", Type: kind, Low: low, High: high}}
	})
}

// hooksOf: the plain product with that tree as each hook in turn.
func hooksOf(l []impl.Node) []impl.Product {
	return []impl.Product{
		productWith(func(p *impl.Product) { p.Open = slices.Clone(l) }),
		productWith(func(p *impl.Product) { p.Pay = slices.Clone(l) }),
		productWith(func(p *impl.Product) { p.Tick = slices.Clone(l) }),
	}
}

// greatest: a product with as much of all as may be.
func greatest() impl.Product {
	long := func(letter string) string { return letter + strings.Repeat("_", 19) }
	line := post(bal(long("w")), long("x"), long("y"))
	hook := block(append(slices.Repeat([][]impl.Node{line}, 39), block(slices.Repeat([][]impl.Node{line}, 35)...))...)
	p := impl.Product{Name: long("n"), Basis: 3, Open: hook, Pay: slices.Clone(hook), Tick: slices.Clone(hook)}
	for _, letter := range []string{"a", "b", "c", "d"} {
		p.Contras = append(p.Contras, long(letter))
	}
	for _, letter := range []string{"e", "f", "g", "h", "i", "j"} {
		p.Slots = append(p.Slots, long(letter))
	}
	for _, letter := range []string{"k", "l", "m", "n", "o", "p", "q", "r"} {
		p.Params = append(p.Params, impl.Param{Name: long(letter), Type: impl.TypeMoney, Low: -impl.MaxMoney, High: -impl.MaxMoney})
	}
	return p
}

// rightProducts: ordinary ones, and those at each edge.
func rightProducts() []impl.Product {
	list := []impl.Product{
		plainProduct(), greatest(),
		productWith(func(p *impl.Product) { p.Basis = 1 }), productWith(func(p *impl.Product) { p.Basis = 3 }),
		productWith(func(p *impl.Product) { p.Name = "a" }), productWith(func(p *impl.Product) { p.Name = strings.Repeat("a", 20) }),
		// A product's own name is not one of those that a hook names.
		productWith(func(p *impl.Product) { p.Name = "till" }), productWith(func(p *impl.Product) { p.Name = "owed" }),
		productWith(func(p *impl.Product) { p.Name = "top" }),
		productWith(func(p *impl.Product) { p.Contras, p.Params = nil, nil }),
		productWith(func(p *impl.Product) { p.Contras, p.Params = []string{}, []impl.Param{} }),
		productWith(func(p *impl.Product) { p.Contras = numberedNames("c", 4) }),
		productWith(func(p *impl.Product) { p.Slots = numberedNames("s", 1) }),
		productWith(func(p *impl.Product) { p.Slots = numberedNames("s", 6) }),
		productWith(func(p *impl.Product) { p.Params = numberedParams(8) }),
		// In a hook names stand that the product has not: its chapter looks at that.
		productWith(func(p *impl.Product) { p.Contras, p.Slots, p.Params = nil, []string{"z"}, nil }),
	}
	for kind := int64(1); kind <= 5; kind++ {
		low, high := bounds(kind)
		list = append(list, paramOf(kind, low, high), paramOf(kind, low, low), paramOf(kind, high, high), paramOf(kind, low+1, high), paramOf(kind, low, high-1))
	}
	for _, kind := range kindList() {
		list = append(list, hooksOf(hookWith(rightTree(kind)))...)
	}
	list = append(list, hooksOf(nodesOf(impl.MaxNodes))...)
	return append(list, hooksOf(deepBlock(impl.MaxDepth))...)
}

// wrongProducts: each has one fault.
func wrongProducts() []impl.Product {
	list := []impl.Product{
		{},
		productWith(func(p *impl.Product) { p.Contras = numberedNames("c", 5) }),
		productWith(func(p *impl.Product) { p.Contras = numberedNames("c", 500) }),
		productWith(func(p *impl.Product) { p.Slots = nil }),
		productWith(func(p *impl.Product) { p.Slots = numberedNames("s", 7) }),
		productWith(func(p *impl.Product) { p.Slots = numberedNames("s", 500) }),
		productWith(func(p *impl.Product) { p.Params = numberedParams(9) }),
		productWith(func(p *impl.Product) { p.Params = numberedParams(500) }),
		productWith(func(p *impl.Product) { p.Contras[1] = "till" }), productWith(func(p *impl.Product) { p.Slots[1] = "owed" }),
		productWith(func(p *impl.Product) { p.Params[1].Name = "yearly" }), productWith(func(p *impl.Product) { p.Slots[0] = "income" }),
		productWith(func(p *impl.Product) { p.Contras[0] = "due" }), productWith(func(p *impl.Product) { p.Params[0].Name = "till" }),
		productWith(func(p *impl.Product) { p.Params[1].Name = "due" }), productWith(func(p *impl.Product) { p.Contras[1] = "top" }),
	}
	for _, basis := range []int64{0, -1, 4, 5, math.MaxInt64, math.MinInt64, 1<<32 + 1} {
		list = append(list, productWith(func(p *impl.Product) { p.Basis = basis }))
	}
	for _, kind := range []int64{0, -1, 6, 7, 27, math.MaxInt64, math.MinInt64, 1<<32 + 1} {
		list = append(list, paramOf(kind, 0, 0), paramOf(kind, 0, 1), paramOf(kind, 1, 0))
	}
	for kind := int64(1); kind <= 5; kind++ {
		low, high := bounds(kind)
		list = append(list, paramOf(kind, low-1, high), paramOf(kind, low, high+1), paramOf(kind, high, low), paramOf(kind, low+1, low),
			paramOf(kind, low-1, low-1), paramOf(kind, high+1, high+1), paramOf(kind, math.MinInt64, math.MaxInt64))
	}
	for _, name := range append(noNames(), reservedList()...) {
		list = append(list, namedWrong(name)...)
	}
	for _, l := range [][]impl.Node{nil, {}, {{}}, rightTree(impl.KIf), one(), append(block(), block()...), block(one()), nodesOf(impl.MaxNodes + 1),
		deepBlock(impl.MaxDepth + 1), block(let("bank", one())), block(slices.Repeat([][]impl.Node{reject(1)}, 41)...), {{Kind: impl.KBlock, Many: 1}}} {
		list = append(list, hooksOf(l)...)
	}
	return list
}

// namedWrong: what is no name, or reserved, at each place of a name, the last one of a list too.
func namedWrong(name string) []impl.Product {
	return []impl.Product{
		productWith(func(p *impl.Product) { p.Name = name }), productWith(func(p *impl.Product) { p.Contras[0] = name }),
		productWith(func(p *impl.Product) { p.Contras[1] = name }), productWith(func(p *impl.Product) { p.Slots[0] = name }),
		productWith(func(p *impl.Product) { p.Slots[1] = name }), productWith(func(p *impl.Product) { p.Params[0].Name = name }),
		productWith(func(p *impl.Product) { p.Params[1].Name = name }),
	}
}

func TestProductRight(t *testing.T) {
	for i, p := range rightProducts() {
		before := copiedProduct(p)
		if !impl.ProductRight(p) {
			t.Errorf("right product %d is not right: %.300v", i, p)
		}
		if !sameProduct(p, before) {
			t.Errorf("right product %d was changed", i)
		}
	}
	for i, p := range wrongProducts() {
		before := copiedProduct(p)
		if impl.ProductRight(p) {
			t.Errorf("wrong product %d is right: %.300v", i, p)
		}
		if !sameProduct(p, before) {
			t.Errorf("wrong product %d was changed", i)
		}
	}
}

// others: products that differ from the plain one in one field of it, or of an item, or by one item.
func others() []impl.Product {
	changes := []func(p *impl.Product){
		func(p *impl.Product) { p.Name = "plan" }, func(p *impl.Product) { p.Basis = 1 },
		func(p *impl.Product) { p.Contras[0] = "tilt" }, func(p *impl.Product) { p.Contras = p.Contras[:1] },
		func(p *impl.Product) { p.Contras = nil }, func(p *impl.Product) { p.Contras = append(p.Contras, "more") },
		func(p *impl.Product) { slices.Reverse(p.Contras) },
		func(p *impl.Product) { p.Slots[1] = "dues" }, func(p *impl.Product) { p.Slots = p.Slots[1:] },
		func(p *impl.Product) { p.Slots = nil }, func(p *impl.Product) { p.Slots = append(p.Slots, "more") },
		func(p *impl.Product) { slices.Reverse(p.Slots) },
		func(p *impl.Product) { p.Params[0].Name = "monthly" }, func(p *impl.Product) { p.Params[1].Type = impl.TypeInt },
		func(p *impl.Product) { p.Params[0].Low = 1 }, func(p *impl.Product) { p.Params[1].High = 201 },
		func(p *impl.Product) { p.Params = p.Params[:1] }, func(p *impl.Product) { p.Params = nil },
		func(p *impl.Product) { p.Params = append(p.Params, impl.Param{}) }, func(p *impl.Product) { slices.Reverse(p.Params) },
		func(p *impl.Product) { p.Open, p.Pay = p.Pay, p.Open }, func(p *impl.Product) { p.Pay, p.Tick = p.Tick, p.Pay },
		func(p *impl.Product) { p.Contras, p.Slots = p.Slots, p.Contras },
	}
	hooks := []func(p *impl.Product) *[]impl.Node{
		func(p *impl.Product) *[]impl.Node { return &p.Open }, func(p *impl.Product) *[]impl.Node { return &p.Pay },
		func(p *impl.Product) *[]impl.Node { return &p.Tick },
	}
	for _, hook := range hooks {
		changes = append(changes,
			func(p *impl.Product) { *hook(p) = nil },
			func(p *impl.Product) { *hook(p) = block() },
			func(p *impl.Product) { *hook(p) = append(*hook(p), impl.Node{}) },
			func(p *impl.Product) { *hook(p) = (*hook(p))[1:] },
			func(p *impl.Product) { (*hook(p))[1].Kind++ },
			func(p *impl.Product) { (*hook(p))[1].Text += "x" },
			func(p *impl.Product) { (*hook(p))[1].More += "x" },
			func(p *impl.Product) { (*hook(p))[1].N-- },
			func(p *impl.Product) { (*hook(p))[0].Many++ },
		)
	}
	var list []impl.Product
	for _, change := range changes {
		list = append(list, productWith(change))
	}
	return list
}

func TestProductSame(t *testing.T) {
	plain := plainProduct()
	for i, p := range others() {
		before := copiedProduct(p)
		if impl.ProductSame(plain, p) || impl.ProductSame(p, plain) {
			t.Errorf("product %d is the same as another one: %v", i, p)
		}
		if !impl.ProductSame(p, copiedProduct(p)) {
			t.Errorf("product %d is not the same as itself: %v", i, p)
		}
		if !sameProduct(p, before) || !sameProduct(plain, plainProduct()) {
			t.Errorf("product %d was changed", i)
		}
	}
	all := rightProducts()
	for i, a := range all {
		for j, b := range all {
			if got := impl.ProductSame(a, b); got != sameProduct(a, b) {
				t.Errorf("of right products %d and %d ProductSame is %v", i, j, got)
			}
		}
	}
	none := productWith(func(p *impl.Product) { p.Contras, p.Params = nil, nil })
	empty := productWith(func(p *impl.Product) { p.Contras, p.Params = make([]string, 0, 5), []impl.Param{} })
	if !impl.ProductSame(none, empty) || !impl.ProductSame(empty, none) {
		t.Error("an empty list is not the same as none")
	}
	roomy := productWith(func(p *impl.Product) { p.Open = append(make([]impl.Node, 0, 50), p.Open...) })
	if !impl.ProductSame(roomy, plain) {
		t.Error("a list with more room is another one")
	}
}

func TestHookOf(t *testing.T) {
	for i, p := range append(rightProducts(), others()...) {
		before := copiedProduct(p)
		hooks := []struct {
			hook int64
			want []impl.Node
		}{
			{impl.HookOpen, p.Open}, {impl.HookPay, p.Pay}, {impl.HookTick, p.Tick},
			{0, nil}, {-1, nil}, {4, nil}, {5, nil}, {math.MaxInt64, nil}, {math.MinInt64, nil}, {1<<32 + 1, nil}, {256 + 2, nil},
		}
		for _, c := range hooks {
			if got := impl.HookOf(p, c.hook); !slices.Equal(got, c.want) {
				t.Errorf("product %d: hook %d is %v", i, c.hook, got)
			}
		}
		if !sameProduct(p, before) {
			t.Errorf("product %d was changed", i)
		}
	}
	if got := impl.HookOf(impl.Product{}, impl.HookOpen); len(got) != 0 {
		t.Errorf("a hook of the zero product is %v", got)
	}
}

// spoilNodes writes over all that a list has room for.
func spoilNodes(l []impl.Node) {
	l = l[:cap(l)]
	for i := range l {
		l[i] = impl.Node{Kind: 77, Text: "spoilt", More: "spoilt", N: 7, Many: 7}
	}
}

// roomyProduct: with room behind each list, which no call may fill.
func roomyProduct() impl.Product {
	p := plainProduct()
	p.Contras = append(make([]string, 0, 9), p.Contras...)
	p.Slots = append(make([]string, 0, 9), p.Slots...)
	p.Params = append(make([]impl.Param, 0, 9), p.Params...)
	p.Open = append(make([]impl.Node, 0, 200), p.Open...)
	p.Pay = append(make([]impl.Node, 0, 200), p.Pay...)
	p.Tick = append(make([]impl.Node, 0, 200), p.Tick...)
	return p
}

// roomUsed: does something stand in the room behind a list?
func roomUsed(p impl.Product) bool {
	for _, list := range [][]string{p.Contras, p.Slots} {
		for _, name := range list[len(list):cap(list)] {
			if name != "" {
				return true
			}
		}
	}
	for _, a := range p.Params[len(p.Params):cap(p.Params)] {
		if a != (impl.Param{}) {
			return true
		}
	}
	for _, l := range [][]impl.Node{p.Open, p.Pay, p.Tick} {
		for _, n := range l[len(l):cap(l)] {
			if n != (impl.Node{}) {
				return true
			}
		}
	}
	return false
}

func TestProductIsNotChanged(t *testing.T) {
	p := roomyProduct()
	impl.ProductRight(p)
	impl.ProductText(p)
	impl.ProductSame(p, p)
	for hook := int64(0); hook < 5; hook++ {
		impl.HookOf(p, hook)
		impl.NodesRight(impl.HookOf(p, hook))
	}
	impl.NodesRight(p.Open)
	if !sameProduct(p, plainProduct()) || roomUsed(p) {
		t.Errorf("what was handed in is now %v", p)
	}
}

// The nodes of a hook share no list and no text with the product, nor with another answer.
func TestHookOfIsNew(t *testing.T) {
	for hook := int64(impl.HookOpen); hook <= impl.HookTick; hook++ {
		p := roomyProduct()
		first, second := impl.HookOf(p, hook), impl.HookOf(p, hook)
		spoilNodes(first)
		if !sameProduct(p, plainProduct()) || roomUsed(p) {
			t.Errorf("hook %d lies in the product", hook)
		}
		if !slices.Equal(second, impl.HookOf(plainProduct(), hook)) {
			t.Errorf("hook %d lies in another answer", hook)
		}
	}
	p := plainProduct()
	name := strings.Clone("from_name_of_its_own")
	p.Open = block(post(bal(name), name, name))
	for _, n := range impl.HookOf(p, impl.HookOpen) {
		if shares(n.Text, name) || shares(n.More, name) {
			t.Error("a name lies in what was handed in")
		}
	}
}

// An answer lies in no memory of the text, and no two lists of it in one.
func TestProductReadIsNew(t *testing.T) {
	text := impl.ProductText(plainProduct())
	first, second := impl.ProductRead(text).Product, impl.ProductRead(text).Product
	texts := append(slices.Concat(first.Contras, first.Slots), first.Name)
	for _, a := range first.Params {
		texts = append(texts, a.Name)
	}
	for _, n := range slices.Concat(first.Open, first.Pay, first.Tick) {
		texts = append(texts, n.Text, n.More)
	}
	for _, part := range texts {
		if shares(part, text) {
			t.Errorf("%q lies in the text that was handed in", part)
		}
	}
	spoilNodes(first.Open)
	if !slices.Equal(first.Pay, plainProduct().Pay) || !slices.Equal(first.Tick, plainProduct().Tick) {
		t.Error("two hooks of one answer share a list")
	}
	spoilNodes(first.Pay)
	if !slices.Equal(first.Tick, plainProduct().Tick) {
		t.Error("two hooks of one answer share a list")
	}
	spoilNodes(first.Tick)
	contras := first.Contras[:cap(first.Contras)]
	for i := range contras {
		contras[i] = "spoilt"
	}
	if !slices.Equal(first.Slots, plainProduct().Slots) || !sameProduct(second, plainProduct()) {
		t.Error("two lists, or two answers, share something")
	}
}
