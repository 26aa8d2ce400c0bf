package tests

import (
	"math"
	"slices"
	"strconv"
	"strings"
	"testing"

	"loop.example/g00221/impl"
)

// maxBlock: how many kids a block has at most.
const maxBlock = 40

// reservedList: as the document lists them.
func reservedList() []string {
	return []string{"and", "amount", "bal", "bank", "basis", "bool", "contra", "count", "date", "days", "else", "false",
		"from", "if", "instalment", "int", "interest", "later", "least", "let", "money", "most", "next", "not", "open",
		"or", "param", "pay", "post", "product", "rate", "reject", "repeat", "set", "share", "since", "slot", "tick",
		"to", "today", "true"}
}

// operatorList and functionList: in the document's order.
func operatorList() []string {
	return []string{"+", "-", "*", "<", "<=", "=", "and", "or"}
}

func functionList() []string {
	return []string{"interest", "instalment", "later", "days", "least", "most", "share"}
}

// tree: a node with these kids, Many as many as there are.
func tree(n impl.Node, kids ...[]impl.Node) []impl.Node {
	n.Many = int64(len(kids))
	return append([]impl.Node{n}, slices.Concat(kids...)...)
}

// The trees of each kind, by what they are made of.
func number(kind int64, n int64) []impl.Node { return tree(impl.Node{Kind: kind, N: n}) }
func plain(kind int64) []impl.Node           { return tree(impl.Node{Kind: kind}) }
func named(name string) []impl.Node          { return tree(impl.Node{Kind: impl.KName, Text: name}) }
func bal(name string) []impl.Node            { return tree(impl.Node{Kind: impl.KBal, Text: name}) }
func not(kid []impl.Node) []impl.Node        { return tree(impl.Node{Kind: impl.KNot}, kid) }
func reject(n int64) []impl.Node             { return tree(impl.Node{Kind: impl.KReject, N: n}) }
func next(kid []impl.Node) []impl.Node       { return tree(impl.Node{Kind: impl.KNext}, kid) }
func block(kids ...[]impl.Node) []impl.Node  { return tree(impl.Node{Kind: impl.KBlock}, kids...) }

func op(a []impl.Node, text string, b []impl.Node) []impl.Node {
	return tree(impl.Node{Kind: impl.KOp, Text: text}, a, b)
}

func call(text string, kids ...[]impl.Node) []impl.Node {
	return tree(impl.Node{Kind: impl.KCall, Text: text}, kids...)
}

func let(name string, kid []impl.Node) []impl.Node {
	return tree(impl.Node{Kind: impl.KLet, Text: name}, kid)
}

func set(name string, kid []impl.Node) []impl.Node {
	return tree(impl.Node{Kind: impl.KSet, Text: name}, kid)
}

func choice(kid []impl.Node, yes []impl.Node, no []impl.Node) []impl.Node {
	return tree(impl.Node{Kind: impl.KIf}, kid, yes, no)
}

func post(kid []impl.Node, from string, to string) []impl.Node {
	return tree(impl.Node{Kind: impl.KPost, Text: from, More: to}, kid)
}

func repeat(kid []impl.Node, body []impl.Node) []impl.Node {
	return tree(impl.Node{Kind: impl.KRepeat}, kid, body)
}

// one: an expression to fill in where any will do.
func one() []impl.Node {
	return number(impl.KInt, 1)
}

// kindList: each kind that there is.
func kindList() []int64 {
	return []int64{impl.KInt, impl.KMoney, impl.KRate, impl.KDate, impl.KBool, impl.KName, impl.KBal, impl.KToday,
		impl.KSince, impl.KCount, impl.KAmount, impl.KOp, impl.KNot, impl.KCall, impl.KLet, impl.KSet, impl.KIf,
		impl.KPost, impl.KReject, impl.KNext, impl.KRepeat, impl.KBlock}
}

// rightTree: of a kind, as small as may be, but that a KCall has two kids and a KBlock three.
func rightTree(kind int64) []impl.Node {
	switch kind {
	case impl.KName, impl.KBal:
		return tree(impl.Node{Kind: kind, Text: "owed"})
	case impl.KOp:
		return op(one(), "+", one())
	case impl.KNot:
		return not(one())
	case impl.KCall:
		return call("later", one(), one())
	case impl.KLet, impl.KSet:
		return tree(impl.Node{Kind: kind, Text: "part"}, one())
	case impl.KIf:
		return choice(one(), block(), block())
	case impl.KPost:
		return post(one(), "till", "owed")
	case impl.KReject:
		return reject(7)
	case impl.KNext:
		return next(one())
	case impl.KRepeat:
		return repeat(one(), block())
	case impl.KBlock:
		return block(reject(1), block(), reject(2))
	}
	return plain(kind)
}

// partsOf: what a kind is, e an expression, s a statement, b a block.
func partsOf(kind int64) string {
	switch {
	case kind >= impl.KInt && kind <= impl.KCall:
		return "e"
	case kind == impl.KBlock:
		return "sb"
	case kind >= impl.KLet && kind < impl.KBlock:
		return "s"
	}
	return ""
}

// kidParts: what its kids are, one by one, the last one for all that follow.
func kidParts(kind int64) string {
	switch kind {
	case impl.KOp, impl.KCall:
		return "ee"
	case impl.KNot, impl.KLet, impl.KSet, impl.KPost, impl.KNext:
		return "e"
	case impl.KIf:
		return "ebb"
	case impl.KRepeat:
		return "eb"
	case impl.KBlock:
		return "sss"
	}
	return ""
}

// hookWith: a hook in which that tree stands where it may.
func hookWith(l []impl.Node) []impl.Node {
	if partsOf(l[0].Kind) == "e" {
		return block(next(l))
	}
	return block(l)
}

// placeWith: where its first node stands in hookWith of it.
func placeWith(l []impl.Node) int {
	return len(hookWith(l)) - len(l)
}

// checkHook: is it right, or not?
func checkHook(t *testing.T, what string, l []impl.Node, want bool) {
	t.Helper()
	before := slices.Clone(l)
	if got := impl.NodesRight(l); got != want {
		t.Errorf("%s: NodesRight is %v: %.300v", what, got, l)
	}
	if !slices.Equal(l, before) {
		t.Errorf("%s: the list was changed", what)
	}
}

// checkTree: the same of a tree within a hook.
func checkTree(t *testing.T, what string, l []impl.Node, want bool) {
	t.Helper()
	checkHook(t, what, hookWith(l), want)
}

func TestSyntaxConstants(t *testing.T) {
	types := []int64{impl.TypeInt, impl.TypeMoney, impl.TypeRate, impl.TypeDate, impl.TypeBool}
	if !slices.Equal(types, []int64{1, 2, 3, 4, 5}) {
		t.Error("a type is another one")
	}
	kinds := []int64{1, 2, 3, 4, 5, 6, 7, 8, 9, 10, 11, 12, 13, 14, 20, 21, 22, 23, 24, 25, 26, 27}
	if !slices.Equal(kindList(), kinds) {
		t.Error("a kind is another one")
	}
	others := []int64{impl.HookOpen, impl.HookPay, impl.HookTick, impl.MaxNodes, impl.MaxDepth}
	if !slices.Equal(others, []int64{1, 2, 3, 150, 20}) {
		t.Error("a hook or a bound is another one")
	}
}

func TestReserved(t *testing.T) {
	list := reservedList()
	if len(list) != 41 {
		t.Fatalf("%d words are listed", len(list))
	}
	for _, word := range list {
		if !impl.Reserved(word) {
			t.Errorf("%q is not reserved", word)
		}
		near := []string{word + "s", word + "_", word + "1", "a" + word, word[:len(word)-1], word[1:], word + word,
			strings.ToUpper(word), strings.ToUpper(word[:1]) + word[1:], " " + word, word + " ", word + "\x00", word + "\n"}
		for _, other := range near {
			if got := impl.Reserved(other); got != slices.Contains(list, other) {
				t.Errorf("Reserved(%q) is %v", other, got)
			}
		}
	}
}

func TestNotReserved(t *testing.T) {
	list := append(noNames(), "owed", "due", "till", "annuity", "hook", "type", "names", "in", "one", "let_", "+", "-", "*",
		"<", "<=", "=", "(", ")", "{", "}", ";", "and or", "and amount", strings.Join(reservedList(), " "),
		strings.Repeat("and", impl.MaxBytes))
	for _, name := range list {
		if impl.Reserved(name) {
			t.Errorf("%.50q is reserved", name)
		}
	}
}

func TestNodesRight(t *testing.T) {
	checkHook(t, "an empty block", block(), true)
	checkHook(t, "a hook as they are written", block(
		choice(op(op(plain(impl.KToday), "=", named("start")), "and", op(number(impl.KMoney, 0), "<", plain(impl.KAmount))),
			block(post(plain(impl.KAmount), "till", "owed"), next(call("later", named("start"), one()))),
			block(reject(1)))), true)
	for _, kind := range kindList() {
		checkTree(t, "a tree of kind "+strconv.FormatInt(kind, 10), rightTree(kind), true)
	}
}

func TestNodesOfNoTree(t *testing.T) {
	checkHook(t, "no list", nil, false)
	checkHook(t, "an empty list", []impl.Node{}, false)
	checkHook(t, "the zero node", []impl.Node{{}}, false)
	for _, kind := range kindList() {
		if kind != impl.KBlock {
			checkHook(t, "a first node that is no block", rightTree(kind), false)
		}
		for _, left := range [][]impl.Node{rightTree(kind), {{}}, block()} {
			checkHook(t, "nodes left behind the tree", append(hookWith(rightTree(kind)), left...), false)
		}
		hook := hookWith(rightTree(kind))
		for size := range len(hook) {
			checkHook(t, "a tree that breaks off", slices.Clone(hook[:size]), false)
		}
	}
	checkHook(t, "two blocks", append(block(), block()...), false)
}

// Each field of each kind, turned to something that it can't be.
func TestNodesWithOneFieldWrong(t *testing.T) {
	for _, kind := range kindList() {
		l := rightTree(kind)
		hook, at := hookWith(l), placeWith(l)
		for i, n := range wrongNodes(l[0]) {
			other := slices.Clone(hook)
			other[at] = n
			checkHook(t, "kind "+strconv.FormatInt(kind, 10)+", wrong node "+strconv.Itoa(i), other, false)
		}
	}
}

// wrongNodes: a right node with one field of it wrong.
func wrongNodes(right impl.Node) []impl.Node {
	var list []impl.Node
	turn := func(change func(n *impl.Node)) {
		n := right
		change(&n)
		list = append(list, n)
	}
	for _, kind := range []int64{0, -1, 15, 16, 17, 18, 19, 28, 29, 40, math.MaxInt64, math.MinInt64, right.Kind + 256, right.Kind + 1<<32} {
		turn(func(n *impl.Node) { n.Kind = kind })
	}
	for _, many := range []int64{-1, -2, math.MinInt64, math.MaxInt64, 1 << 32, 1<<32 + right.Many, 400, 41, right.Many + 1, right.Many - 1} {
		turn(func(n *impl.Node) { n.Many = many })
	}
	for _, text := range []string{"Owed", "1", "?", " ", "bank", "\x00", "not", "owed "} {
		turn(func(n *impl.Node) { n.Text = text })
		turn(func(n *impl.Node) { n.More = text })
	}
	if right.Text == "" {
		turn(func(n *impl.Node) { n.Text = "owed" })
	} else {
		turn(func(n *impl.Node) { n.Text = "" })
	}
	if right.More == "" {
		turn(func(n *impl.Node) { n.More = "owed" })
	} else {
		turn(func(n *impl.Node) { n.More = "" })
	}
	for _, number := range []int64{-impl.MaxMoney - 1, impl.MaxMoney + 1, math.MinInt64, math.MaxInt64} {
		turn(func(n *impl.Node) { n.N = number })
	}
	if right.Kind > impl.KBool && right.Kind != impl.KReject {
		turn(func(n *impl.Node) { n.N = 1 })
		turn(func(n *impl.Node) { n.N = -1 })
	}
	return list
}

// Each kind as a kid at each place of each kind that has kids.
func TestNodesInEachOther(t *testing.T) {
	for _, kind := range kindList() {
		parts := kidParts(kind)
		for place := range len(parts) {
			for _, kid := range kindList() {
				var kids [][]impl.Node
				for _, p := range parts {
					kids = append(kids, map[rune][]impl.Node{'e': one(), 's': reject(1), 'b': block()}[p])
				}
				kids[place] = rightTree(kid)
				want := strings.Contains(partsOf(kid), parts[place:place+1])
				what := "kind " + strconv.FormatInt(kid, 10) + " as kid " + strconv.Itoa(place) + " of " + strconv.FormatInt(kind, 10)
				checkTree(t, what, tree(rightTree(kind)[0], kids...), want)
			}
		}
	}
}

// So many kids as Many says, but not so many as the kind has.
func TestNodesWithTooFewOrTooManyKids(t *testing.T) {
	most := map[int64][2]int{impl.KOp: {2, 2}, impl.KNot: {1, 1}, impl.KCall: {1, 4}, impl.KLet: {1, 1}, impl.KSet: {1, 1},
		impl.KIf: {3, 3}, impl.KPost: {1, 1}, impl.KNext: {1, 1}, impl.KRepeat: {2, 2}, impl.KBlock: {0, maxBlock}}
	fill := map[byte][]impl.Node{'e': one(), 's': reject(1), 'b': block()}
	for _, kind := range kindList() {
		for _, count := range []int{0, 1, 2, 3, 4, 5, 6, 39, 40, 41, 42} {
			parts := kidParts(kind)
			if parts == "" {
				parts = "e"
			}
			var kids [][]impl.Node
			for i := range count {
				kids = append(kids, fill[parts[min(i, len(parts)-1)]])
			}
			want := count >= most[kind][0] && count <= most[kind][1]
			what := strconv.Itoa(count) + " kids of kind " + strconv.FormatInt(kind, 10)
			checkTree(t, what, tree(rightTree(kind)[0], kids...), want)
		}
	}
	checkHook(t, "a hook of 40", block(slices.Repeat([][]impl.Node{reject(1)}, maxBlock)...), true)
	checkHook(t, "a hook of 41", block(slices.Repeat([][]impl.Node{reject(1)}, maxBlock+1)...), false)
}

// Each bound of N, and one beyond.
func TestNodesByTheirNumbers(t *testing.T) {
	cases := []struct{ kind, low, high int64 }{
		{impl.KInt, -1000000000000, 1000000000000}, {impl.KMoney, -1000000000000, 1000000000000},
		{impl.KRate, 0, 1000000}, {impl.KDate, 0, 36524}, {impl.KBool, 0, 1}, {impl.KReject, 1, 99},
	}
	for _, c := range cases {
		what := "kind " + strconv.FormatInt(c.kind, 10) + " of "
		for _, n := range append(edgeNums(), 0, 1, 2, 50, -1, c.low-1, c.low, c.low+1, c.high-1, c.high, c.high+1) {
			checkTree(t, what+strconv.FormatInt(n, 10), number(c.kind, n), n >= c.low && n <= c.high)
		}
	}
}

func TestNodesByTheirWords(t *testing.T) {
	words := slices.Concat(operatorList(), functionList(), reservedList(), noNames(), []string{"owed", "==", ">", ">=", "/", "%",
		"&&", "+ ", " +", "++", "+-", "<==", "And", "round", "later ", "Later", "add", "sub"})
	for _, word := range words {
		checkTree(t, "operator "+word, op(one(), word, one()), slices.Contains(operatorList(), word))
		for _, count := range []int{1, 2, 3, 4} {
			kids := slices.Repeat([][]impl.Node{one()}, count)
			checkTree(t, "function "+word, call(word, kids...), slices.Contains(functionList(), word))
		}
	}
}

// Names in a tree: where a name stands no other text does, nor a word that is reserved.
func TestNodesByTheirNames(t *testing.T) {
	long := strings.Repeat("n", 20)
	for _, name := range []string{"a", "z9", "a_", "a__0", "owed", "banks", "annuity", long} {
		for i, l := range treesNaming(name) {
			checkTree(t, "name "+name+" in tree "+strconv.Itoa(i), l, true)
		}
	}
	for _, name := range append(append(noNames(), reservedList()...), long+"n", "+", "<=", "1", "true", "owed ", " owed") {
		for i, l := range treesNaming(name) {
			checkTree(t, "name "+name+" in tree "+strconv.Itoa(i), l, false)
		}
	}
	checkTree(t, "from and to alike", post(one(), "owed", "owed"), true)
	checkTree(t, "names alike in two nodes", block(let("a", one()), let("a", named("a")), set("b", bal("a"))), true)
}

// treesNaming: each place of a name, in trees that are right but for it.
func treesNaming(name string) [][]impl.Node {
	return [][]impl.Node{named(name), bal(name), let(name, one()), set(name, one()), post(one(), name, "owed"), post(one(), "owed", name)}
}

// nodesOf: a right hook but for its size, of just so many nodes.
func nodesOf(count int) []impl.Node {
	var blocks [][]impl.Node
	left := count - 1
	for left > 0 {
		kids := min(maxBlock, left-1)
		blocks = append(blocks, block(slices.Repeat([][]impl.Node{reject(3)}, kids)...))
		left -= kids + 1
	}
	return block(blocks...)
}

func TestNodesBySize(t *testing.T) {
	for count := 1; count <= impl.MaxNodes+10; count++ {
		l := nodesOf(count)
		if len(l) != count {
			t.Fatalf("%d nodes are %d", count, len(l))
		}
		checkHook(t, strconv.Itoa(count)+" nodes", l, count <= impl.MaxNodes)
	}
	for _, count := range []int{impl.MaxList, impl.MaxList + 1, 1500} {
		checkHook(t, strconv.Itoa(count)+" nodes", nodesOf(count), false)
	}
	checkHook(t, "very many blocks", slices.Repeat(block(), 100000), false)
	checkHook(t, "very many nodes behind a block", append(block(), make([]impl.Node, 100000)...), false)
}

// deep: an expression of that depth, and a block of it, by four ways down.
func deep(depth int, way int) []impl.Node {
	l := one()
	for range depth - 1 {
		switch way {
		case 0:
			l = not(l)
		case 1:
			l = op(l, "*", one())
		case 2:
			l = op(one(), "or", l)
		default:
			l = call("share", one(), one(), l)
		}
	}
	return l
}

func deepBlock(depth int) []impl.Node {
	l := block()
	for range depth - 1 {
		l = block(reject(1), l)
	}
	return l
}

func TestNodesByDepth(t *testing.T) {
	for depth := 1; depth <= impl.MaxDepth+5; depth++ {
		what := "depth " + strconv.Itoa(depth)
		// A reject of depth 1 beside each block is as deep as the block behind it, or less.
		checkHook(t, what, deepBlock(depth), depth <= impl.MaxDepth)
		for way := range 4 {
			checkHook(t, what+" of expressions", block(next(deep(depth, way))), depth+2 <= impl.MaxDepth)
			checkHook(t, what+" behind others", block(reject(1), next(deep(2, way)), let("a", deep(depth, way)), reject(1)), depth+2 <= impl.MaxDepth)
		}
		checkHook(t, what+" of an if's first block", block(choice(one(), deepBlock(depth), block())), depth+2 <= impl.MaxDepth)
		checkHook(t, what+" of an if's second block", block(choice(one(), block(), deepBlock(depth))), depth+2 <= impl.MaxDepth)
		checkHook(t, what+" of a repeat's block", block(repeat(one(), deepBlock(depth))), depth+2 <= impl.MaxDepth)
	}
	bare := block()
	for range impl.MaxNodes - 1 {
		bare = block(bare)
	}
	checkHook(t, "as deep as there are nodes", bare, false)
}

// hookHolds: the document's words on a hook, by a list of what is still to come, not by going down.
func hookHolds(l []impl.Node) bool {
	type due struct {
		part  string
		depth int
	}
	if len(l) > impl.MaxNodes {
		return false
	}
	dues := []due{{"b", 1}}
	for _, n := range l {
		if len(dues) == 0 {
			return false
		}
		d := dues[0]
		if d.depth > impl.MaxDepth || !strings.Contains(partsOf(n.Kind), d.part) || !nodeHolds(n) {
			return false
		}
		var kids []due
		parts := kidParts(n.Kind)
		for i := range int(n.Many) {
			at := min(i, len(parts)-1)
			kids = append(kids, due{parts[at : at+1], d.depth + 1})
		}
		dues = append(kids, dues[1:]...)
	}
	return len(dues) == 0
}

// nodeHolds: of one node's own fields.
func nodeHolds(n impl.Node) bool {
	isName := func(t string) bool { return impl.NameRight(t) && !slices.Contains(reservedList(), t) }
	is := func(many int64, text bool) bool {
		return n.Many == many && n.N == 0 && n.More == "" && text
	}
	from := func(low int64, high int64) bool {
		return n.Many == 0 && n.Text == "" && n.More == "" && n.N >= low && n.N <= high
	}
	switch n.Kind {
	case impl.KInt, impl.KMoney:
		return from(-impl.MaxMoney, impl.MaxMoney)
	case impl.KRate:
		return from(0, impl.RateUnit)
	case impl.KDate:
		return from(0, impl.MaxDay)
	case impl.KBool:
		return from(0, 1)
	case impl.KReject:
		return from(1, 99)
	case impl.KName, impl.KBal:
		return is(0, isName(n.Text))
	case impl.KOp:
		return is(2, slices.Contains(operatorList(), n.Text))
	case impl.KNot, impl.KNext:
		return is(1, n.Text == "")
	case impl.KCall:
		return n.Many >= 1 && n.Many <= 4 && is(n.Many, slices.Contains(functionList(), n.Text))
	case impl.KLet, impl.KSet:
		return is(1, isName(n.Text))
	case impl.KIf:
		return is(3, n.Text == "")
	case impl.KRepeat:
		return is(2, n.Text == "")
	case impl.KPost:
		return n.Many == 1 && n.N == 0 && isName(n.Text) && isName(n.More)
	case impl.KBlock:
		return n.Many >= 0 && n.Many <= maxBlock && is(n.Many, n.Text == "")
	}
	return is(0, n.Text == "")
}

// Trees of all kinds with one node or field of them another one are as right as the document's words say.
func TestNodesTurned(t *testing.T) {
	g := &maker{nums: someNums(20000)}
	right := 0
	for range 200 {
		l := g.hook(80)
		checkHook(t, "a made hook", l, true)
		for range 40 {
			other := g.turned(l)
			want := hookHolds(other)
			checkHook(t, "a turned hook", other, want)
			if want {
				right++
			}
		}
	}
	if right < 500 || right > 7500 {
		t.Errorf("%d turned hooks are right: too few of one sort", right)
	}
}
