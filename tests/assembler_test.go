package tests

import (
	"slices"
	"strconv"
	"strings"

	"loop.example/g00221/impl"
)

// markedIns: instructions as insIn has them, where a word with a colon marks the place of what comes behind it, and stands for that
// place elsewhere.
func markedIns(text string) []impl.Ins {
	places := map[string]int{}
	var lines []string
	for _, line := range strings.Split(text, ";") {
		words := strings.Fields(line)
		for len(words) > 0 && strings.HasSuffix(words[0], ":") {
			places[strings.TrimSuffix(words[0], ":")] = len(lines)
			words = words[1:]
		}
		if len(words) > 0 {
			lines = append(lines, strings.Join(words, " "))
		}
	}
	for n, line := range lines {
		op, mark, _ := strings.Cut(line, " ")
		if at, marked := places[mark]; marked {
			lines[n] = op + " " + strconv.Itoa(at)
		}
	}
	return insIn(strings.Join(lines, ";"))
}

// assembler tells the code of a hook of a product without a fault in words and marks, told apart from the program.
type assembler struct {
	*scope
	lines []string
}

// compileOf: what Compile tells of any product and any hook.
func compileOf(p impl.Product, hook int64) impl.ModuleOut {
	if !impl.ProductRight(p) || checkOf(p) != (impl.CheckOut{}) || !slices.Contains(hookList(), hook) {
		return impl.ModuleOut{Code: impl.ErrForm}
	}
	g := &assembler{scope: scopeOf(p, hook)}
	g.node(0)
	g.say("end")
	m := impl.Module{Basis: p.Basis, Slots: int64(len(p.Slots)), Params: int64(len(p.Params)), Code: markedIns(strings.Join(g.lines, ";"))}
	m.Spots = m.Slots + int64(len(p.Contras))
	return impl.ModuleOut{Module: m}
}

// say: one line, of words and numbers.
func (g *assembler) say(word string, nums ...int) {
	for _, n := range nums {
		word += " " + strconv.Itoa(n)
	}
	g.lines = append(g.lines, word)
}

// mark: of the line that comes next.
func (g *assembler) mark(name string) {
	g.lines = append(g.lines, name+":")
}

// spot: by the name of a slot or a contra.
func (g *assembler) spot(name string) int {
	if at := slices.Index(g.p.Contras, name); at >= 0 {
		return len(g.p.Slots) + at
	}
	return slices.Index(g.p.Slots, name)
}

// localOf: that of the KLet at a place.
func (g *assembler) localOf(place int) int {
	return len(g.lets(place))
}

// counter: the local of the KRepeat at a place.
func (g *assembler) counter(at int) int {
	local := 30
	for up := g.above[at]; up >= 0; up = g.above[up] {
		if g.nodes[up].Kind == impl.KRepeat {
			local++
		}
	}
	return local
}

// node: the code of the one at a place.
func (g *assembler) node(at int) {
	g.say("gas")
	switch g.nodes[at].Kind {
	case impl.KIf:
		g.choice(at)
	case impl.KRepeat:
		g.repetition(at)
	default:
		for _, kid := range g.kids[at] {
			g.node(kid)
		}
		g.own(at)
	}
}

func (g *assembler) choice(at int) {
	otherwise, behind := "else@"+strconv.Itoa(at), "behind@"+strconv.Itoa(at)
	g.node(g.kids[at][0])
	g.say("jz " + otherwise)
	g.node(g.kids[at][1])
	g.say("jump " + behind)
	g.mark(otherwise)
	g.node(g.kids[at][2])
	g.mark(behind)
}

func (g *assembler) repetition(at int) {
	again, behind := "again@"+strconv.Itoa(at), "behind@"+strconv.Itoa(at)
	g.node(g.kids[at][0])
	g.say("store", g.counter(at))
	g.mark(again)
	g.say("push 0")
	g.say("load", g.counter(at))
	g.say("less")
	g.say("jz " + behind)
	g.node(g.kids[at][1])
	g.say("load", g.counter(at))
	g.say("push 1")
	g.say("sub")
	g.say("store", g.counter(at))
	g.say("jump " + again)
	g.mark(behind)
}

// own: what stands behind the kids' codes.
func (g *assembler) own(at int) {
	n := g.nodes[at]
	switch n.Kind {
	case impl.KInt, impl.KMoney, impl.KRate, impl.KDate, impl.KBool:
		g.say("push", int(n.N))
	case impl.KName:
		if place := g.letOf(at); place >= 0 {
			g.say("load", g.localOf(place))
			return
		}
		g.say("param", slices.IndexFunc(g.p.Params, func(a impl.Param) bool { return a.Name == n.Text }))
	case impl.KBal:
		g.say("bal", slices.Index(g.p.Slots, n.Text))
	case impl.KOp:
		words := map[string]string{"+": "add", "-": "sub", "*": "mul", "<": "less", "<=": "atmost", "=": "same", "and": "and", "or": "or"}
		g.say(words[n.Text])
	case impl.KCall:
		g.say("call", 1+slices.Index(functionList(), n.Text))
	case impl.KLet:
		g.say("store", g.localOf(at))
	case impl.KSet:
		g.say("store", g.localOf(g.letOf(at)))
	case impl.KPost:
		g.say("post", g.spot(n.Text), g.spot(n.More))
	case impl.KReject:
		g.say("reject", int(n.N))
	case impl.KBlock:
	default:
		words := map[int64]string{impl.KToday: "today", impl.KSince: "since", impl.KCount: "count", impl.KAmount: "amount", impl.KNot: "not", impl.KNext: "next"}
		g.say(words[n.Kind])
	}
}
