package tests

import (
	"math"
	"slices"
	"strconv"
	"strings"
	"testing"

	"loop.example/g00221/impl"
)

// checkCompile: is that told of the hook, and of its size, and is the product as it was? The code of a product without a fault is
// right (promise 19), and comes back from its bytes.
func checkCompile(t *testing.T, what string, p impl.Product, hook int64, want impl.ModuleOut) {
	t.Helper()
	before := copiedProduct(p)
	for range 2 {
		got := impl.Compile(p, hook)
		if got.Code != want.Code || got.At != 0 || !sameModule(got.Module, want.Module) {
			t.Errorf("%.300s: hook %d is %+v, not %+v", what, hook, got, want)
		}
		if size := impl.CodeSize(p, hook); size != int64(len(want.Module.Code)) {
			t.Errorf("%.300s: the size of hook %d is %d, not %d", what, hook, size, len(want.Module.Code))
		}
		if got.Code == impl.OK {
			checkRightCode(t, what, got.Module)
		}
	}
	if !sameProduct(p, before) {
		t.Errorf("%.300s: the product was changed", what)
	}
}

// checkRightCode: is it a right module, by the program and by the tests' own way, that begins with gas and ends with end?
func checkRightCode(t *testing.T, what string, m impl.Module) {
	t.Helper()
	heights, right := moduleHeights(m)
	if !right || !impl.ModuleRight(m) {
		t.Errorf("%.300s: the code is not right: %+v", what, m)
		return
	}
	if m.Code[0] != (impl.Ins{Op: 1}) || m.Code[len(m.Code)-1] != (impl.Ins{Op: 26}) || heights[0] != 0 {
		t.Errorf("%.300s: the code is %+v", what, m.Code)
	}
	if back := impl.ModuleRead(impl.ModuleBytes(m)); back.Code != impl.OK || !sameModule(back.Module, m) {
		t.Errorf("%.300s: the module does not come back", what)
	}
}

// refusedCode: what is told of what has no code.
func refusedCode() impl.ModuleOut {
	return impl.ModuleOut{Code: impl.ErrForm}
}

// codeCase: words of a hook, and the code of what stands in its block, as markedIns has it.
type codeCase struct {
	words string
	code  string
}

// checkCodes: of typedText's product with these words in each of these hooks. By its slots owed and due are 0 and 1, by its
// contras till and income 2 and 3, by its Params n, m, r, d and y are 0 to 4.
func checkCodes(t *testing.T, cases []codeCase, hooks ...int64) {
	t.Helper()
	for _, c := range cases {
		m := impl.Module{Basis: 1, Slots: 2, Spots: 4, Params: 5, Code: markedIns("gas; " + c.code + "; end")}
		for _, hook := range hooks {
			checkCompile(t, c.words, hookedProduct(t, hook, c.words), hook, impl.ModuleOut{Module: m})
		}
	}
}

// checkValueCodes: expressions, each let by itself.
func checkValueCodes(t *testing.T, cases []codeCase, hooks ...int64) {
	t.Helper()
	for i, c := range cases {
		cases[i] = codeCase{"let a = " + c.words + " ;", "gas; " + c.code + "; store 0"}
	}
	checkCodes(t, cases, hooks...)
}

// emptyCode: of a hook without nodes in its block.
func emptyCode() impl.ModuleOut {
	return impl.ModuleOut{Module: impl.Module{Basis: 1, Slots: 2, Spots: 4, Params: 5, Code: insIn("gas; end")}}
}

func TestCompileOfEmptyHooks(t *testing.T) {
	for _, hook := range hookList() {
		checkCompile(t, "nothing", typedProduct(t, "", "", ""), hook, emptyCode())
		p := emptyProduct()
		p.Contras, p.Params = nil, nil
		checkCompile(t, "nothing at all", p, hook, impl.ModuleOut{Module: impl.Module{Basis: 1, Slots: 2, Spots: 2, Code: insIn("gas; end")}})
	}
	checkCodes(t, []codeCase{{"{ }", "gas"}, {"{ } { }", "gas; gas"}, {"{ { } { { } } } { }", "gas; gas; gas; gas; gas"}}, hookList()...)
}

// Each kind of expression, by itself.
func TestCompileOfExpressions(t *testing.T) {
	checkValueCodes(t, []codeCase{
		{"7", "gas; push 7"}, {"-7", "gas; push -7"}, {"0", "gas; push 0"}, {"1000000000000", "gas; push 1000000000000"},
		{"-1000000000000", "gas; push -1000000000000"}, {"0.07", "gas; push 7"}, {"-12.34", "gas; push -1234"}, {"10000000000.00", "gas; push 1000000000000"},
		{"-10000000000.00", "gas; push -1000000000000"}, {"0.0000%", "gas; push 0"}, {"5.2500%", "gas; push 52500"}, {"100.0000%", "gas; push 1000000"},
		{"2000-01-01", "gas; push 0"}, {"2000-02-29", "gas; push 59"}, {"2099-12-31", "gas; push 36524"}, {"true", "gas; push 1"}, {"false", "gas; push 0"},
		{"n", "gas; param 0"}, {"m", "gas; param 1"}, {"r", "gas; param 2"}, {"d", "gas; param 3"}, {"y", "gas; param 4"},
		{"bal owed", "gas; bal 0"}, {"bal due", "gas; bal 1"}, {"today", "gas; today"}, {"since", "gas; since"}, {"count", "gas; count"},
		{"not y", "gas; gas; param 4; not"}, {"not not true", "gas; gas; gas; push 1; not; not"},
	}, hookList()...)
	checkValueCodes(t, []codeCase{{"amount", "gas; amount"}, {"( amount - amount )", "gas; gas; amount; gas; amount; sub"}}, impl.HookOpen, impl.HookPay)
}

// Each operator at all types that it takes.
func TestCompileOfOperators(t *testing.T) {
	names := []string{"add", "sub", "mul", "less", "atmost", "same", "and", "or"}
	words := []string{"", "n", "m", "r", "d", "y"}
	var cases []codeCase
	for i, text := range operatorList() {
		for a := int64(1); a <= 5; a++ {
			for b := int64(1); b <= 5; b++ {
				if opTypeOf(text, a, b) != 0 {
					params := []string{strconv.FormatInt(a-1, 10), strconv.FormatInt(b-1, 10)}
					cases = append(cases, codeCase{"( " + words[a] + " " + text + " " + words[b] + " )", "gas; gas; param " + params[0] + "; gas; param " + params[1] + "; " + names[i]})
				}
			}
		}
	}
	if len(cases) != 2+2+2+4+4+5+1+1 {
		t.Errorf("%d cases", len(cases))
	}
	checkValueCodes(t, cases, hookList()...)
	checkValueCodes(t, []codeCase{
		{"( 1 - 2 )", "gas; gas; push 1; gas; push 2; sub"}, {"( 2 - 1 )", "gas; gas; push 2; gas; push 1; sub"},
		{"( ( 1 + 2 ) * ( 3 - n ) )", "gas; gas; gas; push 1; gas; push 2; add; gas; gas; push 3; gas; param 0; sub; mul"},
		{"( y or ( y and ( n < 1 ) ) )", "gas; gas; param 4; gas; gas; param 4; gas; gas; param 0; gas; push 1; less; and; or"},
		{"( ( ( n <= 1 ) and y ) or y )", "gas; gas; gas; gas; param 0; gas; push 1; atmost; gas; param 4; and; gas; param 4; or"},
		{"not ( not y = y )", "gas; gas; gas; gas; param 4; not; gas; param 4; same; not"},
	}, hookList()...)
}

func TestCompileOfFunctions(t *testing.T) {
	checkValueCodes(t, []codeCase{
		{"interest ( m r d today )", "gas; gas; param 1; gas; param 2; gas; param 3; gas; today; call 1"},
		{"instalment ( m r n d )", "gas; gas; param 1; gas; param 2; gas; param 0; gas; param 3; call 2"},
		{"later ( d n )", "gas; gas; param 3; gas; param 0; call 3"}, {"days ( since d )", "gas; gas; since; gas; param 3; call 4"},
		{"least ( m bal due )", "gas; gas; param 1; gas; bal 1; call 5"}, {"most ( bal owed m )", "gas; gas; bal 0; gas; param 1; call 6"},
		{"share ( m r )", "gas; gas; param 1; gas; param 2; call 7"},
		{"later ( later ( d 1 ) days ( d today ) )", "gas; gas; gas; param 3; gas; push 1; call 3; gas; gas; param 3; gas; today; call 4; call 3"},
		{"share ( ( m + m ) 1.0000% )", "gas; gas; gas; param 1; gas; param 1; add; gas; push 10000; call 7"},
		{"( 2 * days ( d d ) )", "gas; gas; push 2; gas; gas; param 3; gas; param 3; call 4; mul"},
	}, hookList()...)
}

// Each kind of statement, by itself.
func TestCompileOfStatements(t *testing.T) {
	checkCodes(t, []codeCase{
		{"let a = 1 ;", "gas; gas; push 1; store 0"},
		{"let a = 1 ; set a = n ;", "gas; gas; push 1; store 0; gas; gas; param 0; store 0"},
		{"post m from owed to due ;", "gas; gas; param 1; post 0 1"},
		{"{ post m from owed to due ; } post m from due to owed ;", "gas; gas; gas; param 1; post 0 1; gas; gas; param 1; post 1 0"},
		{"if y { } else { }", "gas; gas; param 4; jz 7; gas; jump 8; gas"},
		{"repeat n { }", "gas; gas; param 0; store 30; push 0; load 30; less; jz 15; gas; load 30; push 1; sub; store 30; jump 5"},
	}, hookList()...)
	checkCodes(t, []codeCase{
		{"reject 1 ;", "gas; reject 1"}, {"reject 99 ;", "gas; reject 99"}, {"reject 7 ; reject 8 ;", "gas; reject 7; gas; reject 8"},
		{"post amount from till to owed ; reject 5 ; { }", "gas; gas; amount; post 2 0; gas; reject 5; gas"},
	}, impl.HookOpen, impl.HookPay)
	checkCodes(t, []codeCase{
		{"next d ;", "gas; gas; param 3; next"}, {"next later ( today 1 ) ; { }", "gas; gas; gas; today; gas; push 1; call 3; next; gas"},
	}, impl.HookOpen, impl.HookTick)
}

// From each spot to each spot.
func TestCompileOfSpots(t *testing.T) {
	spots := []string{"owed", "due", "till", "income"}
	var cases []codeCase
	for i, from := range spots {
		for j, to := range spots {
			code := "gas; gas; push 1; post " + strconv.Itoa(i) + " " + strconv.Itoa(j)
			cases = append(cases, codeCase{"post 0.01 from " + from + " to " + to + " ;", code})
		}
	}
	checkCodes(t, cases, hookList()...)
	// A variable that has the name of a spot is none.
	checkCodes(t, []codeCase{{"let till = bal due ; let due = till ; post due from due to till ; set till = bal due ;",
		"gas; gas; bal 1; store 0; gas; gas; load 0; store 1; gas; gas; load 1; post 1 2; gas; gas; bal 1; store 0"}}, hookList()...)
}

// A variable's local is how many are seen ahead of its KLet.
func TestCompileOfVariables(t *testing.T) {
	checkCodes(t, []codeCase{
		{"let a = n ; let b = a ; let c = ( b + a ) ; set b = c ;",
			"gas; gas; param 0; store 0; gas; gas; load 0; store 1; gas; gas; gas; load 1; gas; load 0; add; store 2; gas; gas; load 2; store 1"},
		// Behind blocks that have ended, and within others.
		{"{ let a = 1 ; let b = 2 ; } let c = 3 ;", "gas; gas; gas; push 1; store 0; gas; gas; push 2; store 1; gas; gas; push 3; store 0"},
		{"let a = 1 ; { let b = 2 ; { let c = 3 ; } let c = 4 ; } let b = a ;",
			"gas; gas; push 1; store 0; gas; gas; gas; push 2; store 1; gas; gas; gas; push 3; store 2; gas; gas; push 4; store 2; gas; gas; load 0; store 1"},
		{"{ let a = 1 ; } { let b = 2 ; let a = b ; set a = b ; set b = a ; }",
			"gas; gas; gas; push 1; store 0; gas; gas; gas; push 2; store 0; gas; gas; load 0; store 1; gas; gas; load 0; store 1; gas; gas; load 1; store 0"},
		{"if y { let a = 1 ; let b = a ; } else { let b = 1 ; } let c = d ;", "gas; gas; param 4; jz E; gas; gas; gas; push 1; store 0; " +
			"gas; gas; load 0; store 1; jump B; E: gas; gas; gas; push 1; store 0; B: gas; gas; param 3; store 0"},
		// Params are none of them.
		{"let a = n ; let b = m ; let c = r ; set a = n ;", "gas; gas; param 0; store 0; gas; gas; param 1; store 1; gas; gas; param 2; store 2; gas; gas; param 0; store 0"},
	}, hookList()...)
	var codes []string
	for i := range impl.MaxVars {
		codes = append(codes, "gas; gas; push 1; store "+strconv.Itoa(i))
	}
	all := strings.Join(codes, "; ")
	checkCodes(t, []codeCase{
		{letsOf("v", impl.MaxVars), all}, {letsOf("v", impl.MaxVars) + " set v29 = v0 ;", all + "; gas; gas; load 0; store 29"},
		{letsOf("v", impl.MaxVars) + " set v7 = v28 ;", all + "; gas; gas; load 28; store 7"},
		{"{ " + letsOf("v", impl.MaxVars) + " } let a = 2 ;", "gas; " + all + "; gas; gas; push 2; store 0"},
	}, hookList()...)
}

// The places of jz and jump, over blocks with nothing in them and with more, behind others, ahead of them and at the end of the code.
func TestCompileOfChoices(t *testing.T) {
	checkCodes(t, []codeCase{
		{"if y { } else { } { }", "gas; gas; param 4; jz 7; gas; jump 8; gas; gas"},
		{"{ } if y { } else { }", "gas; gas; gas; param 4; jz 8; gas; jump 9; gas"},
		{"if y { { } } else { }", "gas; gas; param 4; jz E; gas; gas; jump B; E: gas; B:"},
		{"if y { } else { { } { } }", "gas; gas; param 4; jz E; gas; jump B; E: gas; gas; gas; B:"},
		{"if not y { post m from owed to till ; } else { post m from till to owed ; }",
			"gas; gas; gas; param 4; not; jz E; gas; gas; gas; param 1; post 0 2; jump B; E: gas; gas; gas; param 1; post 2 0; B:"},
		{"if y { if ( n = 1 ) { } else { } } else { if y { } else { } }",
			"gas; gas; param 4; jz E; gas; gas; gas; gas; param 0; gas; push 1; same; jz F; gas; jump C; F: gas; C: jump B; " +
				"E: gas; gas; gas; param 4; jz G; gas; jump B; G: gas; B:"},
		{"if y { } else { } if y { } else { }", "gas; gas; param 4; jz E; gas; jump B; E: gas; B: gas; gas; param 4; jz F; gas; jump C; F: gas; C:"},
	}, hookList()...)
	checkCodes(t, []codeCase{
		{"if y { reject 1 ; } else { reject 2 ; }", "gas; gas; param 4; jz E; gas; gas; reject 1; jump B; E: gas; gas; reject 2; B:"},
	}, impl.HookOpen, impl.HookPay)
}

// c is 30 and how many KRepeat stand around; the round begins behind what stores c.
func TestCompileOfRounds(t *testing.T) {
	begin, end := "L: push 0; load 30; less; jz B; gas; ", "load 30; push 1; sub; store 30; jump L; B: "
	inner, innerEnd := "M: push 0; load 31; less; jz C; gas; ", "load 31; push 1; sub; store 31; jump M; C: "
	checkCodes(t, []codeCase{
		{"repeat 7 { }", "gas; gas; push 7; store 30; push 0; load 30; less; jz 15; gas; load 30; push 1; sub; store 30; jump 5"},
		{"{ } repeat 7 { } { }", "gas; gas; gas; push 7; store 30; push 0; load 30; less; jz 16; gas; load 30; push 1; sub; store 30; jump 6; gas"},
		{"repeat ( n - 1 ) { } { }", "gas; gas; gas; param 0; gas; push 1; sub; store 30; " + begin + end + "gas"},
		{"repeat 2 { { } { } }", "gas; gas; push 2; store 30; " + begin + "gas; gas; " + end},
		{"repeat 2 { post m from owed to due ; }", "gas; gas; push 2; store 30; " + begin + "gas; gas; param 1; post 0 1; " + end},
		// One within another, and one behind it.
		{"repeat 2 { repeat 3 { } }", "gas; gas; push 2; store 30; " + begin + "gas; gas; push 3; store 31; " + inner + innerEnd + end},
		{"repeat 2 { repeat 3 { } repeat 4 { } }", "gas; gas; push 2; store 30; " + begin + "gas; gas; push 3; store 31; " + inner + innerEnd +
			"gas; gas; push 4; store 31; N: push 0; load 31; less; jz D; gas; load 31; push 1; sub; store 31; jump N; D: " + end},
		{"repeat 2 { } repeat 3 { }", "gas; gas; push 2; store 30; " + begin + end +
			"gas; gas; push 3; store 30; M: push 0; load 30; less; jz C; gas; load 30; push 1; sub; store 30; jump M; C:"},
		// Other blocks around are none, and variables do not count.
		{"let a = 1 ; { { repeat a { set a = a ; } } }", "gas; gas; push 1; store 0; gas; gas; gas; gas; load 0; store 30; " + begin +
			"gas; gas; load 0; store 0; " + end},
		{"repeat 2 { let a = 1 ; { repeat a { } } }", "gas; gas; push 2; store 30; " + begin + "gas; gas; push 1; store 0; gas; " +
			"gas; gas; load 0; store 31; " + inner + innerEnd + end},
		{"repeat 2 { if y { } else { repeat 3 { } } }", "gas; gas; push 2; store 30; " + begin + "gas; gas; param 4; jz E; gas; jump C; E: gas; " +
			"gas; gas; push 3; store 31; " + inner + innerEnd + end},
	}, hookList()...)
	// As many around as may be.
	for _, hook := range hookList() {
		p, body := emptyProduct(), block()
		for range 9 {
			body = block(repeat(one(), body))
		}
		*hookIn(&p, hook) = body
		checkCompile(t, "KRepeat within KRepeat", p, hook, compileOf(p, hook))
		code := impl.Compile(p, hook).Module.Code
		for depth := range 9 {
			at, counter := 4+9*depth, int64(30+depth)
			if len(code) != 1+9*14+1 || code[at] != (impl.Ins{Op: opNamed("store"), A: counter}) {
				t.Fatalf("KRepeat %d has %+v at %d", depth, code[at], at)
			}
		}
	}
}

// noHooks: numbers that are none of a hook, near and far.
func noHooks() []int64 {
	return []int64{0, 4, -1, -2, -3, 5, 27, 257, 258, 1<<32 + 1, 1<<32 + 3, math.MaxInt64, math.MinInt64, math.MinInt64 + 1}
}

func TestCompileOfEachHook(t *testing.T) {
	p := typedProduct(t, "reject 1 ;", "let a = amount ; reject 2 ;", "next d ;")
	m := impl.Module{Basis: 1, Slots: 2, Spots: 4, Params: 5}
	for hook, code := range map[int64]string{1: "gas; gas; reject 1; end", 2: "gas; gas; gas; amount; store 0; gas; reject 2; end", 3: "gas; gas; gas; param 3; next; end"} {
		m.Code = insIn(code)
		checkCompile(t, "three hooks", p, hook, impl.ModuleOut{Module: m})
	}
	for _, hook := range noHooks() {
		checkCompile(t, "no hook", p, hook, refusedCode())
		checkCompile(t, "no hook of a product with a fault", typedProduct(t, "set z = 1 ;", "", ""), hook, refusedCode())
		checkCompile(t, "no hook of the zero product", impl.Product{}, hook, refusedCode())
	}
}

// ErrForm is told of each hook, whichever of them has the fault, and whatever fault it is.
func TestCompileOfFaults(t *testing.T) {
	full := letsOf("v", impl.MaxVars)
	for _, words := range []string{"set z = 1 ;", "let a = z ;", "let n = 1 ;", full + " let a = 1 ;", "let a = ( 1 + 1.00 ) ;", "if 1 { } else { }", "post 1.00 from owed to zzz ;",
		"let a = 1 ; let a = 1 ;", "let a = bal till ;", "repeat y { }", "let a = later ( d ) ;"} {
		for _, faulty := range hookList() {
			p := hookedProduct(t, faulty, words)
			if impl.ProductCheck(p).Hook != faulty {
				t.Fatalf("%q has no fault in hook %d", words, faulty)
			}
			for _, hook := range hookList() {
				checkCompile(t, words, p, hook, refusedCode())
			}
		}
	}
	for _, hook := range hookList() {
		checkCompile(t, "next in pay", hookedProduct(t, impl.HookPay, "next d ;"), hook, refusedCode())
		checkCompile(t, "amount in tick", hookedProduct(t, impl.HookTick, "post amount from till to owed ;"), hook, refusedCode())
		checkCompile(t, "reject in tick", hookedProduct(t, impl.HookTick, "reject 1 ;"), hook, refusedCode())
	}
}

func TestCompileOfWrongProducts(t *testing.T) {
	for i, p := range wrongProducts() {
		for _, hook := range hookList() {
			checkCompile(t, "wrong product "+strconv.Itoa(i), p, hook, refusedCode())
		}
	}
	p := typedProduct(t, "", "", "")
	p.Tick = nil
	checkCompile(t, "a hook ahead of one that is not right", p, impl.HookOpen, refusedCode())
}

// sized: a product with so many of each, in which each slot, each spot and each Param is named.
func sized(slots int, contras int, params int) impl.Product {
	p := impl.Product{Name: "plain", Basis: impl.Basis30E, Slots: numberedNames("s", slots), Contras: numberedNames("c", contras), Params: numberedParams(params)}
	spots := slices.Concat(p.Slots, p.Contras)
	var kids [][]impl.Node
	for i, name := range spots {
		kids = append(kids, post(bal(p.Slots[i%slots]), name, spots[(3*i+1)%len(spots)]))
	}
	for i, a := range p.Params {
		kids = append(kids, let("v"+strconv.Itoa(i), named(a.Name)))
	}
	p.Open, p.Pay, p.Tick = block(kids...), block(kids...), block(kids...)
	return p
}

// Slots, Spots and Params of the Module, with none, one and the most of them, and each Basis.
func TestCompileBySizes(t *testing.T) {
	for slots := 1; slots <= 6; slots++ {
		for contras := 0; contras <= 4; contras++ {
			for _, params := range []int{0, 1, 2, 8} {
				p := sized(slots, contras, params)
				for _, hook := range hookList() {
					p.Basis = 1 + int64(slots+params)%3
					got := impl.Compile(p, hook).Module
					if got.Basis != p.Basis || got.Slots != int64(slots) || got.Spots != int64(slots+contras) || got.Params != int64(params) {
						t.Errorf("%d Slots, %d Contras and %d Params: %+v", slots, contras, params, got)
					}
					checkCompile(t, "a product of some size", p, hook, compileOf(p, hook))
				}
			}
		}
	}
	want := impl.Module{Basis: 3, Slots: 2, Spots: 3, Params: 1,
		Code: insIn("gas; gas; gas; bal 0; post 0 1; gas; gas; bal 1; post 1 1; gas; gas; bal 0; post 2 1; gas; gas; param 0; store 0; end")}
	checkCompile(t, "two Slots, one Contra, one Param", sized(2, 1, 1), impl.HookTick, impl.ModuleOut{Module: want})
	for basis := int64(1); basis <= 3; basis++ {
		p := typedProduct(t, "", "", "")
		p.Basis = basis
		want := emptyCode()
		want.Module.Basis = basis
		checkCompile(t, "a basis", p, impl.HookPay, want)
	}
}

// greatHooks: of as many nodes, and as deep, as may be; all of them are right in each hook of emptyProduct.
func greatHooks() [][]impl.Node {
	var empty, rounds, posts [][]impl.Node
	for range maxBlock {
		empty, rounds = append(empty, block()), append(rounds, repeat(one(), block()))
	}
	for range 24 {
		posts = append(posts, post(call("least", bal("owed"), call("most", named("m"), bal("due"))), "due", "till"))
	}
	list := [][]impl.Node{
		block(block(empty...), block(empty...), block(empty...), block(empty[:25]...)),
		block(block(rounds...), block(rounds[:8]...), repeat(one(), block())),
		block(append(posts, empty[:5]...)...),
	}
	deepBlocks := block()
	for range impl.MaxDepth - 1 {
		deepBlocks = block(deepBlocks)
	}
	value, right, left := number(impl.KBool, 1), one(), one()
	for range impl.MaxDepth - 3 {
		value, right, left = not(value), op(one(), "-", right), op(left, "-", one())
	}
	ifs, days := block(), named("d")
	for range 9 {
		ifs = block(choice(named("y"), ifs, block()))
	}
	for range (impl.MaxDepth - 3) / 2 {
		days = call("later", named("d"), call("days", named("d"), days))
	}
	return append(list, deepBlocks, block(let("a", value)), block(let("a", right)), block(let("a", left)), ifs, block(let("a", days)))
}

func TestCompileOfGreatHooks(t *testing.T) {
	for i, l := range greatHooks() {
		for _, hook := range hookList() {
			p := emptyProduct()
			*hookIn(&p, hook) = l
			if impl.ProductCheck(p) != (impl.CheckOut{}) {
				t.Fatalf("great hook %d has a fault: %+v", i, impl.ProductCheck(p))
			}
			checkCompile(t, "great hook "+strconv.Itoa(i), p, hook, compileOf(p, hook))
		}
	}
	for i, l := range greatHooks()[:3] {
		if len(l) != impl.MaxNodes {
			t.Errorf("great hook %d has %d nodes", i, len(l))
		}
	}
	// The size, told by what each node has: a round has 11 of its own, and 3 in its two kids.
	p := emptyProduct()
	p.Tick = greatHooks()[1]
	if got := impl.CodeSize(p, impl.HookTick); got != 1+2+49*14+1 {
		t.Errorf("the hook with most rounds has a size of %d", got)
	}
	// The stack is as high as a hook can make it: of each four kids the last one is the deeper one.
	p = emptyProduct()
	deep := named("d")
	for range 5 {
		deep = call("later", named("d"), call("days", named("d"), deep))
	}
	p.Open = block(post(call("interest", named("m"), named("r"), named("d"), deep), "owed", "due"))
	checkCompile(t, "a high stack", p, impl.HookOpen, compileOf(p, impl.HookOpen))
	if high := slices.Max(impl.HeightsOf(impl.Compile(p, impl.HookOpen).Module)); high != 3+5*2+1 {
		t.Errorf("the stack is %d high", high)
	}
}

// Promise 19, and what the tests' own way tells: of made products, of what is made out of them, and of the library's.
func TestCompileOfMadeProducts(t *testing.T) {
	list, g := madeProducts(200)
	counts := map[int64]int{}
	for i, p := range list {
		p.Basis = 1 + int64(i%3)
		for _, hook := range hookList() {
			checkCompile(t, impl.ProductText(p), p, hook, compileOf(p, hook))
		}
		for range 10 {
			other := g.altered(p)
			for _, hook := range hookList() {
				want := compileOf(other, hook)
				counts[want.Code]++
				checkCompile(t, impl.ProductText(other), other, hook, want)
			}
		}
		if t.Failed() {
			return
		}
	}
	if counts[impl.OK] < 500 || counts[impl.ErrForm] < 500 {
		t.Errorf("%d altered hooks have a code, and %d have none: too few", counts[impl.OK], counts[impl.ErrForm])
	}
	for _, text := range libraryTexts() {
		for _, hook := range hookList() {
			p := impl.ProductRead(text).Product
			checkCompile(t, text[:20], p, hook, compileOf(p, hook))
		}
	}
	for i, p := range rightProducts() {
		for _, hook := range hookList() {
			checkCompile(t, "right product "+strconv.Itoa(i), p, hook, compileOf(p, hook))
		}
	}
}

// One hook of the library, all of its code.
func TestCompileOfTheLibrary(t *testing.T) {
	p := impl.ProductRead(libraryTexts()[0]).Product
	want := impl.Module{Basis: 1, Slots: 2, Spots: 4, Params: 3, Code: markedIns("gas; gas; gas; gas; bal 1; gas; param 0; gas; since; gas; today; call 1; post 2 0; " +
		"gas; gas; gas; gas; count; gas; push 1; add; gas; param 1; less; jz E; gas; gas; gas; gas; param 2; " +
		"gas; gas; count; gas; push 2; add; call 3; next; jump B; E: gas; B: end")}
	checkCompile(t, "annuity", p, impl.HookTick, impl.ModuleOut{Module: want})
}

// What Compile hands out lies neither in another answer nor in the product.
func TestCompileIsNew(t *testing.T) {
	p := roomyProduct()
	p.Tick = append(make([]impl.Node, 0, 200), block(next(plain(impl.KToday)), choice(number(impl.KBool, 1), block(), block(repeat(one(), block()))))...)
	before := copiedProduct(p)
	for _, hook := range hookList() {
		want := copiedModule(impl.Compile(p, hook).Module)
		first, second := impl.Compile(p, hook), impl.Compile(p, hook)
		code := first.Module.Code[:cap(first.Module.Code)]
		if len(want.Code) == 0 {
			t.Fatalf("hook %d has no code", hook)
		}
		for at := range code {
			code[at] = impl.Ins{Op: 77, A: 77, B: 77}
		}
		if !sameModule(second.Module, want) || !sameModule(impl.Compile(p, hook).Module, want) {
			t.Errorf("what Compile of hook %d handed out is shared", hook)
		}
		impl.CodeSize(p, hook)
	}
	if !sameProduct(p, before) || roomUsed(p) {
		t.Error("what was handed in was changed")
	}
}

// Nothing stays from one call to the next: neither a variable, nor a round, nor code.
func TestCompileKeepsNothing(t *testing.T) {
	for range 3 {
		checkCodes(t, []codeCase{
			{"let a = 1 ; repeat a { }", "gas; gas; push 1; store 0; gas; gas; load 0; store 30; L: push 0; load 30; less; jz B; gas; load 30; push 1; sub; store 30; jump L; B:"},
			{"{ }", "gas"},
		}, hookList()...)
		checkCompile(t, "a fault", hookedProduct(t, impl.HookPay, "let b = a ;"), impl.HookPay, refusedCode())
	}
}

func TestCodeSize(t *testing.T) {
	cases := map[string]int64{"": 2, "{ }": 3, "let a = 1 ;": 6, "if y { } else { }": 9, "repeat n { }": 16, "repeat n { repeat n { } }": 30,
		"post least ( m bal owed ) from owed to due ;": 10}
	for words, size := range cases {
		for _, hook := range hookList() {
			p := hookedProduct(t, hook, words)
			for other := int64(-1); other <= 5; other++ {
				want := int64(2)
				switch {
				case other == hook:
					want = size
				case other < impl.HookOpen || other > impl.HookTick:
					want = 0
				}
				if got := impl.CodeSize(p, other); got != want {
					t.Errorf("%q in hook %d: the size of hook %d is %d, not %d", words, hook, other, got, want)
				}
			}
		}
	}
	for _, hook := range append(noHooks(), hookList()...) {
		if got := impl.CodeSize(impl.Product{}, hook); got != 0 {
			t.Errorf("hook %d of the zero product has a size of %d", hook, got)
		}
		if got := impl.CodeSize(hookedProduct(t, impl.HookTick, "reject 1 ;"), hook); got != 0 {
			t.Errorf("hook %d of a product with a fault has a size of %d", hook, got)
		}
	}
}

func TestFunctionNumber(t *testing.T) {
	names := functionList()
	if len(names) != 7 {
		t.Fatalf("%d functions are listed", len(names))
	}
	for i, name := range names {
		if got := impl.FunctionNumber(strings.Clone(name)); got != int64(i+1) {
			t.Errorf("the number of %s is %d, not %d", name, got, i+1)
		}
		var near []string
		for at := range len(name) {
			for _, b := range []byte{0, ' ', 'a', 'z', '_', '0', name[at] - 32, name[at] + 1, name[at] - 1, name[at] | 128} {
				near = append(near, turned(name, at, b))
			}
			near = append(near, name[:at], name[at+1:], name[:at]+name, name[:at+1]+name[at:])
		}
		near = append(near, name+" ", name+"s", name+"\x00", name+"\n", " "+name, "\x00"+name, name+name, strings.ToUpper(name), strings.ToUpper(name[:1])+name[1:])
		for _, other := range near {
			if got := impl.FunctionNumber(other); got != 0 && !slices.Contains(names, other) {
				t.Errorf("the number of %q is %d", other, got)
			}
		}
	}
}

func TestFunctionNumberOfOtherTexts(t *testing.T) {
	list := slices.Concat(reservedList(), operatorList(), noNames(), typeNames(), []string{"", " ", "\x00", "owed", "sum", "call", "interest later", "1", "3", "later;", "(", "gas"})
	for _, size := range []int{21, 200, impl.MaxBytes - 1, impl.MaxBytes, impl.MaxBytes + 1, 3 * impl.MaxBytes} {
		list = append(list, strings.Repeat("x", size), strings.Repeat(" ", size), "share"+strings.Repeat("\x00", size-5), strings.Repeat("later", size)[:size])
	}
	for op := int64(1); op <= 26; op++ {
		list = append(list, opRow(op)[0])
	}
	for _, text := range list {
		if got := impl.FunctionNumber(text); got != 0 && !slices.Contains(functionList(), text) {
			t.Errorf("the number of %.50q is %d", text, got)
		}
	}
}
