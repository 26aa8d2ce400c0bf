package tests

import (
	"strconv"
	"strings"
	"testing"

	"loop.example/g00221/impl"
)

// hookWords: the words that stand ahead of each hook.
func hookWords() []string {
	return []string{"open", "pay", "tick"}
}

// typedText: a product's text with these words in its three hooks.
func typedText(open string, pay string, tick string) string {
	return "product plain basis 1 { contra till ; contra income ; slot owed ; slot due ; param n int 0 60 ; param m money 0.00 9.00 ; " +
		"param r rate 0.0000% 50.0000% ; param d date 2000-01-01 2099-12-31 ; param y bool false true ; " +
		"open { " + open + " } pay { " + pay + " } tick { " + tick + " } }"
}

// typedProduct: the product of that text.
func typedProduct(t *testing.T, open string, pay string, tick string) impl.Product {
	t.Helper()
	got := impl.ProductRead(typedText(open, pay, tick))
	if got.Code != impl.OK {
		t.Fatalf("no product is read of %q, %q, %q: %d at %d", open, pay, tick, got.Code, got.At)
	}
	return got.Product
}

// hookedProduct: the same with words in one hook alone.
func hookedProduct(t *testing.T, hook int64, words string) impl.Product {
	t.Helper()
	hooks := []string{"", "", ""}
	hooks[hook-1] = words
	return typedProduct(t, hooks[0], hooks[1], hooks[2])
}

// checkProduct: is that told of it, and is it as it was?
func checkProduct(t *testing.T, what string, p impl.Product, want impl.CheckOut) {
	t.Helper()
	before := copiedProduct(p)
	if got := impl.ProductCheck(p); got != want {
		t.Errorf("%s: %+v, not %+v", what, got, want)
	}
	if !sameProduct(p, before) {
		t.Errorf("%s: the product was changed", what)
	}
}

// faultCase: words of a hook, and what is told of it in each hook where nothing else is said.
type faultCase struct {
	words string
	at    int64
	code  int64
}

// checkCases: in each of these hooks.
func checkCases(t *testing.T, cases []faultCase, hooks ...int64) {
	t.Helper()
	for _, c := range cases {
		for _, hook := range hooks {
			want := impl.CheckOut{Hook: hook, At: c.at, Code: c.code}
			if c.code == impl.OK {
				want = impl.CheckOut{}
			}
			checkProduct(t, hookWords()[hook-1]+" { "+c.words+" }", hookedProduct(t, hook, c.words), want)
		}
	}
}

func TestProductCheckOfWrongProducts(t *testing.T) {
	for i, p := range wrongProducts() {
		checkProduct(t, "wrong product "+strconv.Itoa(i), p, impl.CheckOut{Code: impl.ErrForm})
		if impl.VarsOf(p, impl.HookOpen, 0) != nil || impl.VarsOf(p, impl.HookPay, 3) != nil {
			t.Errorf("wrong product %d has variables", i)
		}
	}
	p := hookedProduct(t, impl.HookOpen, "set x = 1 ;")
	p.Basis = 4
	checkProduct(t, "a fault in a product that is not right", p, impl.CheckOut{Code: impl.ErrForm})
	p = hookedProduct(t, impl.HookOpen, "set x = 1 ;")
	p.Tick = nil
	checkProduct(t, "a fault ahead of a hook that is not right", p, impl.CheckOut{Code: impl.ErrForm})
}

func TestProductCheckWithoutFault(t *testing.T) {
	for _, text := range libraryTexts() {
		checkProduct(t, text[:20], impl.ProductRead(text).Product, impl.CheckOut{})
	}
	checkProduct(t, "nothing in it", emptyProduct(), impl.CheckOut{})
	checkProduct(t, "neither Contras nor Params", impl.Product{Name: "a", Basis: 3, Slots: []string{"s"}, Open: block(),
		Pay: block(post(bal("s"), "s", "s")), Tick: block(let("s", bal("s")), post(named("s"), "s", "s"))}, impl.CheckOut{})
	checkCases(t, []faultCase{
		{words: ""}, {words: "{ } { { } }"},
		{words: "let a = 1 ; let b = 1.00 ; let c = 1.0000% ; let e = 2000-01-01 ; let f = true ; set a = n ; set b = m ; set c = r ; set e = d ; set f = y ;"},
		{words: "let a = bal owed ; let b = today ; let c = since ; let e = count ; set e = n ; set c = b ; post a from owed to due ;"},
		{words: "let a = interest ( bal owed r since today ) ; let b = instalment ( a r n d ) ; let c = later ( d n ) ; let e = days ( c d ) ;"},
		{words: "let a = least ( m m ) ; let b = most ( a share ( m r ) ) ; set a = b ; let c = days ( d later ( d 1 ) ) ; set c = n ;"},
		{words: "if ( ( n < count ) and not ( m = m ) ) { let a = 1 ; } else { let a = 1.00 ; } let a = today ;"},
		{words: "repeat ( n * count ) { post ( m * n ) from till to income ; post ( m - 1.00 ) from due to due ; }"},
		// A variable may have the name of a slot, of a contra, or of the product.
		{words: "let owed = 1 ; let till = bal owed ; let plain = ( owed + 1 ) ; post till from owed to till ; set plain = owed ;"},
	}, hookList()...)
	checkCases(t, []faultCase{{words: "let a = amount ; reject 3 ; post amount from till to owed ;"}}, impl.HookOpen, impl.HookPay)
	checkCases(t, []faultCase{{words: "next d ; next later ( today 1 ) ;"}}, impl.HookOpen, impl.HookTick)
}

func TestProductCheckNames(t *testing.T) {
	checkCases(t, []faultCase{
		{"let a = b ;", 2, impl.ErrName}, {"let a = owed ;", 2, impl.ErrName}, {"let a = till ;", 2, impl.ErrName},
		{"let a = plain ;", 2, impl.ErrName}, {"let a = ( 1 + b ) ;", 4, impl.ErrName}, {"let a = ( b + 1 ) ;", 3, impl.ErrName},
		{"let a = not b ;", 3, impl.ErrName}, {"let a = days ( today b ) ;", 4, impl.ErrName}, {"post b from owed to due ;", 2, impl.ErrName},
		{"if b { } else { }", 2, impl.ErrName}, {"repeat b { }", 2, impl.ErrName}, {"next b ;", 2, impl.ErrName},
		{"let a = 1 ; set a = b ;", 4, impl.ErrName},
		{"let a = bal till ;", 2, impl.ErrName}, {"let a = bal n ;", 2, impl.ErrName}, {"let a = bal zzz ;", 2, impl.ErrName},
		{"let a = bal plain ;", 2, impl.ErrName}, {"let a = 1.00 ; let b = bal a ;", 4, impl.ErrName},
		{"let a = least ( bal owed bal dues ) ;", 4, impl.ErrName},
		{"set a = 1 ;", 1, impl.ErrName}, {"set n = 1 ;", 1, impl.ErrName}, {"set m = 1.00 ;", 1, impl.ErrName}, {"set r = 1.0000% ;", 1, impl.ErrName},
		{"set d = today ;", 1, impl.ErrName}, {"set y = true ;", 1, impl.ErrName}, {"set owed = 1.00 ;", 1, impl.ErrName},
		{"set till = 1.00 ;", 1, impl.ErrName}, {"set plain = 1.00 ;", 1, impl.ErrName},
		{"post 1.00 from zzz to owed ;", 1, impl.ErrName}, {"post 1.00 from owed to zzz ;", 1, impl.ErrName},
		{"post 1.00 from m to owed ;", 1, impl.ErrName}, {"post 1.00 from till to m ;", 1, impl.ErrName},
		{"let a = 1.00 ; post a from a to owed ;", 3, impl.ErrName}, {"let a = 1.00 ; post a from owed to a ;", 3, impl.ErrName},
		{"post 1.00 from plain to plain ;", 1, impl.ErrName},
	}, hookList()...)
}

// A variable ahead of its KLet, within it, behind the end of its block, and in a block beside it.
func TestProductCheckOfWhatIsSeen(t *testing.T) {
	checkCases(t, []faultCase{
		{"let a = a ;", 2, impl.ErrName}, {"let a = ( 1 + a ) ;", 4, impl.ErrName},
		{"set a = 1 ; let a = 1 ;", 1, impl.ErrName}, {"let b = a ; let a = 1 ;", 2, impl.ErrName}, {"{ let b = a ; } let a = 1 ;", 3, impl.ErrName},
		{"{ let a = 1 ; } set a = 2 ;", 4, impl.ErrName}, {"{ let a = 1 ; } let b = a ;", 5, impl.ErrName},
		{"{ { let a = 1 ; } let b = a ; }", 6, impl.ErrName}, {"{ let a = 1 ; } { let b = a ; }", 6, impl.ErrName},
		{"if y { let a = 1 ; } else { set a = 1 ; }", 7, impl.ErrName}, {"if y { let a = 1 ; } else { } set a = 1 ;", 7, impl.ErrName},
		{"if y { } else { let a = 1 ; } let b = a ;", 8, impl.ErrName}, {"repeat n { let a = 1 ; } let b = a ;", 7, impl.ErrName},
		{"repeat n { let b = a ; let a = 1 ; }", 5, impl.ErrName}, {"repeat a { let a = 1 ; }", 2, impl.ErrName},
		{"if a { let a = true ; } else { let a = true ; }", 2, impl.ErrName},
		{"let a = 1 ; { let b = 1 ; { set a = b ; } set b = a ; } set a = 1 ; set b = 1 ;", 13, impl.ErrName},
		{words: "let a = 1 ; { set a = ( a + 1 ) ; { set a = 3 ; } } set a = 4 ; repeat a { set a = a ; }"},
		{words: "let a = true ; if a { set a = not a ; } else { if a { } else { set a = ( a or a ) ; } }"},
		{words: "{ let a = 1 ; set a = 2 ; } { let a = today ; set a = since ; } let a = 1.00 ; set a = bal owed ;"},
		{words: "if y { let a = 1 ; } else { let a = 1.00 ; post a from owed to due ; } repeat n { let a = true ; set a = y ; }"},
		{"{ let a = 1 ; } { let a = today ; set a = 1 ; }", 7, impl.ErrType}, {"{ let a = 1 ; } let a = true ; set a = 1 ;", 6, impl.ErrType},
	}, hookList()...)
}

func TestProductCheckOfNamesThatAreThere(t *testing.T) {
	checkCases(t, []faultCase{
		{"let a = 1 ; let a = 1 ;", 3, impl.ErrThere}, {"let a = 1 ; let a = today ;", 3, impl.ErrThere}, {"let a = 1 ; let a = a ;", 3, impl.ErrThere},
		{"let a = 1 ; { let a = 1 ; }", 4, impl.ErrThere}, {"let a = 1 ; { { let a = 1 ; } }", 5, impl.ErrThere},
		{"let a = 1 ; if y { let a = 1 ; } else { }", 6, impl.ErrThere}, {"let a = 1 ; if y { } else { let a = 1 ; }", 7, impl.ErrThere},
		{"let a = 1 ; repeat a { let a = 1 ; }", 6, impl.ErrThere}, {"{ let a = 1 ; } { let a = 2 ; let a = 3 ; }", 7, impl.ErrThere},
		{"let n = 1 ;", 1, impl.ErrThere}, {"let n = n ;", 1, impl.ErrThere}, {"let m = 1 ;", 1, impl.ErrThere}, {"let r = 1 ;", 1, impl.ErrThere},
		{"let d = 1 ;", 1, impl.ErrThere}, {"let y = 1 ;", 1, impl.ErrThere}, {"{ { let n = 1 ; } }", 3, impl.ErrThere},
		{words: "{ let a = 1 ; } let a = 1 ;"}, {words: "{ let a = 1 ; { let b = 1 ; } let b = 2 ; } let b = 1 ; let a = 1 ;"},
	}, hookList()...)
}

func TestProductCheckTypes(t *testing.T) {
	checkCases(t, []faultCase{
		{"let a = not n ;", 2, impl.ErrType}, {"let a = not not m ;", 3, impl.ErrType}, {"if 1 { } else { }", 1, impl.ErrType},
		{"if today { } else { }", 1, impl.ErrType}, {"if m { } else { }", 1, impl.ErrType}, {"if r { } else { }", 1, impl.ErrType},
		{"let a = 1 ; set a = 1.00 ;", 3, impl.ErrType}, {"let a = 1.00 ; set a = 1 ;", 3, impl.ErrType}, {"let a = y ; set a = r ;", 3, impl.ErrType},
		{"let a = today ; set a = count ;", 3, impl.ErrType}, {"let a = r ; set a = m ;", 3, impl.ErrType},
		{"post 1 from owed to due ;", 1, impl.ErrType}, {"post r from owed to due ;", 1, impl.ErrType}, {"post today from owed to due ;", 1, impl.ErrType},
		{"post y from owed to due ;", 1, impl.ErrType}, {"next 1 ;", 1, impl.ErrType}, {"next m ;", 1, impl.ErrType}, {"next r ;", 1, impl.ErrType},
		{"next y ;", 1, impl.ErrType}, {"repeat m { }", 1, impl.ErrType}, {"repeat r { }", 1, impl.ErrType}, {"repeat d { }", 1, impl.ErrType},
		{"repeat y { }", 1, impl.ErrType},
		{"let a = ( 1 + 1.00 ) ;", 2, impl.ErrType}, {"let a = ( 1 * 1.00 ) ;", 2, impl.ErrType}, {"let a = ( y < y ) ;", 2, impl.ErrType},
		{"let a = later ( today 1 1 ) ;", 2, impl.ErrType}, {"let a = later ( today ) ;", 2, impl.ErrType}, {"let a = later ( 1 today ) ;", 2, impl.ErrType},
	}, hookList()...)
	checkCases(t, []faultCase{
		{"let a = amount ;", 2, impl.ErrType}, {"post amount from till to owed ;", 2, impl.ErrType}, {"if ( m < amount ) { } else { }", 4, impl.ErrType},
		{"reject 1 ;", 1, impl.ErrType}, {"{ { reject 99 ; } }", 3, impl.ErrType}, {"if y { } else { reject 1 ; }", 5, impl.ErrType},
		{"repeat n { reject 1 ; }", 4, impl.ErrType},
	}, impl.HookTick)
	checkCases(t, []faultCase{
		{"next today ;", 1, impl.ErrType}, {"next later ( d 1 ) ;", 1, impl.ErrType}, {"if y { next d ; } else { }", 4, impl.ErrType},
		{"repeat n { next d ; }", 4, impl.ErrType}, {"next 1 ;", 1, impl.ErrType},
	}, impl.HookPay)
}

// Each operator at each two types, and each function with kids one of which is of another type, or that are too few, or
// too many.
func TestProductCheckOfOperatorsAndFunctions(t *testing.T) {
	word := []string{"", "n", "m", "r", "d", "y"}
	var cases []faultCase
	for _, text := range operatorList() {
		for a := int64(1); a <= 5; a++ {
			for b := int64(1); b <= 5; b++ {
				cases = append(cases, typedCase("( "+word[a]+" "+text+" "+word[b]+" )", opTypeOf(text, a, b)))
			}
		}
	}
	for _, name := range functionList() {
		types := typesIn(callTable()[name])
		for count := 1; count <= 4; count++ {
			kids := []string{"m", "m", "m", "m"}
			for i, kind := range types[1:] {
				kids[i] = word[kind]
			}
			result := int64(0)
			if count == len(types)-1 {
				result = types[0]
			}
			cases = append(cases, typedCase(name+" ( "+strings.Join(kids[:count], " ")+" )", result))
			for i := range types[1:] {
				for kind := int64(1); count == len(types)-1 && kind <= 5; kind++ {
					kids[i] = word[kind]
					result = map[bool]int64{true: types[0]}[kind == types[i+1]]
					cases = append(cases, typedCase(name+" ( "+strings.Join(kids[:count], " ")+" )", result))
				}
				kids[i] = word[types[i+1]]
			}
		}
	}
	checkCases(t, cases, hookList()...)
}

// typedCase: that an expression is of a type, by a Param of it to which it is held, or has a fault.
func typedCase(words string, kind int64) faultCase {
	if kind == 0 {
		return faultCase{"let a = " + words + " ;", 2, impl.ErrType}
	}
	param := []string{"", "n", "m", "r", "d", "y"}[kind]
	return faultCase{words: "let a = " + words + " ; set a = " + param + " ;"}
}

// What an expression is of, each kind of them, seen by what it can be set to.
func TestProductCheckOfExpressions(t *testing.T) {
	types := map[string]int64{"7": 1, "-7": 1, "0.07": 2, "7.0000%": 3, "2007-07-07": 4, "true": 5, "false": 5, "n": 1, "m": 2, "r": 3, "d": 4, "y": 5,
		"bal owed": 2, "bal due": 2, "today": 4, "since": 4, "count": 1, "not y": 5, "( n * n )": 1, "( m * n )": 2, "later ( d n )": 4, "days ( d d )": 1}
	for words, kind := range types {
		for other, value := range []string{"", "1", "1.00", "1.0000%", "2000-01-01", "true"} {
			if other == 0 {
				continue
			}
			c := faultCase{"let a = " + value + " ; set a = " + words + " ;", 3, impl.ErrType}
			if int64(other) == kind {
				c = faultCase{words: c.words}
			}
			checkCases(t, []faultCase{c}, hookList()...)
		}
	}
	checkCases(t, []faultCase{{words: "let a = 1.00 ; set a = amount ;"}, {"let a = 1 ; set a = amount ;", 3, impl.ErrType}}, impl.HookOpen, impl.HookPay)
}

// Two faults in one tree: which one is told.
func TestProductCheckOfTwoFaults(t *testing.T) {
	checkCases(t, []faultCase{
		// The kids in order, then the node itself.
		{"let a = ( b + c ) ;", 3, impl.ErrName}, {"let a = ( not 1 + c ) ;", 3, impl.ErrType}, {"let a = ( c + not 1 ) ;", 3, impl.ErrName},
		{"let a = ( 1 + ( 1 + 1.00 ) ) ;", 4, impl.ErrType}, {"let a = ( ( 1 + 1.00 ) + b ) ;", 3, impl.ErrType},
		{"let a = later ( 1 b ) ;", 4, impl.ErrName}, {"let a = later ( b c ) ;", 3, impl.ErrName}, {"let n = b ;", 2, impl.ErrName},
		{"let n = ( 1 + y ) ;", 2, impl.ErrType}, {"let a = 1 ; let a = b ;", 4, impl.ErrName}, {"set n = b ;", 2, impl.ErrName},
		{"set zzz = ( 1 + y ) ;", 2, impl.ErrType}, {"post b from zzz to owed ;", 2, impl.ErrName}, {"post ( 1 + y ) from zzz to owed ;", 2, impl.ErrType},
		{"post 1 from zzz to owed ;", 1, impl.ErrName}, {"post 1 from owed to zzz ;", 1, impl.ErrName}, {"set n = y ;", 1, impl.ErrName},
		{"next ( 1 + y ) ;", 2, impl.ErrType},
		// A condition is looked at behind its expression and ahead of the blocks.
		{"if b { set c = 1 ; } else { set e = 1 ; }", 2, impl.ErrName}, {"if 1 { set c = 1 ; } else { set e = 1 ; }", 1, impl.ErrType},
		{"if ( 1 + y ) { set c = 1 ; } else { }", 2, impl.ErrType}, {"if y { set c = 1 ; } else { set e = 1 ; }", 4, impl.ErrName},
		{"if y { } else { set e = 1 ; }", 5, impl.ErrName}, {"if ( 1 < b ) { set c = 1 ; } else { }", 4, impl.ErrName},
		{"repeat b { set c = 1 ; }", 2, impl.ErrName}, {"repeat y { set c = 1 ; }", 1, impl.ErrType}, {"repeat n { set c = 1 ; }", 4, impl.ErrName},
		{"repeat ( 1 + y ) { set c = 1 ; }", 2, impl.ErrType}, {"repeat y { let n = 1 ; }", 1, impl.ErrType}, {"if n { let n = 1 ; } else { }", 1, impl.ErrType},
		// Statements in order.
		{"set b = 1 ; set c = 1 ;", 1, impl.ErrName}, {"let a = 1 ; post a from owed to due ; set c = 1 ;", 3, impl.ErrType},
		{"{ let n = 1 ; } set c = 1 ;", 2, impl.ErrThere}, {"if y { } else { let n = 1 ; } let c = e ;", 5, impl.ErrThere},
		{"repeat n { next 1 ; } set b = 1 ;", 4, impl.ErrType}, {"{ { } { } } { { set b = 1 ; } } set c = 1 ;", 6, impl.ErrName},
	}, hookList()...)
	checkCases(t, []faultCase{{"next b ;", 2, impl.ErrName}, {"next today ; set b = 1 ;", 1, impl.ErrType}, {"set b = 1 ; next today ;", 1, impl.ErrName}}, impl.HookPay)
	checkCases(t, []faultCase{
		{"reject 1 ; set b = 1 ;", 1, impl.ErrType}, {"set b = 1 ; reject 1 ;", 1, impl.ErrName}, {"let n = amount ;", 2, impl.ErrType},
		{"let a = ( amount + b ) ;", 3, impl.ErrType}, {"let a = ( b + amount ) ;", 3, impl.ErrName}, {"post amount from zzz to owed ;", 2, impl.ErrType},
		{"if amount { } else { }", 2, impl.ErrType},
	}, impl.HookTick)
}

// Open ahead of pay ahead of tick; what is let in one hook is not seen in another one.
func TestProductCheckOfHooks(t *testing.T) {
	wrong, right := "let a = 1 ; set b = 1 ;", "let a = 1 ;"
	at := func(hook int64) impl.CheckOut { return impl.CheckOut{Hook: hook, At: 3, Code: impl.ErrName} }
	checkProduct(t, "all wrong", typedProduct(t, wrong, wrong, wrong), at(impl.HookOpen))
	checkProduct(t, "open and tick wrong", typedProduct(t, wrong, right, wrong), at(impl.HookOpen))
	checkProduct(t, "pay and tick wrong", typedProduct(t, right, wrong, wrong), at(impl.HookPay))
	checkProduct(t, "tick wrong", typedProduct(t, right, right, wrong), at(impl.HookTick))
	checkProduct(t, "none wrong", typedProduct(t, right, right, right), impl.CheckOut{})
	checkProduct(t, "an earlier place in a later hook", typedProduct(t, right, "set z = 1 ;", right), impl.CheckOut{Hook: impl.HookPay, At: 1, Code: impl.ErrName})
	checkProduct(t, "the variable of another hook", typedProduct(t, right, "set a = 1 ;", right), impl.CheckOut{Hook: impl.HookPay, At: 1, Code: impl.ErrName})
	checkProduct(t, "the variable of another hook", typedProduct(t, right, right, "let b = a ;"), impl.CheckOut{Hook: impl.HookTick, At: 2, Code: impl.ErrName})
	full := letsOf("v", impl.MaxVars)
	checkProduct(t, "all variables in each hook", typedProduct(t, full, full, full), impl.CheckOut{})
}

// letsOf: so many KLets, no two alike, two nodes each.
func letsOf(letter string, count int) string {
	var words []string
	for _, name := range numberedNames(letter, count) {
		words = append(words, "let "+name+" = 1 ;")
	}
	return strings.Join(words, " ")
}

func TestProductCheckOfTooManyVariables(t *testing.T) {
	full, half := letsOf("v", impl.MaxVars), letsOf("w", impl.MaxVars/2)
	checkCases(t, []faultCase{
		{words: full}, {full + " let a = 1 ;", 61, impl.ErrFull}, {full + " set v0 = 2 ; let a = 1 ;", 63, impl.ErrFull},
		{full + " { let a = 1 ; }", 62, impl.ErrFull}, {full + " if y { } else { let a = 1 ; }", 65, impl.ErrFull},
		{full + " repeat n { let a = 1 ; }", 64, impl.ErrFull},
		// Those of blocks that have ended do not count, those of blocks around do.
		{words: "{ " + half + " } " + full}, {words: "{ " + half + " } { " + half + " } { " + full + " }"}, {words: half + " { " + letsOf("x", 15) + " } let a = 1 ;"},
		{half + " { " + letsOf("x", 15) + " let a = 1 ; }", 62, impl.ErrFull}, {half + " { " + letsOf("x", 15) + " { let a = 1 ; } }", 63, impl.ErrFull},
		{words: letsOf("v", 29) + " { let a = 1 ; } { let b = 1 ; } if y { let a = 1 ; } else { let b = 1 ; } let c = 1 ;"},
		{letsOf("v", 29) + " { let a = 1 ; } let b = 1 ; let c = 1 ;", 64, impl.ErrFull}, {"{ let a = 1 ; } " + full + " let c = 1 ;", 64, impl.ErrFull},
		// ErrThere is named ahead of it, and the kid is looked at ahead of both.
		{full + " let v0 = 1 ;", 61, impl.ErrThere}, {full + " let v29 = 1 ;", 61, impl.ErrThere}, {full + " let n = 1 ;", 61, impl.ErrThere},
		{full + " let a = b ;", 62, impl.ErrName}, {full + " let v0 = b ;", 62, impl.ErrName}, {full + " let a = not 1 ;", 62, impl.ErrType},
	}, hookList()...)
}

// What the document's words say, told by the tests' own way, is what is told of products and of what is made out of them.
func TestProductCheckOfMadeProducts(t *testing.T) {
	list, g := madeProducts(150)
	counts := map[int64]int{}
	for i, p := range list {
		checkProduct(t, "made product "+strconv.Itoa(i), p, impl.CheckOut{})
		if want := checkOf(p); want != (impl.CheckOut{}) {
			t.Errorf("made product %d has a fault: %+v", i, want)
		}
		for range 30 {
			other := g.altered(p)
			want := checkOf(other)
			counts[want.Code]++
			counts[100*want.Hook]++
			checkProduct(t, "altered product "+strconv.Itoa(i), other, want)
		}
	}
	for _, key := range []int64{impl.OK, impl.ErrName, impl.ErrThere, impl.ErrType, 100, 200, 300} {
		if counts[key] < 50 {
			t.Errorf("%d altered products of sort %d: too few", counts[key], key)
		}
	}
}

// Trees of whatever right nodes, most of which have a fault near their beginning.
func TestProductCheckOfWhateverProducts(t *testing.T) {
	g := &maker{nums: someNums(20011)}
	for i := range 300 {
		p := g.product()
		checkProduct(t, "whatever product "+strconv.Itoa(i), p, checkOf(p))
	}
	for i, p := range rightProducts() {
		checkProduct(t, "right product "+strconv.Itoa(i), p, checkOf(p))
	}
}

// The deepest and the greatest trees that are right.
func TestProductCheckOfGreatHooks(t *testing.T) {
	for _, hook := range hookList() {
		p := emptyProduct()
		*hookIn(&p, hook) = deepBlock(impl.MaxDepth)
		checkProduct(t, "a deep hook", p, checkOf(p))
		value := number(impl.KBool, 1)
		for range impl.MaxDepth - 3 {
			value = not(value)
		}
		*hookIn(&p, hook) = block(let("a", value), set("a", named("y")))
		checkProduct(t, "a deep expression", p, impl.CheckOut{})
		value[len(value)-1] = impl.Node{Kind: impl.KInt}
		*hookIn(&p, hook) = block(let("a", value))
		checkProduct(t, "a fault far down", p, impl.CheckOut{Hook: hook, At: int64(len(value)), Code: impl.ErrType})
		var kids [][]impl.Node
		for range 36 {
			kids = append(kids, post(call("least", bal("owed"), named("m")), "owed", "due"))
		}
		*hookIn(&p, hook) = block(append(kids, block(post(named("m"), "due", "zzz")))...)
		checkProduct(t, "a fault far behind", p, impl.CheckOut{Hook: hook, At: 146, Code: impl.ErrName})
	}
}
