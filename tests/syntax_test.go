package tests

import (
	"slices"
	"strconv"
	"strings"
	"testing"

	"loop.example/g00221/impl"
)

// noProduct: what is told beside a code.
func noProduct(code int64, at int) impl.ProductOut {
	return impl.ProductOut{At: int64(at), Code: code}
}

// checkRead: is that told of the text?
func checkRead(t *testing.T, what string, text string, want impl.ProductOut) {
	t.Helper()
	got := impl.ProductRead(text)
	if got.Code != want.Code || got.At != want.At || !sameProduct(got.Product, want.Product) {
		t.Errorf("%s: Code %d, At %d, not %d, %d: %.300q", what, got.Code, got.At, want.Code, want.At, text)
	}
}

// The words of a product ahead of its hooks, and behind the first one.
const (
	headWords = "product plain basis 1 { slot owed ;"
	tailWords = "pay { } tick { } }"
)

// openWith: a product's text with these words in its first block.
func openWith(words string) string {
	return headWords + " open { " + words + " } " + tailWords
}

// openAt: how many words stand ahead of those.
func openAt() int {
	return len(strings.Fields(headWords)) + 2
}

// headWith: a product's text with these words ahead of its hooks.
func headWith(words string) string {
	return "product plain basis 1 { " + words + " open { } " + tailWords
}

// libraryTexts: three products that are written so in the document.
func libraryTexts() []string {
	return []string{
		`product annuity basis 1 { contra income ; contra till ; slot due ; slot owed ;
param yearly rate 0.0000% 50.0000% ; param term int 1 60 ; param start date 2000-01-01 2099-12-31 ;
open { if ( ( today = start ) and ( 0.00 < amount ) ) { post amount from till to owed ;
next later ( start 1 ) ; } else { reject 1 ; } }
pay { let fine = least ( amount bal due ) ; let rest = ( amount - fine ) ;
if ( bal owed < rest ) { reject 2 ; } else { post fine from due to till ; post rest from owed to till ; } }
tick { post interest ( bal owed yearly since today ) from income to due ;
if ( ( count + 1 ) < term ) { next later ( start ( count + 2 ) ) ; } else { } } }`,
		`product bullet basis 2 { contra income ; contra till ; slot due ; slot owed ;
param yearly rate 0.0000% 50.0000% ; param last date 2000-01-01 2099-12-31 ;
open { if ( ( today < last ) and ( 0.00 < amount ) ) { post amount from till to owed ;
next last ; } else { reject 1 ; } }
pay { if ( ( bal owed + bal due ) < amount ) { reject 2 ; } else {
let fine = least ( amount bal due ) ; post fine from due to till ;
post ( amount - fine ) from owed to till ; } }
tick { post interest ( bal owed yearly since today ) from income to due ; } }`,
		`product credit basis 3 { contra income ; contra till ; slot due ; slot owed ;
param yearly rate 0.0000% 50.0000% ; param most_owed money 1.00 10000000.00 ;
open { if ( most_owed < amount ) { reject 1 ; } else { post amount from till to owed ;
next later ( today 1 ) ; } }
pay { let fine = least ( amount bal due ) ; let rest = least ( ( amount - fine ) bal owed ) ;
post fine from due to till ; post rest from owed to till ; }
tick { post interest ( bal owed yearly since today ) from income to due ;
let part = share ( bal due 1.0000% ) ; post part from income to due ; next later ( today 1 ) ; } }`,
	}
}

// fullText: each form of the language once at least.
const fullText = "product full basis 2 { contra till ; contra gain ; slot owed ; slot due ; param a int -5 1000 ; param b money -1.00 0.05 ; " +
	"param c rate 0.0000% 100.0000% ; param d date 2000-02-29 2099-12-31 ; param e bool false true ; " +
	"open { let x = ( a + -1000000000000 ) ; set x = ( count * 0 ) ; if not ( 0.00 < -3.07 ) { reject 99 ; } else { } } " +
	"pay { post least ( amount bal owed ) from owed to till ; if ( true and false ) { { } } else { { reject 1 ; } } " +
	"repeat 3 { next later ( today x ) ; } post share ( 10000000000.00 0.0001% ) from due to due ; } " +
	"tick { let y = ( ( since <= 2000-01-01 ) or ( days ( since today ) = instalment ( x y z w ) ) ) ; let z = most ( ( v - u ) interest ( t ) ) ; } }"

// fullProduct: the product whose text that is.
func fullProduct() impl.Product {
	return impl.Product{
		Name: "full", Basis: 2, Contras: []string{"till", "gain"}, Slots: []string{"owed", "due"},
		Params: []impl.Param{{Name: "a", Type: impl.TypeInt, Low: -5, High: 1000}, {Name: "b", Type: impl.TypeMoney, Low: -100, High: 5},
			{Name: "c", Type: impl.TypeRate, Low: 0, High: 1000000}, {Name: "d", Type: impl.TypeDate, Low: 59, High: 36524},
			{Name: "e", Type: impl.TypeBool, Low: 0, High: 1}},
		Open: block(let("x", op(named("a"), "+", number(impl.KInt, -1000000000000))), set("x", op(plain(impl.KCount), "*", number(impl.KInt, 0))),
			choice(not(op(number(impl.KMoney, 0), "<", number(impl.KMoney, -307))), block(reject(99)), block())),
		Pay: block(post(call("least", plain(impl.KAmount), bal("owed")), "owed", "till"),
			choice(op(number(impl.KBool, 1), "and", number(impl.KBool, 0)), block(block()), block(block(reject(1)))),
			repeat(number(impl.KInt, 3), block(next(call("later", plain(impl.KToday), named("x"))))),
			post(call("share", number(impl.KMoney, 1000000000000), number(impl.KRate, 1)), "due", "due")),
		Tick: block(let("y", op(op(plain(impl.KSince), "<=", number(impl.KDate, 0)), "or",
			op(call("days", plain(impl.KSince), plain(impl.KToday)), "=", call("instalment", named("x"), named("y"), named("z"), named("w"))))),
			let("z", call("most", op(named("v"), "-", named("u")), call("interest", named("t"))))),
	}
}

// textOf: a right product's text as the document tells it, each node's put together out of its kids'.
func textOf(p impl.Product) string {
	words := []string{"product", p.Name, "basis", strconv.FormatInt(p.Basis, 10), "{"}
	for _, name := range p.Contras {
		words = append(words, "contra "+name+" ;")
	}
	for _, name := range p.Slots {
		words = append(words, "slot "+name+" ;")
	}
	for _, a := range p.Params {
		words = append(words, "param "+a.Name+" "+typeNames()[a.Type-1]+" "+numberOf(a.Type, a.Low)+" "+numberOf(a.Type, a.High)+" ;")
	}
	open, _ := treeText(p.Open)
	pay, _ := treeText(p.Pay)
	tick, _ := treeText(p.Tick)
	return strings.Join(append(words, "open", open, "pay", pay, "tick", tick, "}"), " ")
}

// numberOf: its text by its type.
func numberOf(kind int64, n int64) string {
	return []string{strconv.FormatInt(n, 10), impl.MoneyText(n), impl.RateText(n), impl.DateText(n), strconv.FormatBool(n == 1)}[kind-1]
}

// treeText: of the tree with which the list begins, and how many nodes it has.
func treeText(l []impl.Node) (string, int) {
	n, size := l[0], 1
	var kids []string
	for range n.Many {
		text, more := treeText(l[size:])
		kids = append(kids, text)
		size += more
	}
	forms := map[int64]string{impl.KName: "T", impl.KBal: "bal T", impl.KToday: "today", impl.KSince: "since", impl.KCount: "count",
		impl.KAmount: "amount", impl.KOp: "( 0 T 1 )", impl.KNot: "not 0", impl.KCall: "T ( K)", impl.KLet: "let T = 0 ;", impl.KSet: "set T = 0 ;",
		impl.KIf: "if 0 1 else 2", impl.KPost: "post 0 from T to M ;", impl.KReject: "reject N ;", impl.KNext: "next 0 ;",
		impl.KRepeat: "repeat 0 1", impl.KBlock: "{ K}"}
	if n.Kind <= impl.KBool {
		return numberOf(n.Kind, n.N), size
	}
	var out strings.Builder
	for _, c := range forms[n.Kind] {
		switch {
		case c == 'T':
			out.WriteString(n.Text)
		case c == 'M':
			out.WriteString(n.More)
		case c == 'N':
			out.WriteString(strconv.FormatInt(n.N, 10))
		case c == 'K':
			out.WriteString(strings.Join(append(kids, ""), " "))
		case c >= '0' && c <= '2':
			out.WriteString(kids[c-'0'])
		default:
			out.WriteRune(c)
		}
	}
	return out.String(), size
}

func TestProductText(t *testing.T) {
	if got := impl.ProductText(fullProduct()); got != fullText {
		t.Errorf("the full product is\n%s\nnot\n%s", got, fullText)
	}
	bare := impl.Product{Name: "a", Basis: 1, Slots: []string{"b"}, Open: block(), Pay: block(), Tick: block()}
	if got := impl.ProductText(bare); got != "product a basis 1 { slot b ; open { } pay { } tick { } }" {
		t.Errorf("the bare product is %s", got)
	}
	for i, p := range rightProducts() {
		if got, want := impl.ProductText(p), textOf(p); got != want {
			t.Errorf("right product %d is\n%s\nnot\n%s", i, got, want)
		}
	}
	for i, p := range append(wrongProducts(), impl.Product{}) {
		if got := impl.ProductText(p); got != "" {
			t.Errorf("wrong product %d is %s", i, got)
		}
	}
}

func TestProductTextOfEachKind(t *testing.T) {
	cases := []struct {
		l    []impl.Node
		want string
	}{
		{number(impl.KInt, 0), "0"}, {number(impl.KInt, -12), "-12"}, {number(impl.KInt, 1000000000000), "1000000000000"},
		{number(impl.KMoney, 0), "0.00"}, {number(impl.KMoney, -5), "-0.05"}, {number(impl.KMoney, 123456), "1234.56"},
		{number(impl.KRate, 0), "0.0000%"}, {number(impl.KRate, 52500), "5.2500%"}, {number(impl.KRate, 1000000), "100.0000%"},
		{number(impl.KDate, 0), "2000-01-01"}, {number(impl.KDate, 36524), "2099-12-31"}, {number(impl.KBool, 0), "false"},
		{number(impl.KBool, 1), "true"}, {named("owed"), "owed"}, {bal("owed"), "bal owed"}, {plain(impl.KToday), "today"},
		{plain(impl.KSince), "since"}, {plain(impl.KCount), "count"}, {plain(impl.KAmount), "amount"}, {not(named("a")), "not a"},
		{op(named("a"), "<=", not(one())), "( a <= not 1 )"}, {call("share", named("a")), "share ( a )"},
		{call("interest", named("a"), one(), named("b"), bal("c")), "interest ( a 1 b bal c )"},
	}
	for _, word := range operatorList() {
		cases = append(cases, struct {
			l    []impl.Node
			want string
		}{op(named("a"), word, named("b")), "( a " + word + " b )"})
	}
	for _, word := range functionList() {
		cases = append(cases, struct {
			l    []impl.Node
			want string
		}{call(word, named("a"), named("b")), word + " ( a b )"})
	}
	for _, c := range cases {
		p := impl.Product{Name: "plain", Basis: 1, Slots: []string{"owed"}, Open: block(let("x", c.l)), Pay: block(), Tick: block()}
		text := openWith("let x = " + c.want + " ;")
		if got := impl.ProductText(p); got != text {
			t.Errorf("%v is %q, not %q", c.l, got, text)
		}
		checkRead(t, "an expression", text, impl.ProductOut{Product: p})
	}
}

func TestProductTextOfStatements(t *testing.T) {
	cases := []struct {
		l    []impl.Node
		want string
	}{
		{let("a", one()), "let a = 1 ;"}, {set("a", named("b")), "set a = b ;"}, {reject(1), "reject 1 ;"}, {reject(99), "reject 99 ;"},
		{choice(named("a"), block(), block()), "if a { } else { }"},
		{choice(named("a"), block(reject(1)), block(reject(2), reject(3))), "if a { reject 1 ; } else { reject 2 ; reject 3 ; }"},
		{post(bal("a"), "b", "c"), "post bal a from b to c ;"}, {next(plain(impl.KToday)), "next today ;"},
		{repeat(one(), block()), "repeat 1 { }"}, {repeat(plain(impl.KCount), block(repeat(one(), block()))), "repeat count { repeat 1 { } }"},
		{block(), "{ }"}, {block(block(), block(reject(5))), "{ { } { reject 5 ; } }"},
	}
	for _, c := range cases {
		p := impl.Product{Name: "plain", Basis: 1, Slots: []string{"owed"}, Open: block(c.l), Pay: block(), Tick: block()}
		if got := impl.ProductText(p); got != openWith(c.want) {
			t.Errorf("%v is %q, not %q", c.l, got, openWith(c.want))
		}
		checkRead(t, "a statement", openWith(c.want), impl.ProductOut{Product: p})
	}
}

func TestProductRead(t *testing.T) {
	checkRead(t, "the full product", fullText, impl.ProductOut{Product: fullProduct()})
	for i, text := range libraryTexts() {
		got := impl.ProductRead(text)
		if got.Code != impl.OK || got.At != 0 {
			t.Errorf("library text %d: Code %d, At %d", i, got.Code, got.At)
		}
		if again := impl.ProductText(got.Product); again != strings.ReplaceAll(text, "\n", " ") {
			t.Errorf("library text %d comes back as %s", i, again)
		}
	}
}

// gapped: the words of a text with other blanks and line feeds between them, ahead of them and behind.
func gapped(text string, gaps []string) string {
	out := gaps[0]
	for i, word := range strings.Split(text, " ") {
		out += word + gaps[(i+1)%len(gaps)]
	}
	return out
}

// Promise 13: right products come back from their texts, whatever stands between the words.
func TestProductsComeBack(t *testing.T) {
	g := &maker{nums: someNums(30000)}
	list := append(rightProducts(), fullProduct())
	for range 300 {
		list = append(list, g.product())
	}
	for i, p := range list {
		what := "product " + strconv.Itoa(i)
		text := impl.ProductText(p)
		if text != textOf(p) || len(text) > impl.MaxBytes {
			t.Fatalf("%s has a wrong text: %s", what, text)
		}
		want := impl.ProductOut{Product: p}
		checkRead(t, what, text, want)
		for _, gaps := range [][]string{{"\n"}, {" ", "\n"}, {"  ", "\n\n", " \n", "\n "}} {
			if other := gapped(text, gaps); len(other) <= impl.MaxBytes {
				checkRead(t, what+" with other gaps", other, want)
			}
		}
		checkRead(t, what+" with a gap ahead", " \n"+text, want)
		checkRead(t, what+" with a gap behind", text+"\n\n ", want)
	}
}

// Promise 13: no beginning of a right product's words is a product.
func TestBeginningsAreNoProducts(t *testing.T) {
	g := &maker{nums: someNums(9000)}
	list := append(hooksOf(block()), fullProduct(), plainProduct(), greatest())
	for range 20 {
		list = append(list, g.product())
	}
	for _, p := range list {
		words := strings.Fields(impl.ProductText(p))
		for count := range len(words) {
			begun := strings.Join(words[:count], " ")
			checkRead(t, "a beginning", begun, noProduct(impl.ErrSyntax, count))
			checkRead(t, "a beginning with a gap", begun+"\n ", noProduct(impl.ErrSyntax, count))
		}
	}
}

func TestProductReadOfNoWords(t *testing.T) {
	for _, text := range []string{"", " ", "\n", " \n \n\n  ", strings.Repeat(" ", impl.MaxBytes), strings.Repeat("\n", impl.MaxBytes)} {
		checkRead(t, "no words", text, noProduct(impl.ErrSyntax, 0))
	}
}

// Only blanks and line feeds stand between words: any other byte is a part of one.
func TestProductReadOfOtherGaps(t *testing.T) {
	words := strings.Fields(headWith("slot owed ;"))
	for _, gap := range []string{"\t", "\r", "\v", "\f", "\x00", "\r\n", "\u0085", "\u00a0", "\u2003", "\xa0", "\x1f", ","} {
		for at := range len(words) - 1 {
			text := strings.Join(words[:at+1], " ") + gap + strings.Join(words[at+1:], " ")
			checkRead(t, "gap "+strconv.Quote(gap), text, noProduct(impl.ErrSyntax, at))
		}
		text := strings.Join(words, " ")
		checkRead(t, "ahead", gap+text, noProduct(impl.ErrSyntax, 0))
		checkRead(t, "behind", text+" "+gap, noProduct(impl.ErrSyntax, len(words)))
	}
	checkRead(t, "no gap", "product plain basis 1 {slot owed ; open { } "+tailWords, noProduct(impl.ErrSyntax, 4))
	checkRead(t, "no gap", headWith("slot owed; slot due ;"), noProduct(impl.ErrSyntax, 6))
}

// vocabulary: each word of the language, names, numbers of each type, and words of no kind.
func vocabulary() []string {
	return slices.Concat(reservedList(), operatorList(), []string{"{", "}", "(", ")", ";", "owed", "x", "a_1", strings.Repeat("n", 21),
		"0", "1", "99", "100", "-7", "0.00", "-5.25", "0.0000%", "12.5000%", "2024-02-29", "2023-02-29", "01", "-0", "+1", "-0.00", "1.0",
		"Owed", "_a", "9a", "a-b", "?", "\t", "\xff", "a\xc3", "==", "()", ";;", "{}"})
}

// checkWords: what is told of these words is what the test's own reader says.
func checkWords(t *testing.T, words []string) {
	t.Helper()
	text := strings.Join(words, " ")
	got, at := impl.ProductRead(text), misfit(words)
	if at >= 0 {
		if got.Code != impl.ErrSyntax || got.At != int64(at) || !sameProduct(got.Product, impl.Product{}) {
			t.Errorf("Code %d, At %d, not ErrSyntax at %d: %.300q", got.Code, got.At, at, text)
		}
		return
	}
	if got.At != 0 || got.Code != impl.OK && got.Code != impl.ErrForm {
		t.Errorf("Code %d, At %d of a product's text: %.300q", got.Code, got.At, text)
	}
	if got.Code == impl.OK && textOf(got.Product) != text {
		t.Errorf("%.300q is read as %.300q", text, textOf(got.Product))
	}
	if got.Code == impl.ErrForm && !sameProduct(got.Product, impl.Product{}) {
		t.Errorf("a product is told beside ErrForm: %.300q", text)
	}
}

// Each word at each place of some texts turned to each word of the vocabulary, or with that one ahead of it, or left out.
func TestProductReadOfOtherWords(t *testing.T) {
	texts := []string{fullText, libraryTexts()[2], openWith("reject 1 ;"), headWith("")}
	for _, text := range texts {
		words := strings.Fields(text)
		for at := range len(words) + 1 {
			for _, word := range vocabulary() {
				checkWords(t, slices.Insert(slices.Clone(words), at, word))
				if at < len(words) {
					checkWords(t, slices.Replace(slices.Clone(words), at, at+1, word))
				}
			}
			if at < len(words) {
				checkWords(t, slices.Delete(slices.Clone(words), at, at+1))
			}
		}
	}
}

// Words of the vocabulary put together at random, behind the beginning of a product.
func TestProductReadOfWhatever(t *testing.T) {
	g := &maker{nums: someNums(40000)}
	list, words := vocabulary(), strings.Fields(fullText)
	for range 6000 {
		other := slices.Clone(words[:g.below(int64(len(words)))])
		for range 1 + g.below(6) {
			other = append(other, list[g.below(int64(len(list)))])
		}
		checkWords(t, other)
	}
}

// One word that cannot stand there, where it is known by hand which one that is.
func TestProductReadTellsThePlace(t *testing.T) {
	at := openAt()
	cases := []struct {
		text string
		at   int
	}{
		{"products", 0}, {"Product plain", 0}, {"product 1", 1}, {"product product", 1}, {"product Plain", 1}, {"product plain bases", 2},
		{"product plain basis x", 3}, {"product plain basis 1.00", 3}, {"product plain basis 01", 3}, {"product plain basis -0", 3},
		{"product plain basis +1", 3}, {"product plain basis 1000000000001", 3}, {"product plain basis 99999999999999999999", 3},
		{"product plain basis 1 (", 4}, {headWith("slots"), 5}, {headWith("slot slot ;"), 6}, {headWith("slot owed due ;"), 7},
		{headWith("slot owed ; contra till ;"), 8}, {headWith("param a int 1 2 ; slot owed ;"), 11}, {headWith("param a text 1 2 ;"), 7},
		{headWith("param a int 1.00 2 ;"), 8}, {headWith("param a int 1 2.00 ;"), 9}, {headWith("param a int 1 ;"), 9},
		{headWith("param a int 1 2 3 ;"), 10}, {headWith("param int int 1 2 ;"), 6}, {headWith("contra ;"), 6},
		{"product plain basis 1 { slot owed ; pay { }", 8}, {"product plain basis 1 { slot owed ; open ;", 9},
		{"product plain basis 1 { slot owed ; open 5 pay", 9}, {"product plain basis 1 { slot owed ; open reject 5 ;", 9},
		{"product plain basis 1 { slot owed ; open { } tick", 11}, {"product plain basis 1 { slot owed ; open { } open", 11},
		{headWith("slot owed ;") + " }", 18}, {headWith("slot owed ;") + " x", 18}, {headWith("slot owed ;") + " product", 18},
		{openWith("x ;"), at}, {openWith("5 ;"), at}, {openWith("amount ;"), at}, {openWith(";"), at}, {openWith("bal owed ;"), at},
		{openWith("let 5 = 1 ;"), at + 1}, {openWith("let let = 1 ;"), at + 1}, {openWith("let x + 1 ;"), at + 2}, {openWith("let x = ;"), at + 3},
		{openWith("let x = let ;"), at + 3}, {openWith("let x = 1 }"), at + 4}, {openWith("set x == 1 ;"), at + 2},
		{openWith("if 1 reject 1 ;"), at + 2}, {openWith("if 1 { } { }"), at + 4}, {openWith("if 1 { } else reject 1 ;"), at + 5},
		{openWith("if { } else { }"), at + 1}, {openWith("else { }"), at}, {openWith("repeat { }"), at + 1}, {openWith("repeat 1 reject 1 ;"), at + 2},
		{openWith("post 1 to a from b ;"), at + 2}, {openWith("post 1 from bank to b ;"), at + 3}, {openWith("post 1 from a to 5 ;"), at + 5},
		{openWith("post 1 from a b ;"), at + 4}, {openWith("next ;"), at + 1}, {openWith("next 1 2 ;"), at + 2},
		{openWith("next ( 1 ) ;"), at + 3}, {openWith("next ( 1 + ) ;"), at + 4}, {openWith("next ( 1 + 2 + 3 ) ;"), at + 5},
		{openWith("next 1 + 2 ;"), at + 2}, {openWith("next ( + 1 2 ) ;"), at + 2}, {openWith("next ( 1 > 2 ) ;"), at + 3},
		{openWith("next ( 1 not 2 ) ;"), at + 3}, {openWith("next ( 1 -2 ) ;"), at + 3}, {openWith("next ( 1 - -2 ;"), at + 5},
		{openWith("next later today 1 ;"), at + 2}, {openWith("next later ( today , 1 ) ;"), at + 4}, {openWith("next round ( 1 ) ;"), at + 2},
		{openWith("next bal 5 ;"), at + 2}, {openWith("next bal today ;"), at + 2}, {openWith("next not ;"), at + 2}, {openWith("next - 1 ;"), at + 1},
		{openWith("next today ( ) ;"), at + 2}, {openWith("next bank ;"), at + 1}, {openWith("next true false ;"), at + 2},
	}
	for _, c := range cases {
		checkRead(t, "a word that cannot stand there", c.text, noProduct(impl.ErrSyntax, c.at))
	}
}

// Numbers that are not written right for their type, or not in its bounds, stand nowhere.
func TestProductReadOfNumbers(t *testing.T) {
	right := map[string][]string{
		"int":   {"0", "1", "-1", "10", "1000000000000", "-1000000000000"},
		"money": {"0.00", "0.01", "-0.01", "1.50", "10000000000.00", "-10000000000.00"},
		"rate":  {"0.0000%", "0.0001%", "9.9900%", "100.0000%"}, "date": {"2000-01-01", "2000-02-29", "2099-12-31"}, "bool": {"true", "false"},
	}
	wrong := []string{"00", "01", "-0", "-01", "+1", "1e3", "0x1", "1_0", "1000000000001", "-1000000000001", "9223372036854775808",
		"99999999999999999999999", "-", "--1", "1-", "0.0", ".00", "0.", "00.00", "-0.00", "+1.00", "1.000", "1,00", "10000000000.01",
		"-10000000000.01", "1.00%", "0%", "0.0000", "00.0000%", "-1.0000%", "100.0001%", "1000.0000%", "5%", "2000-1-1", "2000-00-01",
		"2000-01-00", "2000-13-01", "2001-02-29", "2000-04-31", "1999-12-31", "2100-01-01", "-2000-01-01", "2000-01-01x", "20000101",
		"2000/01/01", "True", "FALSE", "yes", "\u0661", "1\x00", "1;"}
	at := openAt()
	for kind, list := range right {
		for _, word := range list {
			if got := impl.ProductRead(openWith("next " + word + " ;")); got.Code != impl.OK || textOf(got.Product) != openWith("next "+word+" ;") {
				t.Errorf("%s is read as %v", word, got)
			}
			for _, other := range typeNames() {
				text := headWith("slot owed ; param a " + other + " " + word + " " + word + " ;")
				if got := impl.ProductRead(text); other == kind && (got.Code != impl.OK || textOf(got.Product) != text) {
					t.Errorf("%s is read as %v", text, got)
				}
				if other != kind {
					checkRead(t, "a number of another type", text, noProduct(impl.ErrSyntax, 11))
				}
			}
		}
	}
	for _, word := range wrong {
		if word != "yes" && word != "20000101" {
			checkRead(t, "no number", openWith("next "+word+" ;"), noProduct(impl.ErrSyntax, at+1))
		}
		for _, kind := range typeNames() {
			if kind == "int" && word == "20000101" {
				continue
			}
			checkRead(t, "no Low", headWith("slot owed ; param a "+kind+" "+word+" "+right[kind][0]+" ;"), noProduct(impl.ErrSyntax, 11))
			checkRead(t, "no High", headWith("slot owed ; param a "+kind+" "+right[kind][0]+" "+word+" ;"), noProduct(impl.ErrSyntax, 12))
		}
	}
	for _, word := range []string{"0", "100", "101", "-1", "01", "1.00", "1000000000000", "x", "true", ";", "+1"} {
		checkRead(t, "no reject", openWith("reject "+word+" ;"), noProduct(impl.ErrSyntax, at+1))
	}
	for _, word := range []string{"1", "9", "10", "98", "99"} {
		if got := impl.ProductRead(openWith("reject " + word + " ;")); got.Code != impl.OK {
			t.Errorf("reject %s: Code %d", word, got.Code)
		}
	}
}

// wordsOf: so many of these, one behind the other.
func wordsOf(count int, words string) string {
	return strings.Join(slices.Repeat([]string{words}, count), " ")
}

// slotsOf: so many names, each behind that word.
func slotsOf(word string, letter string, count int) string {
	out := ""
	for _, name := range numberedNames(letter, count) {
		out += word + " " + name + " ; "
	}
	return out
}

// A product that is read and not right is ErrForm, with At 0; with one less of what is too much it is right.
func TestProductReadOfWrongProducts(t *testing.T) {
	long := strings.Repeat("n", 21)
	params := "slot owed ;"
	for _, name := range numberedNames("p", 8) {
		params += " param " + name + " bool true true ;"
	}
	cases := []struct{ wrong, right string }{
		{strings.Replace(headWith("slot owed ;"), "basis 1", "basis 0", 1), headWith("slot owed ;")},
		{strings.Replace(headWith("slot owed ;"), "basis 1", "basis 4", 1), strings.Replace(headWith("slot owed ;"), "basis 1", "basis 3", 1)},
		{strings.Replace(headWith("slot owed ;"), "basis 1", "basis -1", 1), strings.Replace(headWith("slot owed ;"), "basis 1", "basis 2", 1)},
		{strings.Replace(headWith("slot owed ;"), "basis 1", "basis 1000000000000", 1), headWith("slot owed ;")},
		{strings.Replace(headWith("slot owed ;"), "plain", long, 1), strings.Replace(headWith("slot owed ;"), "plain", long[1:], 1)},
		{headWith(""), headWith("slot owed ;")}, {headWith("contra till ;"), headWith("contra till ; slot owed ;")},
		{headWith(slotsOf("slot", "s", 7)), headWith(slotsOf("slot", "s", 6))},
		{headWith(slotsOf("contra", "c", 5) + "slot owed ;"), headWith(slotsOf("contra", "c", 4) + "slot owed ;")},
		{headWith(params + " param q bool true true ;"), headWith(params)},
		{headWith("slot owed ; slot owed ;"), headWith("slot owed ; slot owe ;")}, {headWith("contra owed ; slot owed ;"), headWith("contra owe ; slot owed ;")},
		{headWith("slot owed ; param owed int 1 1 ;"), headWith("slot owed ; param plain int 1 1 ;")},
		{headWith("slot " + long + " ;"), headWith("slot " + long[1:] + " ;")},
		{headWith("contra " + long + " ; slot owed ;"), headWith("contra " + long[1:] + " ; slot owed ;")},
		{headWith("slot owed ; param " + long + " int 1 1 ;"), headWith("slot owed ; param " + long[1:] + " int 1 1 ;")},
		{headWith("slot owed ; param a int 2 1 ;"), headWith("slot owed ; param a int 1 1 ;")},
		{headWith("slot owed ; param a money 0.01 0.00 ;"), headWith("slot owed ; param a money 0.01 0.01 ;")},
		{headWith("slot owed ; param a rate 0.0001% 0.0000% ;"), headWith("slot owed ; param a rate 0.0000% 0.0001% ;")},
		{headWith("slot owed ; param a date 2000-01-02 2000-01-01 ;"), headWith("slot owed ; param a date 2000-01-01 2000-01-02 ;")},
		{headWith("slot owed ; param a bool true false ;"), headWith("slot owed ; param a bool false true ;")},
		{openWith("next later ( ) ;"), openWith("next later ( 1 ) ;")}, {openWith("next later ( 1 1 1 1 1 ) ;"), openWith("next later ( 1 1 1 1 ) ;")},
		{openWith(wordsOf(41, "reject 1 ;")), openWith(wordsOf(40, "reject 1 ;"))}, {openWith("{ " + wordsOf(41, "{ }") + " }"), openWith("{ " + wordsOf(40, "{ }") + " }")},
		{openWith(wordsOf(3, "{ "+wordsOf(40, "{ }")+" }") + wordsOf(27, " { }")), openWith(wordsOf(3, "{ "+wordsOf(40, "{ }")+" }") + wordsOf(26, " { }"))},
		{openWith(wordsOf(20, "{") + " " + wordsOf(20, "}")), openWith(wordsOf(19, "{") + " " + wordsOf(19, "}"))},
		{openWith("next " + wordsOf(18, "not") + " 1 ;"), openWith("next " + wordsOf(17, "not") + " 1 ;")},
	}
	for _, form := range []string{"next NAME ;", "next bal NAME ;", "let NAME = 1 ;", "set NAME = 1 ;", "post 1 from NAME to a ;", "post 1 from a to NAME ;"} {
		cases = append(cases, struct{ wrong, right string }{
			openWith(strings.Replace(form, "NAME", long, 1)), openWith(strings.Replace(form, "NAME", long[1:], 1))})
	}
	for _, c := range cases {
		checkRead(t, "a product that is not right", c.wrong, noProduct(impl.ErrForm, 0))
		if got := impl.ProductRead(c.right); got.Code != impl.OK || got.At != 0 || textOf(got.Product) != strings.Join(strings.Fields(c.right), " ") {
			t.Errorf("Code %d, At %d of a right product: %.300q", got.Code, got.At, c.right)
		}
		// A fault of its words comes first, wherever it stands.
		checkRead(t, "a word left behind one that is not right", c.wrong+" ;", noProduct(impl.ErrSyntax, len(strings.Fields(c.wrong))))
	}
}

// A text of MaxBytes bytes is read, one with a byte more is not.
func TestProductReadSize(t *testing.T) {
	text := impl.ProductText(plainProduct())
	for _, gap := range []string{" ", "\n"} {
		fill := strings.Repeat(gap, impl.MaxBytes-len(text))
		want := impl.ProductOut{Product: plainProduct()}
		checkRead(t, "filled behind", text+fill, want)
		checkRead(t, "filled ahead", fill+text, want)
		checkRead(t, "filled within", strings.Replace(text, " ", " "+fill, 1), want)
		checkRead(t, "one byte too many", text+fill+gap, noProduct(impl.ErrSize, 0))
		checkRead(t, "one blank too many", fill+text+" ", noProduct(impl.ErrSize, 0))
	}
	for _, text := range []string{strings.Repeat("x", impl.MaxBytes), strings.Repeat("x ", impl.MaxBytes/2)} {
		checkRead(t, "words of no product", text, noProduct(impl.ErrSyntax, 0))
		checkRead(t, "and one byte more", text+"x", noProduct(impl.ErrSize, 0))
	}
	checkRead(t, "far too much", strings.Repeat(text, 1000), noProduct(impl.ErrSize, 0))
	long := strings.Repeat("a", impl.MaxBytes-len(headWith("slot owed ;"))+len("plain"))
	named := strings.Replace(headWith("slot owed ;"), "plain", long, 1)
	checkRead(t, "a very long name", named, noProduct(impl.ErrForm, 0))
	checkRead(t, "one byte longer", named+" ", noProduct(impl.ErrSize, 0))
}

// However deep and large a text is, it is read to its end.
func TestProductReadOfGreatTexts(t *testing.T) {
	at := openAt()
	for _, form := range []string{"{ ", "if 1 { ", "repeat 1 { ", "next ( ", "next not ", "next later ( ", "next later ( 1 "} {
		first, more := form, form
		if rest, isValue := strings.CutPrefix(form, "next "); isValue {
			more = rest
		}
		text := headWords + " open { " + first
		for len(text)+len(more) <= impl.MaxBytes {
			text += more
		}
		checkRead(t, "a text that goes down to its end", text, noProduct(impl.ErrSyntax, len(strings.Fields(text))))
	}
	depth := (impl.MaxBytes - len(openWith(""))) / 4
	checkRead(t, "blocks", openWith(wordsOf(depth, "{")+" "+wordsOf(depth, "}")), noProduct(impl.ErrForm, 0))
	checkRead(t, "blocks, one end too many", openWith(wordsOf(depth-1, "{")+" "+wordsOf(depth, "}")), noProduct(impl.ErrSyntax, at+2*depth-1))
	checkRead(t, "nots", openWith("next "+wordsOf(4000, "not")+" 1 ;"), noProduct(impl.ErrForm, 0))
	checkRead(t, "many kids", openWith("next later ( "+wordsOf(8000, "1")+" ) ;"), noProduct(impl.ErrForm, 0))
	checkRead(t, "many statements", openWith(wordsOf(1500, "reject 1 ;")), noProduct(impl.ErrForm, 0))
	checkRead(t, "many slots", headWith(slotsOf("slot", "s", 1000)), noProduct(impl.ErrForm, 0))
}
