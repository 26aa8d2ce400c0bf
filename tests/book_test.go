package tests

import (
	"math"
	"slices"
	"strconv"
	"strings"
	"testing"

	"loop.example/g00221/impl"
)

// spot: by its two names.
func spot(account string, slot string) impl.Spot {
	return impl.Spot{Account: account, Slot: slot}
}

// line: by its spot's names and its balance.
func line(account string, slot string, balance int64) impl.Line {
	return impl.Line{Spot: spot(account, slot), Balance: balance}
}

// leg: by its fields, in their order.
func leg(from impl.Spot, to impl.Spot, amount int64) impl.Leg {
	return impl.Leg{From: from, To: to, Amount: amount}
}

// lines: a Book of these, without Ids.
func lines(list ...impl.Line) impl.Book {
	return impl.Book{Lines: list}
}

// ids: a Book of these, without Lines.
func ids(list ...string) impl.Book {
	return impl.Book{Ids: list}
}

// Spots of the plain book, and one that it has not.
var (
	annDue  = impl.Spot{Account: "ann", Slot: "due"}
	annOwed = impl.Spot{Account: "ann", Slot: "owed"}
	income  = impl.Spot{Account: "bank", Slot: "income"}
	till    = impl.Spot{Account: "bank", Slot: "till"}
	bobOwed = impl.Spot{Account: "bob", Slot: "owed"}
)

// plainBook: a right book in which one thing at a time is turned.
func plainBook() impl.Book {
	return impl.Book{
		Lines: []impl.Line{{Spot: annDue, Balance: 300}, {Spot: annOwed, Balance: 10000}, {Spot: income, Balance: -300}, {Spot: till, Balance: -10000}},
		Ids:   []string{"c", "e"},
	}
}

// numbered: a letter and two digits, so that names rise with their numbers.
func numbered(letter string, n int) string {
	if n < 10 {
		return letter + "0" + strconv.Itoa(n)
	}
	return letter + strconv.Itoa(n)
}

// manyLines: so many, two by two with that much and its opposite; an odd last one has nothing.
func manyLines(count int, balance int64) []impl.Line {
	var list []impl.Line
	for i := range count {
		list = append(list, line(numbered("a", i/7), numbered("s", i%7), balance))
		balance = -balance
		if i == count-1 && count%2 == 1 {
			list[i].Balance = 0
		}
	}
	return list
}

// manyIds: so many, rising.
func manyIds(count int) []string {
	var list []string
	for i := range count {
		list = append(list, numbered("i"+numbered("x", i/50), i%50))
	}
	return list
}

// manyLegs: so many of one kind.
func manyLegs(count int, one impl.Leg) []impl.Leg {
	var list []impl.Leg
	for range count {
		list = append(list, one)
	}
	return list
}

// noNames: texts that are none.
func noNames() []string {
	return []string{"", "A", "Ann", "1a", "_a", "a b", "a-b", "a\x00", "a\n", "\xe4", "a\xff", "\u00e9",
		strings.Repeat("a", 21), strings.Repeat("a", impl.MaxBytes+1)}
}

// copied: a Book of its own.
func copied(b impl.Book) impl.Book {
	return impl.Book{Lines: slices.Clone(b.Lines), Ids: slices.Clone(b.Ids)}
}

// sameBook: are all Lines and Ids the same?
func sameBook(a impl.Book, b impl.Book) bool {
	return slices.Equal(a.Lines, b.Lines) && slices.Equal(a.Ids, b.Ids)
}

// sameOut: is all that is told the same?
func sameOut(a impl.BookOut, b impl.BookOut) bool {
	return sameBook(a.Book, b.Book) && a.Place == b.Place && a.Code == b.Code
}

// noBook: a code, a place, and nothing beside them.
func noBook(code int64, place int64) impl.BookOut {
	return impl.BookOut{Code: code, Place: place}
}

// told: a Book, and nothing beside it.
func told(b impl.Book) impl.BookOut {
	return impl.BookOut{Book: b}
}

// rightBooks: ordinary ones, and those at each edge.
func rightBooks() []impl.Book {
	const most = impl.MaxMoney
	long := strings.Repeat("z", 20)
	return []impl.Book{
		{}, {Lines: []impl.Line{}, Ids: []string{}}, plainBook(),
		lines(line("a", "b", 0)),
		lines(line("a", "b", most), line("a", "c", -most)),
		lines(line("a", "b", -most), line("a", "c", most)),
		lines(line("a", "b", most), line("a", "c", -most+1), line("a", "d", -1)),
		// By Account ahead of Slot; the shorter one first, if it begins the other; digits, `_`, then letters.
		lines(line("a", "z", 0), line("b", "a", 0)),
		lines(line("a", "a", 1), line("a", "aa", 1), line("a", "ab", -2)),
		lines(line("a", "z", 0), line("aa", "b", 0), line("ab", "a", 0)),
		lines(line("a", "a0", 0), line("a", "a9", 0), line("a", "a_", 0), line("a", "aa", 0)),
		lines(line(long, long, 0)),
		lines(line("ab", "c", 0), line("abc", "a", 0)),
		{Lines: manyLines(impl.MaxLines-1, most)},
		{Lines: manyLines(impl.MaxLines, most)},
		{Lines: manyLines(impl.MaxLines, 7), Ids: manyIds(impl.MaxIds)},
		ids("a"), ids("a", "b"), ids("a", "a0", "a_", "aa", "b"), ids(long),
		{Ids: manyIds(impl.MaxIds - 1)}, {Ids: manyIds(impl.MaxIds)},
		// Names of an account, a slot and an id are not held against each other, nor against words.
		{Lines: []impl.Line{line("bank", "bank", 0)}, Ids: []string{"bank"}},
		lines(line("if", "else", 5), line("product", "slot", -5)),
	}
}

// wrongBooks: each has one fault.
func wrongBooks() []impl.Book {
	const most = impl.MaxMoney
	list := []impl.Book{
		{Lines: manyLines(impl.MaxLines+1, 0)}, {Lines: manyLines(impl.MaxLines+2, 9)},
		{Lines: manyLines(impl.MaxList+1, 0)}, {Lines: make([]impl.Line, 100000)},
		{Ids: manyIds(impl.MaxIds + 1)}, {Ids: manyIds(impl.MaxList + 1)}, {Ids: make([]string, 100000)},
		// Lines that do not rise, by Account, by Slot, and the same twice.
		lines(line("b", "a", 0), line("a", "a", 0)), lines(line("b", "a", 0), line("a", "b", 0)),
		lines(line("a", "b", 0), line("a", "a", 0)), lines(line("a", "aa", 0), line("a", "a", 0)),
		lines(line("aa", "a", 0), line("a", "b", 0)), lines(line("a", "aa", 0), line("a", "a_", 0)),
		lines(line("a", "b", 0), line("a", "b", 0)), lines(line("a", "b", 5), line("a", "b", -5)),
		lines(line("a", "a", 0), line("b", "b", 0), line("b", "b", 0), line("c", "c", 0)),
		lines(line("a", "a", 0), line("c", "c", 0), line("b", "b", 0), line("d", "d", 0)),
		// Balances that are not nought together.
		lines(line("a", "b", 1)), lines(line("a", "b", -1)), lines(line("a", "b", most)),
		lines(line("a", "b", most), line("a", "c", -most+1)), lines(line("a", "b", 5), line("a", "c", 5)),
		lines(line("a", "b", -5), line("a", "c", -5)), lines(line("a", "b", most), line("a", "c", most)),
		// No money, though nought together.
		lines(line("a", "b", most+1), line("a", "c", -most-1)), lines(line("a", "b", -most-1), line("a", "c", most+1)),
		lines(line("a", "b", most+1), line("a", "c", -most), line("a", "d", -1)),
		lines(line("a", "b", -most-1), line("a", "c", most), line("a", "d", 1)),
		lines(line("a", "b", math.MaxInt64), line("a", "c", -math.MaxInt64)),
		lines(line("a", "b", math.MinInt64), line("a", "c", math.MinInt64)), lines(line("a", "b", math.MinInt64)),
		ids("b", "a"), ids("a", "a"), ids("a", "b", "b"), ids("aa", "a"), ids("a", "c", "b"), ids("aa", "a_"),
	}
	uneven := manyLines(impl.MaxLines, most)
	uneven[17].Balance++
	list = append(list, impl.Book{Lines: uneven})
	for _, name := range noNames() {
		list = append(list, lines(line(name, "a", 0)), lines(line("a", name, 0)), ids(name), ids("a", name))
		list = append(list, lines(line("a", "a", 0), line("b", name, 0)), lines(line("a", "a", 0), line(name, "b", 0)))
	}
	return list
}

func TestBookConstants(t *testing.T) {
	if impl.MaxLines != 60 || impl.MaxIds != 100 || impl.MaxLegs != 20 {
		t.Error("a bound is another one")
	}
}

func TestBookRight(t *testing.T) {
	for i, b := range rightBooks() {
		if !impl.BookRight(b) {
			t.Errorf("right book %d, %.300v, is not right", i, b)
		}
	}
	for i, b := range wrongBooks() {
		if impl.BookRight(b) {
			t.Errorf("wrong book %d, of %d lines and %d ids, is right", i, len(b.Lines), len(b.Ids))
		}
	}
}

// One hundredth more or less, at whatever line of a full book, is seen, also where balances are great.
func TestBookRightToTheHundredth(t *testing.T) {
	for _, balance := range []int64{0, 1, 33, 999999999999, impl.MaxMoney - 1} {
		for i := range impl.MaxLines {
			for _, more := range []int64{1, -1} {
				b := impl.Book{Lines: manyLines(impl.MaxLines, balance)}
				b.Lines[i].Balance += more
				if impl.BookRight(b) {
					t.Fatalf("a book of %d with %d more at line %d is right", balance, more, i)
				}
				b.Lines[(i+30)%impl.MaxLines].Balance -= more
				if !impl.BookRight(b) {
					t.Fatalf("a book of %d with %d moved from line %d is not right", balance, more, i)
				}
			}
		}
	}
}

func TestBookOpen(t *testing.T) {
	full := impl.Book{Lines: manyLines(impl.MaxLines, 4)}
	almost := impl.Book{Lines: manyLines(impl.MaxLines-1, 4), Ids: manyIds(impl.MaxIds)}
	last := line("z", "z", 0)
	two := impl.Book{Lines: []impl.Line{line("b", "b", 5), line("d", "d", -5)}, Ids: []string{"x", "y"}}
	with := func(at int, l impl.Line) impl.BookOut {
		b := copied(two)
		b.Lines = slices.Insert(b.Lines, at, l)
		return told(b)
	}
	cases := []struct {
		b    impl.Book
		at   impl.Spot
		want impl.BookOut
	}{
		{impl.Book{}, spot("a", "b"), told(lines(line("a", "b", 0)))},
		{ids("a"), spot("a", "a"), told(impl.Book{Lines: []impl.Line{line("a", "a", 0)}, Ids: []string{"a"}})},
		{two, spot("a", "z"), with(0, line("a", "z", 0))},
		{two, spot("b", "a"), with(0, line("b", "a", 0))},
		{two, spot("b", "b0"), with(1, line("b", "b0", 0))},
		{two, spot("b", "c"), with(1, line("b", "c", 0))},
		{two, spot("b0", "a"), with(1, line("b0", "a", 0))},
		{two, spot("c", "z"), with(1, line("c", "z", 0))},
		{two, spot("d", "a"), with(1, line("d", "a", 0))},
		{two, spot("d", "e"), with(2, line("d", "e", 0))},
		{two, spot("da", "a"), with(2, line("da", "a", 0))},
		{two, spot("z", "a"), with(2, line("z", "a", 0))},
		{two, spot("b", "b"), noBook(impl.ErrThere, 0)},
		{two, spot("d", "d"), noBook(impl.ErrThere, 0)},
		{almost, last.Spot, told(impl.Book{Lines: append(manyLines(impl.MaxLines-1, 4), last), Ids: manyIds(impl.MaxIds)})},
		{full, spot("z", "z"), noBook(impl.ErrFull, 0)},
		{full, spot("a", "a"), noBook(impl.ErrFull, 0)},
		// Also in a full Book a line that is there is named first, and a name that is none ahead of both.
		{full, full.Lines[0].Spot, noBook(impl.ErrThere, 0)},
		{full, full.Lines[59].Spot, noBook(impl.ErrThere, 0)},
		{full, spot("z", ""), noBook(impl.ErrForm, 0)},
		{full, spot("A", "z"), noBook(impl.ErrForm, 0)},
	}
	for _, c := range cases {
		if got := impl.BookOpen(c.b, c.at); !sameOut(got, c.want) {
			t.Errorf("BookOpen(%.200v, %v) is %.300v, not %.300v", c.b, c.at, got, c.want)
		}
	}
}

func TestBookOpenWrong(t *testing.T) {
	for _, name := range noNames() {
		for _, at := range []impl.Spot{spot(name, "a"), spot("a", name), spot(name, name)} {
			if got := impl.BookOpen(plainBook(), at); !sameOut(got, noBook(impl.ErrForm, 0)) {
				t.Errorf("BookOpen at %.100v is %v", at, got)
			}
		}
	}
	for i, b := range wrongBooks() {
		for _, at := range []impl.Spot{spot("q", "q"), spot("a", "b"), spot("a00", "s00"), {}} {
			if got := impl.BookOpen(b, at); !sameOut(got, noBook(impl.ErrForm, 0)) {
				t.Errorf("BookOpen of wrong book %d is %.300v", i, got)
			}
		}
	}
}

// Promise 10: a line that is opened has nothing, and leaves all others, wherever it comes to stand.
func TestBookOpenLeavesOthers(t *testing.T) {
	var b impl.Book
	for i := range impl.MaxLines {
		// 37 and 60 have no common part: each number comes once, not in order.
		n := i * 37 % impl.MaxLines
		at := spot(numbered("a", n/7), numbered("s", n%7))
		if impl.BookBalance(b, at) != refused(impl.ErrNone) {
			t.Fatalf("%v is there ahead of time", at)
		}
		next := impl.BookOpen(b, at)
		if next.Code != impl.OK || next.Place != 0 || !impl.BookRight(next.Book) || len(next.Book.Lines) != i+1 {
			t.Fatalf("BookOpen at %v is %v", at, next)
		}
		if impl.BookBalance(next.Book, at) != money(0) {
			t.Fatalf("%v has something at first", at)
		}
		if !slices.Equal(next.Book.Ids, b.Ids) {
			t.Fatalf("the ids behind BookOpen at %v are %v", at, next.Book.Ids)
		}
		for _, l := range b.Lines {
			if impl.BookBalance(next.Book, l.Spot) != money(l.Balance) {
				t.Fatalf("BookOpen at %v does not leave %v", at, l)
			}
		}
		if again := impl.BookOpen(next.Book, at); !sameOut(again, noBook(impl.ErrThere, 0)) {
			t.Fatalf("BookOpen at %v once more is %v", at, again)
		}
		b = next.Book
		if i > 0 {
			b = impl.BookPost(b, numbered("p", i), []impl.Leg{leg(b.Lines[0].Spot, at, int64(i))}).Book
		}
	}
}

func TestBookBalance(t *testing.T) {
	b := plainBook()
	cases := []struct {
		at   impl.Spot
		want impl.MoneyOut
	}{
		{annDue, money(300)},
		{annOwed, money(10000)},
		{income, money(-300)},
		{till, money(-10000)},
		{bobOwed, refused(impl.ErrNone)},
		{spot("ann", "till"), refused(impl.ErrNone)},
		{spot("bank", "due"), refused(impl.ErrNone)},
		{spot("annd", "ue"), refused(impl.ErrNone)},
		{spot("due", "ann"), refused(impl.ErrNone)},
		{spot("ann", "du"), refused(impl.ErrNone)},
		{spot("ann", "dues"), refused(impl.ErrNone)},
		{impl.Spot{}, refused(impl.ErrNone)},
	}
	for _, c := range cases {
		if got := impl.BookBalance(b, c.at); got != c.want {
			t.Errorf("BookBalance at %v is %v, not %v", c.at, got, c.want)
		}
	}
	// No line has a name that is none: nothing else is said of such a spot.
	for _, name := range noNames() {
		if impl.BookBalance(b, spot(name, "due")) != refused(impl.ErrNone) || impl.BookBalance(b, spot("ann", name)) != refused(impl.ErrNone) {
			t.Errorf("BookBalance at %.50q is another one", name)
		}
	}
}

func TestBookBalanceOfBooks(t *testing.T) {
	for i, b := range rightBooks() {
		for _, l := range b.Lines {
			if got := impl.BookBalance(b, l.Spot); got != money(l.Balance) {
				t.Errorf("BookBalance of right book %d at %v is %v", i, l, got)
			}
		}
		if got := impl.BookBalance(b, spot("no", "such")); got != refused(impl.ErrNone) {
			t.Errorf("BookBalance of right book %d at no line is %v", i, got)
		}
	}
	for i, b := range wrongBooks() {
		at := impl.Spot{}
		if len(b.Lines) > 0 {
			at = b.Lines[0].Spot
		}
		if impl.BookBalance(b, at) != refused(impl.ErrForm) || impl.BookBalance(b, spot("no", "such")) != refused(impl.ErrForm) {
			t.Errorf("BookBalance of wrong book %d is not refused with ErrForm", i)
		}
	}
}

// rightLegs: ordinary ones, and those at each edge.
func rightLegs() [][]impl.Leg {
	long := strings.Repeat("z", 20)
	return [][]impl.Leg{
		nil, {}, {leg(till, annOwed, 500)},
		{leg(till, annOwed, 0)}, {leg(till, annOwed, 1)}, {leg(till, annOwed, impl.MaxMoney)},
		// Whether such lines are there is nothing that legs tell.
		{leg(till, till, 5)}, {leg(spot("a", "b"), spot("b", "a"), 5)}, {leg(spot(long, long), spot(long, "a"), 5)},
		{leg(till, annOwed, 1), leg(annOwed, till, 2), leg(till, annOwed, 1)},
		manyLegs(impl.MaxLegs-1, leg(till, annDue, impl.MaxMoney)), manyLegs(impl.MaxLegs, leg(till, annDue, impl.MaxMoney)),
	}
}

// wrongLegs: each list has one fault.
func wrongLegs() [][]impl.Leg {
	list := [][]impl.Leg{
		manyLegs(impl.MaxLegs+1, leg(till, annDue, 1)), manyLegs(impl.MaxList, leg(till, annDue, 1)),
		{{}}, {leg(impl.Spot{}, annOwed, 5)}, {leg(till, impl.Spot{}, 5)},
	}
	fine := leg(till, annOwed, 5)
	for _, amount := range []int64{-1, -500, impl.MaxMoney + 1, -impl.MaxMoney, -impl.MaxMoney - 1, math.MaxInt64, math.MinInt64} {
		list = append(list, []impl.Leg{leg(till, annOwed, amount)}, []impl.Leg{fine, leg(till, annOwed, amount)})
	}
	for _, name := range noNames() {
		for _, at := range []impl.Spot{spot(name, "a"), spot("a", name)} {
			list = append(list, []impl.Leg{leg(at, till, 5)}, []impl.Leg{leg(till, at, 5)})
			list = append(list, []impl.Leg{fine, leg(at, till, 5), fine}, []impl.Leg{fine, leg(till, at, 5)})
		}
	}
	last := manyLegs(impl.MaxLegs, fine)
	last[impl.MaxLegs-1].Amount = -1
	return append(list, last)
}

func TestLegsRight(t *testing.T) {
	for i, legs := range rightLegs() {
		if !impl.LegsRight(legs) {
			t.Errorf("right legs %d, %v, are not right", i, legs)
		}
	}
	for i, legs := range append(wrongLegs(), manyLegs(impl.MaxList+1, leg(till, annDue, 1)), make([]impl.Leg, 100000)) {
		if impl.LegsRight(legs) {
			t.Errorf("wrong legs %d, %d of them, are right", i, len(legs))
		}
	}
}

func TestLegsBack(t *testing.T) {
	legs := []impl.Leg{leg(till, annOwed, 1), leg(annOwed, annDue, 0), leg(bobOwed, bobOwed, 3)}
	want := []impl.Leg{leg(bobOwed, bobOwed, 3), leg(annDue, annOwed, 0), leg(annOwed, till, 1)}
	if got := impl.LegsBack(legs); !slices.Equal(got, want) {
		t.Errorf("LegsBack of %v is %v", legs, got)
	}
	for i, legs := range rightLegs() {
		back := impl.LegsBack(legs)
		if len(back) != len(legs) || !impl.LegsRight(back) || !slices.Equal(impl.LegsBack(back), legs) {
			t.Errorf("LegsBack of right legs %d, %v, is %v", i, legs, back)
		}
	}
	for i, legs := range append(wrongLegs(), manyLegs(impl.MaxList+1, leg(till, annDue, 1)), make([]impl.Leg, 100000)) {
		if back := impl.LegsBack(legs); len(back) != 0 {
			t.Errorf("LegsBack of wrong legs %d is %d legs", i, len(back))
		}
	}
}

// posted: the plain book with these balances, and one id more.
func posted(due int64, owed int64, earned int64, cash int64, ids ...string) impl.BookOut {
	b := plainBook()
	for i, balance := range []int64{due, owed, earned, cash} {
		b.Lines[i].Balance = balance
	}
	b.Ids = ids
	return told(b)
}

func TestBookPost(t *testing.T) {
	cases := []struct {
		id   string
		legs []impl.Leg
		want impl.BookOut
	}{
		{"a", nil, posted(300, 10000, -300, -10000, "a", "c", "e")},
		{"d", []impl.Leg{}, posted(300, 10000, -300, -10000, "c", "d", "e")},
		{"f", []impl.Leg{leg(till, annOwed, 0)}, posted(300, 10000, -300, -10000, "c", "e", "f")},
		{"a", []impl.Leg{leg(till, annOwed, 500)}, posted(300, 10500, -300, -10500, "a", "c", "e")},
		{"c0", []impl.Leg{leg(annOwed, till, 500)}, posted(300, 9500, -300, -9500, "c", "c0", "e")},
		{"e_", []impl.Leg{leg(annDue, annOwed, 300)}, posted(0, 10300, -300, -10000, "c", "e", "e_")},
		// Nothing says that a balance may not come to be below nought.
		{"b", []impl.Leg{leg(annDue, till, 1000)}, posted(-700, 10000, -300, -9000, "b", "c", "e")},
		{"b", []impl.Leg{leg(annDue, annDue, 1000)}, posted(300, 10000, -300, -10000, "b", "c", "e")},
		{"b", []impl.Leg{leg(annDue, till, 300), leg(annOwed, till, 700), leg(till, income, 50)},
			posted(0, 9300, -250, -9050, "b", "c", "e")},
		{"b", manyLegs(impl.MaxLegs, leg(till, income, 7)), posted(300, 10000, -160, -10140, "b", "c", "e")},
		{"b", []impl.Leg{leg(bobOwed, till, 5)}, noBook(impl.ErrNone, 0)},
		{"b", []impl.Leg{leg(till, bobOwed, 5)}, noBook(impl.ErrNone, 0)},
		{"b", []impl.Leg{leg(bobOwed, bobOwed, 5)}, noBook(impl.ErrNone, 0)},
		{"b", []impl.Leg{leg(bobOwed, spot("bank", "due"), 0)}, noBook(impl.ErrNone, 0)},
		{"b", []impl.Leg{leg(till, annOwed, 5), leg(till, annDue, 5), leg(till, bobOwed, 5), leg(bobOwed, till, 5)}, noBook(impl.ErrNone, 2)},
		{"b", append(manyLegs(impl.MaxLegs-1, leg(till, income, 7)), leg(bobOwed, income, 7)), noBook(impl.ErrNone, 19)},
		{"c", []impl.Leg{leg(till, annOwed, 5)}, noBook(impl.ErrThere, 0)},
		{"e", nil, noBook(impl.ErrThere, 0)},
		{"e", []impl.Leg{leg(bobOwed, till, 5)}, noBook(impl.ErrThere, 0)},
	}
	for _, c := range cases {
		if got := impl.BookPost(plainBook(), c.id, c.legs); !sameOut(got, c.want) {
			t.Errorf("BookPost(%q, %v) is %v, not %v", c.id, c.legs, got, c.want)
		}
	}
}

// At the bounds of money: From's balance is looked at first, then To's, leg by leg.
func TestBookPostRange(t *testing.T) {
	const most = impl.MaxMoney
	rich, poor, some, other := spot("a", "rich"), spot("b", "poor"), spot("c", "some"), spot("d", "other")
	b := lines(line("a", "rich", most), line("b", "poor", -most), line("c", "some", 5), line("d", "other", -5))
	after := func(balances ...int64) impl.BookOut {
		end := copied(b)
		for i, n := range balances {
			end.Lines[i].Balance = n
		}
		end.Ids = []string{"x"}
		return told(end)
	}
	cases := []struct {
		legs []impl.Leg
		want impl.BookOut
	}{
		{[]impl.Leg{leg(poor, some, 0)}, after(most, -most, 5, -5)},
		{[]impl.Leg{leg(poor, some, 1)}, noBook(impl.ErrRange, 0)},
		{[]impl.Leg{leg(some, rich, 0)}, after(most, -most, 5, -5)},
		{[]impl.Leg{leg(some, rich, 1)}, noBook(impl.ErrRange, 0)},
		{[]impl.Leg{leg(poor, rich, most)}, noBook(impl.ErrRange, 0)},
		{[]impl.Leg{leg(rich, poor, most)}, after(0, 0, 5, -5)},
		{[]impl.Leg{leg(rich, some, most)}, noBook(impl.ErrRange, 0)},
		{[]impl.Leg{leg(rich, some, most-5)}, after(5, -most, most, -5)},
		{[]impl.Leg{leg(rich, some, most-4)}, noBook(impl.ErrRange, 0)},
		{[]impl.Leg{leg(other, poor, most)}, noBook(impl.ErrRange, 0)},
		{[]impl.Leg{leg(other, poor, most-5)}, after(most, -5, 5, -most)},
		{[]impl.Leg{leg(other, poor, most-4)}, noBook(impl.ErrRange, 0)},
		{[]impl.Leg{leg(some, other, most)}, after(most, -most, 5-most, most-5)},
		// One line: what is taken is taken first.
		{[]impl.Leg{leg(rich, rich, most)}, after(most, -most, 5, -5)},
		{[]impl.Leg{leg(poor, poor, 1)}, noBook(impl.ErrRange, 0)},
		{[]impl.Leg{leg(other, other, most-5)}, after(most, -most, 5, -5)},
		{[]impl.Leg{leg(other, other, most-4)}, noBook(impl.ErrRange, 0)},
		// Behind others: by the balances that these have left.
		{[]impl.Leg{leg(rich, other, 1), leg(some, rich, 1)}, after(most, -most, 4, -4)},
		{[]impl.Leg{leg(rich, other, 1), leg(some, rich, 2)}, noBook(impl.ErrRange, 1)},
		{[]impl.Leg{leg(some, poor, 1), leg(poor, other, 1)}, after(most, -most, 4, -4)},
		{[]impl.Leg{leg(some, poor, 1), leg(poor, other, 2)}, noBook(impl.ErrRange, 1)},
		{[]impl.Leg{leg(some, rich, 1), leg(rich, some, 1)}, noBook(impl.ErrRange, 0)},
		{[]impl.Leg{leg(some, other, 1), leg(some, other, 1), leg(poor, other, 1), leg(poor, other, 1)}, noBook(impl.ErrRange, 2)},
		{append(manyLegs(impl.MaxLegs-1, leg(other, some, 1)), leg(some, rich, 1)), noBook(impl.ErrRange, 19)},
		// The first leg that is refused tells its own fault, whatever the later ones have.
		{[]impl.Leg{leg(poor, some, 1), leg(bobOwed, some, 1)}, noBook(impl.ErrRange, 0)},
		{[]impl.Leg{leg(bobOwed, some, 1), leg(poor, some, 1)}, noBook(impl.ErrNone, 0)},
		{[]impl.Leg{leg(some, other, 1), leg(poor, bobOwed, 1)}, noBook(impl.ErrNone, 1)},
		{[]impl.Leg{leg(some, other, 1), leg(bobOwed, rich, 1)}, noBook(impl.ErrNone, 1)},
	}
	for _, c := range cases {
		if got := impl.BookPost(b, "x", c.legs); !sameOut(got, c.want) {
			t.Errorf("BookPost of %v is %v, not %v", c.legs, got, c.want)
		}
	}
}

func TestBookPostIds(t *testing.T) {
	full := plainBook()
	full.Ids = manyIds(impl.MaxIds)
	fine := []impl.Leg{leg(till, annOwed, 5)}
	none := []impl.Leg{leg(bobOwed, annOwed, 5)}
	cases := []struct {
		id   string
		legs []impl.Leg
		want int64
	}{
		{"a", fine, impl.ErrFull}, {"z", fine, impl.ErrFull}, {"z", nil, impl.ErrFull},
		{full.Ids[0], fine, impl.ErrThere}, {full.Ids[99], fine, impl.ErrThere},
		{"z", none, impl.ErrFull}, {full.Ids[50], none, impl.ErrThere},
		{"Z", fine, impl.ErrForm}, {"z", wrongLegs()[0], impl.ErrForm}, {full.Ids[0], wrongLegs()[0], impl.ErrForm},
	}
	for _, c := range cases {
		if got := impl.BookPost(full, c.id, c.legs); !sameOut(got, noBook(c.want, 0)) {
			t.Errorf("BookPost of a full book with %q and %.200v is %.200v, not %d", c.id, c.legs, got, c.want)
		}
	}
	almost := plainBook()
	almost.Ids = manyIds(impl.MaxIds - 1)
	got := impl.BookPost(almost, "z", fine)
	if got.Code != impl.OK || !slices.Equal(got.Book.Ids, append(manyIds(impl.MaxIds-1), "z")) {
		t.Errorf("the last id is not taken: %.300v", got)
	}
}

func TestBookPostWrong(t *testing.T) {
	fine := []impl.Leg{leg(till, annOwed, 5)}
	form := noBook(impl.ErrForm, 0)
	for _, id := range noNames() {
		if len(id) > impl.MaxBytes {
			continue
		}
		if got := impl.BookPost(plainBook(), id, fine); !sameOut(got, form) {
			t.Errorf("BookPost of id %.50q is %v", id, got)
		}
	}
	for i, b := range wrongBooks() {
		for _, id := range []string{"a", "z", "", "c"} {
			if got := impl.BookPost(b, id, fine); !sameOut(got, form) {
				t.Errorf("BookPost of wrong book %d is %.300v", i, got)
			}
		}
		if got := impl.BookPost(b, "z", nil); !sameOut(got, form) {
			t.Errorf("BookPost of wrong book %d without legs is %.300v", i, got)
		}
	}
	for i, legs := range wrongLegs() {
		// Legs that are not right are named ahead of an id that is there, and without a Place.
		for _, id := range []string{"a", "c", "C"} {
			if got := impl.BookPost(plainBook(), id, legs); !sameOut(got, form) {
				t.Errorf("BookPost of wrong legs %d is %v", i, got)
			}
		}
	}
}

// Too long a text or list is named ahead of all else; one that just fits is not.
func TestBookPostSize(t *testing.T) {
	one := leg(till, annOwed, 5)
	wrong := lines(line("a", "b", 1))
	atBound, beyond := strings.Repeat("a", impl.MaxBytes), strings.Repeat("a", impl.MaxBytes+1)
	for _, b := range []impl.Book{plainBook(), wrong, {Lines: manyLines(500, 0)}} {
		for _, legs := range [][]impl.Leg{nil, {one}, {{}}, manyLegs(impl.MaxList, one)} {
			if got := impl.BookPost(b, beyond, legs); !sameOut(got, noBook(impl.ErrSize, 0)) {
				t.Errorf("BookPost of a long id is %v", got)
			}
			if got := impl.BookPost(b, atBound, legs); !sameOut(got, noBook(impl.ErrForm, 0)) {
				t.Errorf("BookPost of an id of %d bytes is %v", impl.MaxBytes, got)
			}
		}
		for _, id := range []string{"a", "c", "", atBound, beyond} {
			for _, legs := range [][]impl.Leg{manyLegs(impl.MaxList+1, one), make([]impl.Leg, 5000)} {
				if got := impl.BookPost(b, id, legs); !sameOut(got, noBook(impl.ErrSize, 0)) {
					t.Errorf("BookPost of %d legs is %v", len(legs), got)
				}
			}
		}
		if got := impl.BookPost(b, "a", manyLegs(impl.MaxList, one)); !sameOut(got, noBook(impl.ErrForm, 0)) {
			t.Errorf("BookPost of %d legs is %v", impl.MaxList, got)
		}
	}
}

// changed: the line of a spot by looking at one behind the other, with an amount added; false, if that is refused.
func changed(list []impl.Line, at impl.Spot, amount int64) bool {
	for i := range list {
		if list[i].Spot.Account == at.Account && list[i].Spot.Slot == at.Slot {
			list[i].Balance += amount
			return list[i].Balance >= -impl.MaxMoney && list[i].Balance <= impl.MaxMoney
		}
	}
	return false
}

// postOf: what BookPost tells of a right book, an id that it has not, and right legs, by the document's steps.
func postOf(b impl.Book, id string, legs []impl.Leg) impl.BookOut {
	end := copied(b)
	for i, l := range legs {
		if impl.BookBalance(b, l.From).Code != impl.OK || impl.BookBalance(b, l.To).Code != impl.OK {
			return noBook(impl.ErrNone, int64(i))
		}
		if !changed(end.Lines, l.From, -l.Amount) || !changed(end.Lines, l.To, l.Amount) {
			return noBook(impl.ErrRange, int64(i))
		}
	}
	end.Ids = append(end.Ids, id)
	slices.Sort(end.Ids)
	return told(end)
}

// someLegs: by a fixed rule, of the lines of b, now and then of one that it has not.
func someLegs(b impl.Book, nums []int64) []impl.Leg {
	var legs []impl.Leg
	for i := 0; i+3 < len(nums); i += 4 {
		at := func(n int64) impl.Spot {
			place := int(uint64(n) >> 1 % uint64(len(b.Lines)))
			return b.Lines[place].Spot
		}
		amount := nums[i+2] % (impl.MaxMoney + 1)
		if amount < 0 {
			amount = -amount
		}
		one := leg(at(nums[i]), at(nums[i+1]), amount)
		if nums[i+3]%61 == 0 {
			one.To = spot("no", "such")
		}
		legs = append(legs, one)
	}
	return legs
}

// Promise 10: a right book is left, the id is refused from then on, and legs posted back leave all balances as they were.
func TestPostsAndBack(t *testing.T) {
	taken := 0
	nums := someNums(40000)
	for _, count := range []int{1, 2, 3, 10, impl.MaxLines} {
		start := impl.Book{Lines: manyLines(count, 250000000000), Ids: []string{"m"}}
		b := start
		for size := 1; size <= 90; size++ {
			legs := someLegs(b, nums[:4*(size%(impl.MaxLegs+1))])
			nums = nums[4*(size%(impl.MaxLegs+1)):]
			id, other := numbered("l", size), numbered("n", size)
			got := impl.BookPost(b, id, legs)
			if want := postOf(b, id, legs); !sameOut(got, want) {
				t.Fatalf("BookPost of %v to %v is %v, not %v", legs, b, got, want)
			}
			if got.Code != impl.OK {
				continue
			}
			taken++
			if !impl.BookRight(got.Book) {
				t.Fatalf("%v is left, which is not right", got.Book)
			}
			for _, again := range [][]impl.Leg{legs, nil, {leg(b.Lines[0].Spot, b.Lines[0].Spot, 0)}} {
				if x := impl.BookPost(got.Book, id, again); !sameOut(x, noBook(impl.ErrThere, 0)) {
					t.Fatalf("id %q once more is %v", id, x)
				}
			}
			back := impl.BookPost(got.Book, other, impl.LegsBack(legs))
			if back.Code != impl.OK || !slices.Equal(back.Book.Lines, b.Lines) {
				t.Fatalf("%v posted back leaves %v, not %v", legs, back, b)
			}
			b = got.Book
			if len(b.Ids) > 40 {
				b.Ids = start.Ids
			}
		}
	}
	if taken < 100 {
		t.Errorf("only %d lists of legs were taken", taken)
	}
}

// roomy: the same Book, in lists with room behind their ends, whose content is handed back too.
func roomy(b impl.Book) (impl.Book, []impl.Line, []string) {
	allLines := append(slices.Clone(b.Lines), manyLines(5, 3)...)
	allIds := append(slices.Clone(b.Ids), manyIds(5)...)
	return impl.Book{Lines: allLines[:len(b.Lines)], Ids: allIds[:len(b.Ids)]}, allLines, allIds
}

// What is handed in is as it was, behind each call, also behind the ends of its lists, and whatever is done with the answer.
func TestBooksAreNotChanged(t *testing.T) {
	var legs []impl.Leg
	calls := map[string]func(b impl.Book) impl.Book{
		"open ahead": func(b impl.Book) impl.Book { return impl.BookOpen(b, spot("aa", "a")).Book },
		"open last":  func(b impl.Book) impl.Book { return impl.BookOpen(b, spot("z", "z")).Book },
		"open twice": func(b impl.Book) impl.Book { return impl.BookOpen(b, till).Book },
		"post ahead": func(b impl.Book) impl.Book { return impl.BookPost(b, "a", legs).Book },
		"post last":  func(b impl.Book) impl.Book { return impl.BookPost(b, "z", legs).Book },
		"post none":  func(b impl.Book) impl.Book { return impl.BookPost(b, "z", nil).Book },
		"post twice": func(b impl.Book) impl.Book { return impl.BookPost(b, "c", legs).Book },
		"post wrong": func(b impl.Book) impl.Book {
			return impl.BookPost(b, "z", []impl.Leg{leg(till, annOwed, 5), leg(till, bobOwed, 5)}).Book
		},
		"post far": func(b impl.Book) impl.Book {
			return impl.BookPost(b, "z", []impl.Leg{leg(till, annOwed, 5), leg(till, annOwed, impl.MaxMoney)}).Book
		},
		"right":   func(b impl.Book) impl.Book { impl.BookRight(b); return impl.Book{} },
		"balance": func(b impl.Book) impl.Book { impl.BookBalance(b, till); return impl.Book{} },
	}
	for name, call := range calls {
		legs = []impl.Leg{leg(till, annOwed, 5), leg(annOwed, annDue, 2), leg(income, till, 1)}
		legsAhead := slices.Clone(legs)
		b, allLines, allIds := roomy(plainBook())
		linesAhead, idsAhead := slices.Clone(allLines), slices.Clone(allIds)
		got := call(b)
		want := copied(got)
		if !slices.Equal(allLines, linesAhead) || !slices.Equal(allIds, idsAhead) || !slices.Equal(legs, legsAhead) {
			t.Errorf("%s: what was handed in is another one now", name)
		}
		for i := range allLines {
			allLines[i].Balance = 77
		}
		for i := range allIds {
			allIds[i] = "other"
		}
		if !sameBook(got, want) {
			t.Errorf("%s: the answer hangs on what was handed in", name)
		}
		spoil(got)
		for _, l := range allLines {
			if l.Balance != 77 {
				t.Errorf("%s: what was handed in hangs on the answer", name)
			}
		}
		if slices.Contains(allIds, "spoilt") {
			t.Errorf("%s: the Ids that were handed in hang on the answer", name)
		}
	}
}

// spoil writes all over a Book, up to the ends of the memory of its lists.
func spoil(b impl.Book) {
	allLines, allIds := b.Lines[:cap(b.Lines)], b.Ids[:cap(b.Ids)]
	for i := range allLines {
		allLines[i] = line("spoilt", "spoilt", 1)
	}
	for i := range allIds {
		allIds[i] = "spoilt"
	}
}

// Two answers of the same call are not one memory, and nothing is kept between them.
func TestBookAnswersAreNew(t *testing.T) {
	legs := []impl.Leg{leg(till, annOwed, 5)}
	first := impl.BookPost(plainBook(), "d", legs)
	spoil(first.Book)
	if second := impl.BookPost(plainBook(), "d", legs); !sameOut(second, posted(300, 10005, -300, -10005, "c", "d", "e")) {
		t.Errorf("the second answer is %v", second)
	}
	spoil(impl.BookOpen(plainBook(), bobOwed).Book)
	if second := impl.BookOpen(plainBook(), bobOwed); second.Code != impl.OK || second.Book.Lines[4] != line("bob", "owed", 0) {
		t.Errorf("the second opened book is %v", second)
	}
}

// Legs posted back are memory of their own, and leave the legs as they were.
func TestLegsBackIsNew(t *testing.T) {
	all := []impl.Leg{leg(till, annOwed, 1), leg(annOwed, annDue, 2), leg(income, till, 3), leg(till, till, 4)}
	legs, ahead := all[:3], slices.Clone(all)
	back := impl.LegsBack(legs)
	impl.LegsRight(legs)
	if !slices.Equal(all, ahead) {
		t.Errorf("the legs are %v", all)
	}
	for i := range back[:cap(back)] {
		back[:cap(back)][i] = impl.Leg{}
	}
	if !slices.Equal(all, ahead) {
		t.Errorf("the legs hang on the answer: %v", all)
	}
	one := impl.LegsBack(legs[:1])
	all[0].Amount = 9
	if !slices.Equal(one, []impl.Leg{leg(annOwed, till, 1)}) {
		t.Errorf("the answer hangs on the legs: %v", one)
	}
}
