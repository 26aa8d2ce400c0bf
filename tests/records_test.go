package tests

import (
	"slices"
	"strings"
	"testing"

	"loop.example/g00221/impl"
)

// maxBody: how many bytes a record's body has at most.
const maxBody = 10000

// recordOf: a record as the document tells it, by helpers of the tests alone.
func recordOf(body string) string {
	length := numBytes(int64(len(body)))
	return length + numBytes(sumOf(length+body)) + body
}

// recs: what RecsOf tells.
func recs(code int64, used int, list ...string) impl.RecsOut {
	return impl.RecsOut{List: list, Used: int64(used), Code: code}
}

// sameRecs: is all that is told the same?
func sameRecs(a impl.RecsOut, b impl.RecsOut) bool {
	return slices.Equal(a.List, b.List) && a.Used == b.Used && a.Code == b.Code
}

// checkRecs: is that told of the text?
func checkRecs(t *testing.T, what string, text string, want impl.RecsOut) {
	t.Helper()
	if got := impl.RecsOf(text); !sameRecs(got, want) {
		t.Errorf("%s: %d bodies, Used %d, Code %d, not %d, %d, %d", what,
			len(got.List), got.Used, got.Code, len(want.List), want.Used, want.Code)
	}
}

// turned: the text with another byte at that place.
func turned(text string, at int, b byte) string {
	return text[:at] + string([]byte{b}) + text[at+1:]
}

// nextRecord: the body at the text's begin and how many bytes its record has, or a code, by the document's steps.
func nextRecord(text string) (string, int, int64) {
	length := impl.GetNum(text, 0)
	if length.Code != impl.OK {
		return "", 0, length.Code
	}
	if length.N < 1 || length.N > maxBody {
		return "", 0, impl.ErrSyntax
	}
	rest := text[length.At:]
	sum := impl.GetNum(rest, 0)
	if sum.Code != impl.OK {
		return "", 0, sum.Code
	}
	rest = rest[sum.At:]
	if len(rest) < int(length.N) {
		return "", 0, impl.ErrShort
	}
	body := rest[:length.N]
	if sum.N != sumOf(text[:length.At]+body) {
		return "", 0, impl.ErrSum
	}
	return body, len(text) - len(rest) + len(body), impl.OK
}

// recordsOf: what RecsOf tells of a text that is not too long.
func recordsOf(text string) impl.RecsOut {
	var out impl.RecsOut
	for int(out.Used) < len(text) {
		body, size, code := nextRecord(text[out.Used:])
		if code != impl.OK {
			out.Code = code
			break
		}
		out.List = append(out.List, body)
		out.Used += int64(size)
	}
	return out
}

func TestRecBytes(t *testing.T) {
	cases := []struct{ body, want string }{
		// 7 times 257 and 2 is 1801; that times 257 and 97 is 462954, of which twice in bytes is d4 c1 38.
		{"a", "\x02\xd4\xc1\x38a"},
		{"", ""},
		{"\x00", recordOf("\x00")}, {"\xff", recordOf("\xff")}, {"\u00e9\n", recordOf("\u00e9\n")},
		{mixedText(63), recordOf(mixedText(63))}, {mixedText(64), recordOf(mixedText(64))},
		{mixedText(8191), recordOf(mixedText(8191))}, {mixedText(8192), recordOf(mixedText(8192))},
		{mixedText(maxBody - 1), recordOf(mixedText(maxBody - 1))},
		{mixedText(maxBody), recordOf(mixedText(maxBody))},
		{mixedText(maxBody + 1), ""},
		{mixedText(impl.MaxBytes), ""}, {mixedText(impl.MaxBytes + 1), ""}, {mixedText(5 * impl.MaxBytes), ""},
	}
	for size := 1; size < 200; size++ {
		cases = append(cases, struct{ body, want string }{mixedText(size), recordOf(mixedText(size))})
	}
	for _, c := range cases {
		if got := impl.RecBytes(c.body); got != c.want {
			t.Errorf("RecBytes of %d bytes is %.60q, not %.60q", len(c.body), got, c.want)
		}
	}
}

// Of what is told in List and Used beside each Code, the record at fault being the first one, or behind two others.
func TestRecsOf(t *testing.T) {
	long := recordOf(mixedText(100))
	hi := recordOf("hi")
	put := numBytes
	cases := []struct {
		what string
		text string
		code int64
	}{
		{"nothing left", "", impl.OK},
		{"a length that breaks off", long[:1], impl.ErrShort},
		{"a length that never ends ahead of the text", "\x80\x80\x80", impl.ErrShort},
		{"no byte of a sum", hi[:1], impl.ErrShort},
		{"no byte of a sum behind a longer length", long[:2], impl.ErrShort},
		{"a sum that breaks off", hi[:2], impl.ErrShort},
		{"a sum that breaks off ahead of its last byte", hi[:len(hi)-3], impl.ErrShort},
		{"no byte of a body", hi[:len(hi)-2], impl.ErrShort},
		{"a body that breaks off", hi[:len(hi)-1], impl.ErrShort},
		{"a longer body that breaks off", long[:len(long)-1], impl.ErrShort},
		{"a length of 0 alone", put(0), impl.ErrSyntax},
		{"a length of 0 with the sum of that", put(0) + put(sumOf(put(0))), impl.ErrSyntax},
		{"a length of 0 with a sum and a body", put(0) + hi[1:], impl.ErrSyntax},
		{"a length of 10001 alone", put(10001), impl.ErrSyntax},
		{"a length of 10001 with a sum", put(10001) + put(5), impl.ErrSyntax},
		{"a length of 10001 with all", put(10001) + put(sumOf(put(10001)+mixedText(10001))) + mixedText(10001), impl.ErrSyntax},
		{"a length of 10000 alone", put(10000), impl.ErrShort},
		{"a length of -1", put(-1) + hi[1:], impl.ErrSyntax},
		{"a length of -2", put(-2) + hi[1:], impl.ErrSyntax},
		{"the greatest length", put(1<<63-1) + hi[1:], impl.ErrSyntax},
		{"the least length", put(-1<<63) + hi[1:], impl.ErrSyntax},
		{"a length with a byte too many", "\x84\x00" + hi[1:], impl.ErrSyntax},
		{"a length of 0 with a byte too many", "\x80\x00", impl.ErrSyntax},
		{"a length whose tenth byte is above 1", strings.Repeat("\x80", 9) + "\x02", impl.ErrSyntax},
		{"a length of eleven bytes", strings.Repeat("\x80", 10) + "\x01", impl.ErrSyntax},
		{"a sum with a byte too many", put(2) + "\x80\x00hi", impl.ErrSyntax},
		{"the right sum with a byte too many", hi[:len(hi)-3] + string([]byte{hi[len(hi)-3] + 128, 0}) + "hi", impl.ErrSyntax},
		{"a sum with a byte too many, no body", put(2) + "\x80\x00", impl.ErrSyntax},
		{"a sum whose tenth byte is above 1", put(2) + strings.Repeat("\xff", 9) + "\x02hi", impl.ErrSyntax},
		{"a sum of eleven bytes", put(2) + strings.Repeat("\xff", 10) + "\x01", impl.ErrSyntax},
		{"another sum, and a body that breaks off", put(2) + put(1) + "h", impl.ErrShort},
		{"another sum", put(2) + put(sumOf(put(2)+"hi")+1) + "hi", impl.ErrSum},
		{"a sum one below", put(2) + put(sumOf(put(2)+"hi")-1) + "hi", impl.ErrSum},
		{"a sum of the body alone", put(2) + put(sumOf("hi")) + "hi", impl.ErrSum},
		{"a sum one modulus above", put(2) + put(sumOf(put(2)+"hi")+4294967291) + "hi", impl.ErrSum},
		{"a sum one modulus below", put(2) + put(sumOf(put(2)+"hi")-4294967291) + "hi", impl.ErrSum},
		{"a sum below nought", put(2) + put(-sumOf(put(2)+"hi")) + "hi", impl.ErrSum},
		{"the greatest sum", put(2) + put(1<<63-1) + "hi", impl.ErrSum},
		{"the least sum", put(2) + put(-1<<63) + "hi", impl.ErrSum},
		{"another body", hi[:len(hi)-1] + "o", impl.ErrSum},
		{"a body that is turned round", hi[:len(hi)-2] + "ih", impl.ErrSum},
		{"a lesser length", put(1) + hi[1:], impl.ErrSum},
		{"a sum that is wrong ahead of a right record", hi[:len(hi)-1] + "o" + hi, impl.ErrSum},
		{"a length that is wrong ahead of a right record", put(0) + hi, impl.ErrSyntax},
	}
	one, two := recordOf("one"), recordOf(mixedText(300))
	ahead := one + two
	for _, c := range cases {
		checkRecs(t, c.what, c.text, recs(c.code, 0))
		checkRecs(t, c.what+", behind others", ahead+c.text, recs(c.code, len(ahead), "one", mixedText(300)))
	}
	checkRecs(t, "one record", hi, recs(impl.OK, len(hi), "hi"))
	checkRecs(t, "the same record twice", hi+hi, recs(impl.OK, 2*len(hi), "hi", "hi"))
	checkRecs(t, "a record of records", recordOf(hi+hi), recs(impl.OK, len(recordOf(hi+hi)), hi+hi))
}

// filledTo: bodies whose records have just so many bytes together.
func filledTo(t *testing.T, size int) []string {
	t.Helper()
	list := []string{mixedText(maxBody)}
	left := size - len(recordOf(list[0]))
	for less := range 20 {
		body := mixedText(left - less)
		if len(recordOf(body)) == left {
			return append(list, body)
		}
	}
	t.Fatalf("no records have %d bytes", size)
	return nil
}

// allOf: the records of these bodies, one behind the other.
func allOf(list []string) string {
	var out strings.Builder
	for _, body := range list {
		out.WriteString(impl.RecBytes(body))
	}
	return out.String()
}

// A text of MaxBytes bytes is read, one with a byte more is not, and nothing of it is told.
func TestRecsOfSize(t *testing.T) {
	list := filledTo(t, impl.MaxBytes)
	text := allOf(list)
	checkRecs(t, "records of MaxBytes", text, recs(impl.OK, impl.MaxBytes, list...))
	checkRecs(t, "one byte more", text+"\x00", recs(impl.ErrSize, 0))
	checkRecs(t, "one byte less", text[:impl.MaxBytes-1], recs(impl.ErrShort, len(recordOf(list[0])), list[0]))
	checkRecs(t, "records of one byte more", allOf(filledTo(t, impl.MaxBytes+1)), recs(impl.ErrSize, 0))
	checkRecs(t, "MaxBytes of nothing", strings.Repeat("\x00", impl.MaxBytes), recs(impl.ErrSyntax, 0))
	checkRecs(t, "one more of nothing", strings.Repeat("\x00", impl.MaxBytes+1), recs(impl.ErrSize, 0))
	checkRecs(t, "far too much", strings.Repeat(text, 10), recs(impl.ErrSize, 0))
	small := impl.RecBytes("a")
	count := impl.MaxBytes / len(small)
	checkRecs(t, "as many records as may be", strings.Repeat(small, count), recs(impl.OK, count*len(small), slices.Repeat([]string{"a"}, count)...))
}

// bodyLists: bodies whose records are no more than MaxBytes bytes together.
func bodyLists() [][]string {
	list := [][]string{
		{"a"}, {"hi", "ho"}, {"a", "a", "a"}, {"\x00", "\x00\x00", "\xff"}, {mixedText(63), mixedText(64), mixedText(65)},
		{mixedText(maxBody)}, {mixedText(maxBody), "x"}, {"x", mixedText(maxBody)}, {mixedText(8191), mixedText(8192)},
		{recordOf("hi"), recordOf("hi") + recordOf("ho"), "end"}, {"\u00e9\n", " ", "\x80\x80"},
	}
	var rising []string
	for size := 1; size < 150; size++ {
		rising = append(rising, mixedText(size))
	}
	return append(list, rising, slices.Repeat([]string{"one"}, 500))
}

// Promise 12: records come back, one behind the other.
func TestRecordsComeBack(t *testing.T) {
	for _, list := range append(bodyLists(), filledTo(t, impl.MaxBytes), nil) {
		text := allOf(list)
		if len(text) > impl.MaxBytes {
			t.Fatalf("%d records are too long for this", len(list))
		}
		checkRecs(t, "records", text, recs(impl.OK, len(text), list...))
	}
}

// Promise 12: of a text that breaks off within the last record all others come back.
func TestRecordsBreakOff(t *testing.T) {
	for _, list := range bodyLists() {
		last := len(list) - 1
		text, ahead := allOf(list), len(allOf(list[:last]))
		checkRecs(t, "broken off ahead of the last one", text[:ahead], recs(impl.OK, ahead, list[:last]...))
		step := 1 + (len(text)-ahead)/300
		for size := ahead + 1; size < len(text); size += step {
			checkRecs(t, "broken off", text[:size], recs(impl.ErrShort, ahead, list[:last]...))
		}
		checkRecs(t, "broken off at the last byte", text[:len(text)-1], recs(impl.ErrShort, ahead, list[:last]...))
	}
}

// Promise 12: with one byte of the last body turned its sum is wrong, and all others come back.
func TestTurnedBodies(t *testing.T) {
	for _, list := range bodyLists() {
		last := len(list) - 1
		text, ahead := allOf(list), len(allOf(list[:last]))
		step := 1 + len(list[last])/40
		for at := len(text) - len(list[last]); at < len(text); at += step {
			for _, more := range []byte{1, 2, 16, 127, 128, 255} {
				checkRecs(t, "turned", turned(text, at, text[at]+more), recs(impl.ErrSum, ahead, list[:last]...))
			}
		}
	}
}

// Each byte of some records turned to each other one tells what the document's steps tell: none is taken for right.
func TestTurnedRecords(t *testing.T) {
	list := []string{"one", "\x80\x80", "last one"}
	text := allOf(list)
	for at := range len(text) {
		for b := range 256 {
			if text[at] == byte(b) {
				continue
			}
			other := turned(text, at, byte(b))
			checkRecs(t, "turned", other, recordsOf(other))
			if impl.RecsOf(other).Code == impl.OK {
				t.Errorf("byte %d turned to %d is taken", at, b)
			}
		}
	}
}

// Bytes of no kind at all tell what the document's steps tell.
func TestRecsOfWhatever(t *testing.T) {
	right := allOf([]string{"one", mixedText(70)})
	for i, n := range someNums(3000) {
		size := i % 24
		text := impl.PutNum(n) + mixedText(size + 7)[7:]
		checkRecs(t, "a number and some bytes", text, recordsOf(text))
		checkRecs(t, "behind records", right+text, recordsOf(right+text))
		length := impl.PutNum(int64(size))
		checkRecs(t, "a length and some bytes", length+text, recordsOf(length+text))
	}
}

// Two answers are not one memory.
func TestRecsOfIsNew(t *testing.T) {
	text := allOf([]string{"one", "two", "three"})
	first := impl.RecsOf(text)
	for i := range first.List[:cap(first.List)] {
		first.List[:cap(first.List)][i] = "spoilt"
	}
	checkRecs(t, "the second answer", text, recs(impl.OK, len(text), "one", "two", "three"))
}
