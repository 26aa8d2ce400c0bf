package tests

import (
	"math"
	"math/big"
	"strings"
	"testing"

	"loop.example/g00221/impl"
)

// edgeNums: numbers at which the count of bytes or the sign changes, and those beside them.
func edgeNums() []int64 {
	list := []int64{0, math.MaxInt64, math.MaxInt64 - 1, math.MinInt64, math.MinInt64 + 1}
	for shift := 0; shift < 63; shift++ {
		p := int64(1) << shift
		list = append(list, p-1, p, p+1, -p-1, -p, -p+1)
	}
	return list
}

// someNums: numbers of all sizes by a fixed rule.
func someNums(count int) []int64 {
	list := make([]int64, 0, count)
	state := uint64(88172645463325252)
	for i := range count {
		state ^= state << 13
		state ^= state >> 7
		state ^= state << 17
		list = append(list, int64(state)>>(i%64))
	}
	return list
}

// numBytes writes a number as the document tells it, by numbers without bounds.
func numBytes(n int64) string {
	u := big.NewInt(n)
	if n >= 0 {
		u.Mul(u, big.NewInt(2))
	} else {
		u.Mul(u, big.NewInt(-2))
		u.Sub(u, big.NewInt(1))
	}
	out := []byte{}
	for {
		low := new(big.Int)
		u.DivMod(u, big.NewInt(128), low)
		if u.Sign() == 0 {
			return string(append(out, byte(low.Int64())))
		}
		out = append(out, byte(low.Int64()+128))
	}
}

func TestConstants(t *testing.T) {
	codes := []int64{impl.OK, impl.ErrForm, impl.ErrSize, impl.ErrSyntax, impl.ErrShort, impl.ErrSum,
		impl.ErrName, impl.ErrThere, impl.ErrNone, impl.ErrType, impl.ErrStack, impl.ErrGas,
		impl.ErrReject, impl.ErrRange, impl.ErrZero, impl.ErrTime, impl.ErrFull}
	for i, c := range codes {
		if c != int64(i) {
			t.Errorf("code %d is %d", i, c)
		}
	}
	if impl.MaxBytes != 20000 || impl.MaxList != 400 || impl.MaxMoney != 1000000000000 {
		t.Error("a bound is another one")
	}
}

func TestPutNum(t *testing.T) {
	cases := []struct {
		n    int64
		want string
	}{
		{0, "\x00"},
		{-1, "\x01"},
		{1, "\x02"},
		{63, "\x7e"},
		{-64, "\x7f"},
		{64, "\x80\x01"},
		{-65, "\x81\x01"},
		{math.MaxInt64, "\xfe\xff\xff\xff\xff\xff\xff\xff\xff\x01"},
		{math.MinInt64, "\xff\xff\xff\xff\xff\xff\xff\xff\xff\x01"},
	}
	for _, c := range cases {
		if got := impl.PutNum(c.n); got != c.want {
			t.Errorf("PutNum(%d) is %q, not %q", c.n, got, c.want)
		}
	}
	for _, n := range append(edgeNums(), someNums(2000)...) {
		if got, want := impl.PutNum(n), numBytes(n); got != want {
			t.Errorf("PutNum(%d) is %q, not %q", n, got, want)
		}
	}
}

// Promise 1, of numbers.
func TestNumbersComeBack(t *testing.T) {
	for _, n := range append(edgeNums(), someNums(2000)...) {
		bytes := impl.PutNum(n)
		if len(bytes) < 1 || len(bytes) > 10 {
			t.Errorf("PutNum(%d) has %d bytes", n, len(bytes))
		}
		for _, ahead := range []string{"", "x", "\x80\x80", strings.Repeat("\xff", 300)} {
			at := int64(len(ahead))
			want := impl.NumOut{N: n, At: at + int64(len(bytes))}
			for _, behind := range []string{"", "\x00", "\xff\xff"} {
				if got := impl.GetNum(ahead+bytes+behind, at); got != want {
					t.Errorf("GetNum of %d behind %d bytes is %+v", n, at, got)
				}
			}
		}
	}
}

func TestGetNum(t *testing.T) {
	nine := strings.Repeat("\x80", 9)
	full := strings.Repeat("\xff", 9)
	longest := strings.Repeat("\x00", impl.MaxBytes)
	cases := []struct {
		what string
		text string
		at   int64
		want impl.NumOut
	}{
		{"one byte", "\x7f", 0, impl.NumOut{N: -64, At: 1}},
		{"two bytes", "\x80\x01", 0, impl.NumOut{N: 64, At: 2}},
		{"second place", "\x80\x01", 1, impl.NumOut{N: -1, At: 2}},
		{"ten bytes, the last 1", nine + "\x01", 0, impl.NumOut{N: 1 << 62, At: 10}},
		{"the least", full + "\x01", 0, impl.NumOut{N: math.MinInt64, At: 10}},
		{"nine bytes", strings.Repeat("\xff", 8) + "\x7f", 0, impl.NumOut{N: -1 << 62, At: 9}},
		{"at below 0", "\x00", -1, impl.NumOut{Code: impl.ErrForm}},
		{"at the least", "\x00", math.MinInt64, impl.NumOut{Code: impl.ErrForm}},
		{"at below 0 of the empty text", "", -1, impl.NumOut{Code: impl.ErrForm}},
		{"empty", "", 0, impl.NumOut{Code: impl.ErrShort}},
		{"at the end", "\x00", 1, impl.NumOut{Code: impl.ErrShort}},
		{"behind the end", "\x00", 2, impl.NumOut{Code: impl.ErrShort}},
		{"far behind the end", "\x00", math.MaxInt64, impl.NumOut{Code: impl.ErrShort}},
		{"at 2^32 behind the end", "\x00", 1 << 32, impl.NumOut{Code: impl.ErrShort}},
		{"one byte of more", "\x80", 0, impl.NumOut{Code: impl.ErrShort}},
		{"nine bytes of more", nine, 0, impl.NumOut{Code: impl.ErrShort}},
		{"nine great bytes of more", full, 0, impl.NumOut{Code: impl.ErrShort}},
		{"nine bytes at a place", "\x00" + full, 1, impl.NumOut{Code: impl.ErrShort}},
		{"tenth byte 2", nine + "\x02", 0, impl.NumOut{Code: impl.ErrSyntax}},
		{"tenth byte 127", full + "\x7f", 0, impl.NumOut{Code: impl.ErrSyntax}},
		{"tenth byte 128", nine + "\x80", 0, impl.NumOut{Code: impl.ErrSyntax}},
		{"tenth byte 129", nine + "\x81", 0, impl.NumOut{Code: impl.ErrSyntax}},
		{"tenth byte 255", full + "\xff", 0, impl.NumOut{Code: impl.ErrSyntax}},
		{"eleven bytes", full + "\x80\x00", 0, impl.NumOut{Code: impl.ErrSyntax}},
		{"tenth byte 0", full + "\x00", 0, impl.NumOut{Code: impl.ErrSyntax}},
		{"0 in two bytes", "\x80\x00", 0, impl.NumOut{Code: impl.ErrSyntax}},
		{"-64 in two bytes", "\xff\x00", 0, impl.NumOut{Code: impl.ErrSyntax}},
		{"more bytes than needed", "\x80\x80\x00", 0, impl.NumOut{Code: impl.ErrSyntax}},
		{"the same at a place", "x\xff\x00", 1, impl.NumOut{Code: impl.ErrSyntax}},
		{"MaxBytes", longest, impl.MaxBytes - 1, impl.NumOut{At: impl.MaxBytes}},
		{"MaxBytes, at its end", longest, impl.MaxBytes, impl.NumOut{Code: impl.ErrShort}},
		{"MaxBytes and one more", longest + "\x00", 0, impl.NumOut{Code: impl.ErrSize}},
		{"too long, at below 0", longest + "\x00", -1, impl.NumOut{Code: impl.ErrSize}},
		{"too long, at behind it", longest + "\x00", math.MaxInt64, impl.NumOut{Code: impl.ErrSize}},
	}
	for _, c := range cases {
		if got := impl.GetNum(c.text, c.at); got != c.want {
			t.Errorf("%s: %+v, not %+v", c.what, got, c.want)
		}
	}
}

// What is read is written so: no other bytes than those of PutNum are a number.
func TestNumbersHaveOneForm(t *testing.T) {
	for _, n := range someNums(2000) {
		text := string([]byte{byte(n), byte(n >> 8), byte(n >> 16)})
		got := impl.GetNum(text, 0)
		if got.Code == impl.OK && impl.PutNum(got.N) != text[:got.At] {
			t.Errorf("%q is read as %d", text, got.N)
		}
		if got.Code != impl.OK && got != (impl.NumOut{Code: got.Code}) {
			t.Errorf("%q: beside the code stands %+v", text, got)
		}
	}
	for n := range 1 << 16 {
		text := string([]byte{byte(n >> 8), byte(n)})
		want := impl.NumOut{Code: impl.ErrShort}
		for at := 1; at <= 2; at++ {
			if text[at-1] < 128 {
				want = impl.NumOut{Code: impl.ErrSyntax}
				if at == 1 || text[1] != 0 {
					want = unfolded(text[:at])
				}
				break
			}
		}
		if got := impl.GetNum(text, 0); got != want {
			t.Errorf("%q: %+v, not %+v", text, got, want)
		}
	}
}

// unfolded reads a number of one or two bytes.
func unfolded(text string) impl.NumOut {
	u := int64(text[0] & 127)
	if len(text) == 2 {
		u += 128 * int64(text[1])
	}
	n := u / 2
	if u%2 == 1 {
		n = -(u + 1) / 2
	}
	return impl.NumOut{N: n, At: int64(len(text))}
}

func TestPutText(t *testing.T) {
	long := strings.Repeat("a", 200)
	cases := []struct{ text, want string }{
		{"", "\x00"},
		{"hi", "\x04hi"},
		{" ~", "\x04 ~"},
		{strings.Repeat("b", 63), "\x7e" + strings.Repeat("b", 63)},
		{strings.Repeat("b", 64), "\x80\x01" + strings.Repeat("b", 64)},
		{long, "\x90\x03" + long},
		{long + "a", ""},
		{strings.Repeat("a", impl.MaxBytes), ""},
		{strings.Repeat("a", impl.MaxBytes+1), ""},
		{"a\x1f", ""},
		{"\x7fa", ""},
		{"a\x00a", ""},
		{"a\nb", ""},
		{"\x80", ""},
		{"a\xff", ""},
		{"\u00e9", ""},
		{"\u4e16a", ""},
	}
	for _, c := range cases {
		if got := impl.PutText(c.text); got != c.want {
			t.Errorf("PutText(%.30q) is %.30q, not %.30q", c.text, got, c.want)
		}
	}
}

// Each byte alone, and behind and ahead of others: 32 to 126 may be, all others may not.
func TestTextBytes(t *testing.T) {
	for b := range 256 {
		may := b >= 32 && b <= 126
		one := string([]byte{byte(b)})
		for _, text := range []string{one, "ab" + one, one + "ab", "a" + one + "b"} {
			put := impl.PutText(text)
			if (put != "") != may {
				t.Errorf("PutText with byte %d is %q", b, put)
			}
			raw := impl.PutNum(int64(len(text))) + text
			want := impl.TextOut{Code: impl.ErrSyntax}
			if may {
				want = impl.TextOut{Text: text, At: int64(len(raw))}
			}
			if got := impl.GetText(raw, 0); got != want {
				t.Errorf("GetText with byte %d is %+v, not %+v", b, got, want)
			}
		}
	}
}

// Promise 1, of texts.
func TestTextsComeBack(t *testing.T) {
	all := ""
	for b := 32; b <= 126; b++ {
		all += string(rune(b))
	}
	all = strings.Repeat(all, 3)
	for size := 0; size <= 200; size++ {
		text := all[size%80 : size%80+size]
		put := impl.PutText(text)
		if put == "" {
			t.Errorf("a text of %d bytes is not put", size)
		}
		for _, ahead := range []string{"", "\xff", "\x01abc"} {
			at := int64(len(ahead))
			want := impl.TextOut{Text: text, At: at + int64(len(put))}
			for _, behind := range []string{"", "\x00", "a"} {
				if got := impl.GetText(ahead+put+behind, at); got != want {
					t.Errorf("a text of %d bytes comes back as %+v", size, got)
				}
			}
		}
	}
}

func TestGetText(t *testing.T) {
	long := strings.Repeat("a", 200)
	fill := strings.Repeat("a", impl.MaxBytes-3)
	cases := []struct {
		what string
		text string
		at   int64
		want impl.TextOut
	}{
		{"two bytes", "\x04hi", 0, impl.TextOut{Text: "hi", At: 3}},
		{"nothing", "\x00", 0, impl.TextOut{At: 1}},
		{"at a place", "\x04hi\x02x.", 3, impl.TextOut{Text: "x", At: 5}},
		{"200 bytes", "\x90\x03" + long, 0, impl.TextOut{Text: long, At: 202}},
		{"201 bytes", "\x92\x03" + long + "a", 0, impl.TextOut{Code: impl.ErrSyntax}},
		{"201 bytes, not there", "\x92\x03", 0, impl.TextOut{Code: impl.ErrSyntax}},
		{"length -1", "\x01", 0, impl.TextOut{Code: impl.ErrSyntax}},
		{"length -1, bytes behind", "\x01abc", 0, impl.TextOut{Code: impl.ErrSyntax}},
		{"the greatest length", impl.PutNum(math.MaxInt64) + "a", 0, impl.TextOut{Code: impl.ErrSyntax}},
		{"the least length", impl.PutNum(math.MinInt64) + "a", 0, impl.TextOut{Code: impl.ErrSyntax}},
		{"at below 0", "\x00", -1, impl.TextOut{Code: impl.ErrForm}},
		{"at the end", "\x00", 1, impl.TextOut{Code: impl.ErrShort}},
		{"behind the end", "\x00", math.MaxInt64, impl.TextOut{Code: impl.ErrShort}},
		{"empty", "", 0, impl.TextOut{Code: impl.ErrShort}},
		{"length breaks off", "\x80", 0, impl.TextOut{Code: impl.ErrShort}},
		{"length in more bytes than needed", "\x82\x00a", 0, impl.TextOut{Code: impl.ErrSyntax}},
		{"text breaks off", "\x04h", 0, impl.TextOut{Code: impl.ErrShort}},
		{"text is not there", "\x02", 0, impl.TextOut{Code: impl.ErrShort}},
		{"200 bytes break off", "\x90\x03" + long[1:], 0, impl.TextOut{Code: impl.ErrShort}},
		{"short ahead of a byte that may not be", "\x06\x1fa", 0, impl.TextOut{Code: impl.ErrShort}},
		{"byte 31", "\x04a\x1f", 0, impl.TextOut{Code: impl.ErrSyntax}},
		{"byte 32", "\x04a ", 0, impl.TextOut{Text: "a ", At: 3}},
		{"byte 126", "\x04~a", 0, impl.TextOut{Text: "~a", At: 3}},
		{"byte 127", "\x04\x7fa", 0, impl.TextOut{Code: impl.ErrSyntax}},
		{"such a byte behind it", "\x02a\x7f", 0, impl.TextOut{Text: "a", At: 2}},
		{"MaxBytes", fill + "\x04hi", impl.MaxBytes - 3, impl.TextOut{Text: "hi", At: impl.MaxBytes}},
		{"MaxBytes and one more", "a" + fill + "\x04hi", 1, impl.TextOut{Code: impl.ErrSize}},
		{"too long, at below 0", "a" + fill + "\x04hi", -1, impl.TextOut{Code: impl.ErrSize}},
	}
	for _, c := range cases {
		if got := impl.GetText(c.text, c.at); got != c.want {
			t.Errorf("%s: %+v, not %+v", c.what, got, c.want)
		}
	}
}

// sumOf: the document's rule, by numbers without bounds.
func sumOf(text string) int64 {
	sum := big.NewInt(7)
	for i := range len(text) {
		sum.Mul(sum, big.NewInt(257))
		sum.Add(sum, big.NewInt(int64(text[i])))
		sum.Mod(sum, big.NewInt(4294967291))
	}
	return sum.Int64()
}

// mixedText: a text of all bytes, by a fixed rule.
func mixedText(size int) string {
	out := make([]byte, size)
	for i := range out {
		out[i] = byte(i*i*7 + i*31 + i>>8)
	}
	return string(out)
}

func TestSum(t *testing.T) {
	texts := []string{"", "a", "ab", "ba", "\x00", "\x00\x00", "\xff", "\xff\xff\xff\xff\xff\xff", "\u00e9\u4e16",
		"a\x80b", strings.Repeat("\xff", impl.MaxBytes), mixedText(impl.MaxBytes)}
	for size := range 300 {
		texts = append(texts, mixedText(size))
	}
	for _, text := range texts {
		if got, want := impl.Sum(text), sumOf(text); got != want {
			t.Errorf("Sum(%.30q) is %d, not %d", text, got, want)
		}
	}
	if impl.Sum("") != 7 || impl.Sum("a") != 1896 {
		t.Error("the sums of nothing and of a are others")
	}
	if got := impl.Sum(strings.Repeat("a", impl.MaxBytes+1)); got != 0 {
		t.Errorf("the sum of a text that is too long is %d", got)
	}
}

// Promise 2: with each place and each other byte of a short text, and with some of the longest one.
func TestOtherByteOtherSum(t *testing.T) {
	short := mixedText(30)
	for at := range len(short) {
		for b := range 256 {
			otherSum(t, short, at, byte(b))
		}
	}
	long := mixedText(impl.MaxBytes)
	for at := 0; at < impl.MaxBytes; at += 97 {
		otherSum(t, long, at, long[at]+1)
		otherSum(t, long, at, long[at]^128)
	}
	otherSum(t, long, impl.MaxBytes-1, long[impl.MaxBytes-1]+1)
}

func otherSum(t *testing.T, text string, at int, b byte) {
	t.Helper()
	if text[at] == b {
		return
	}
	other := text[:at] + string([]byte{b}) + text[at+1:]
	if impl.Sum(text) == impl.Sum(other) {
		t.Errorf("byte %d turned to %d has the same sum", at, b)
	}
}

func TestNameRight(t *testing.T) {
	right := []string{"a", "z", "a_1", "a0", "z9", "a_", "loan", "abcdefghijklmnopqrst", "a" + strings.Repeat("_", 19)}
	for _, name := range right {
		if !impl.NameRight(name) {
			t.Errorf("%q is a name", name)
		}
	}
	wrong := []string{"", "1", "_", "1a", "_a", "A", "aB", "a b", " a", "a ", "a-b", "a.", "a\n", "\u00e9", "a\u00e9",
		"abcdefghijklmnopqrstu", "a" + strings.Repeat("_", 20), strings.Repeat("a", impl.MaxBytes),
		strings.Repeat("a", impl.MaxBytes+1)}
	for _, name := range wrong {
		if impl.NameRight(name) {
			t.Errorf("%.30q is no name", name)
		}
	}
}

// Each byte as the first one, and behind others.
func TestNameBytes(t *testing.T) {
	for b := range 256 {
		one := string([]byte{byte(b)})
		first := b >= 'a' && b <= 'z'
		inner := first || b >= '0' && b <= '9' || b == '_'
		for text, want := range map[string]bool{one: first, one + "a": first, "a" + one: inner, "a" + one + "a": inner} {
			if got := impl.NameRight(text); got != want {
				t.Errorf("NameRight(%q) is %v", text, got)
			}
		}
	}
}
