package impl

import "strings"

// Constants, see chapter 1.
const (
	OK        = 0
	ErrForm   = 1
	ErrSize   = 2
	ErrSyntax = 3
	ErrShort  = 4
	ErrSum    = 5
	ErrName   = 6
	ErrThere  = 7
	ErrNone   = 8
	ErrType   = 9
	ErrStack  = 10
	ErrGas    = 11
	ErrReject = 12
	ErrRange  = 13
	ErrZero   = 14
	ErrTime   = 15
	ErrFull   = 16
	MaxBytes  = 20000
	MaxList   = 400
	MaxMoney  = 1000000000000
)

// NumOut is a thing of chapter 2.
type NumOut struct {
	N    int64
	At   int64
	Code int64
}

// TextOut is a thing of chapter 2.
type TextOut struct {
	Text string
	At   int64
	Code int64
}

// What a number, a text and a name have at most, and by what a sum is made.
const (
	maxNumBytes  = 10
	maxTextBytes = 200
	maxNameBytes = 20
	sumStart     = 7
	sumFactor    = 257
	sumModulus   = 4294967291
)

// PutNum: see chapter 2.
func PutNum(n int64) string {
	u := foldSign(n)
	out := make([]byte, 0, maxNumBytes)
	for u >= 128 {
		out = append(out, byte(u&127)|128)
		u >>= 7
	}
	return string(append(out, byte(u)))
}

// GetNum: see chapter 2.
func GetNum(text string, at int64) NumOut {
	if len(text) > MaxBytes {
		return NumOut{Code: ErrSize}
	}
	if at < 0 {
		return NumOut{Code: ErrForm}
	}
	return readNum(text, at)
}

// PutText: see chapter 2.
func PutText(t string) string {
	if len(t) > maxTextBytes || !printable(t) {
		return ""
	}
	return PutNum(int64(len(t))) + t
}

// GetText: see chapter 2.
func GetText(text string, at int64) TextOut {
	size := GetNum(text, at)
	if size.Code != OK {
		return TextOut{Code: size.Code}
	}
	if size.N < 0 || size.N > maxTextBytes {
		return TextOut{Code: ErrSyntax}
	}
	end := size.At + size.N
	if end > int64(len(text)) {
		return TextOut{Code: ErrShort}
	}
	t := text[size.At:end]
	if !printable(t) {
		return TextOut{Code: ErrSyntax}
	}
	return TextOut{Text: strings.Clone(t), At: end}
}

// Sum: see chapter 2.
func Sum(text string) int64 {
	if len(text) > MaxBytes {
		return 0
	}
	sum := int64(sumStart)
	// The string itself would be ranged over by runes, and skip bytes from 128 on.
	for _, b := range []byte(text) {
		sum = (sum*sumFactor + int64(b)) % sumModulus
	}
	return sum
}

// NameRight: see chapter 2.
func NameRight(t string) bool {
	return len(t) <= maxNameBytes && nameLike(t)
}

// nameLike: is it a name, but for how long it is?
func nameLike(t string) bool {
	// A byte from 128 on is never a rune below 128, so that runes tell as much as bytes here.
	for i, c := range t {
		small := c >= 'a' && c <= 'z'
		inner := c >= '0' && c <= '9' || c == '_'
		if !small && (i == 0 || !inner) {
			return false
		}
	}
	return t != ""
}

// foldSign puts the sign into the lowest bit, so that numbers near 0 stay short on both sides.
func foldSign(n int64) uint64 {
	return uint64(n)<<1 ^ uint64(n>>63)
}

// unfoldSign turns foldSign round.
func unfoldSign(u uint64) int64 {
	return int64(u>>1) ^ -int64(u&1)
}

// readNum reads the number at a place from 0 on, which may be far behind the text's end.
func readNum(text string, at int64) NumOut {
	var u uint64
	var count int64
	var b byte
more:
	// No sum leaves int64 here: count is 0 until at is seen to stand in the text.
	if at+count >= int64(len(text)) {
		return NumOut{Code: ErrShort}
	}
	b = text[at+count]
	u |= uint64(b&127) << (7 * count)
	count++
	// Only one bit of 64 is left for the tenth byte.
	if count == maxNumBytes && b > 1 {
		goto wrong
	}
	if b < 128 {
		goto last
	}
	goto more
last:
	// A last byte of 0 adds nothing: the number could be written without it.
	if b == 0 && count > 1 {
		goto wrong
	}
	return NumOut{N: unfoldSign(u), At: at + count}
wrong:
	return NumOut{Code: ErrSyntax}
}

// printable: are all bytes from 32 to 126? (No byte from 128 on is a rune below 128.)
func printable(t string) bool {
	for _, c := range t {
		if c < 32 || c > 126 {
			return false
		}
	}
	return true
}
