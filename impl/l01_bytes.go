package impl

import (
	"errors"
	"math"
	"strconv"
)

// Constants, see chapter 1.
const (
	OK        = 0
	ErrForm   = 1
	ErrSize   = 2
	ErrSyntax = 3
	ErrShort  = 4
	ErrSum    = 5
	ErrNone   = 6
	ErrThere  = 7
	ErrRange  = 8
	ErrFull   = 9
	ErrState  = 10
	MaxBytes  = 8000
	MaxList   = 400
	MaxTime   = 1000000
)

const (
	numBytes = 10 // no number of 64 bits needs more, at seven bits a byte
	maxName  = 20
	sumBytes = 4
	crcTurn  = 0xEDB88320
)

// NumOut is a thing of chapter 2.
type NumOut struct {
	N    int64
	At   int64
	Code int64
}

// TextOut is a thing of chapter 2.
type TextOut struct {
	Text string
	At   int64
	Code int64
}

// fault says why there is no value: its code is what the call then tells.
type fault struct {
	code int64
}

// Error makes a fault an error.
func (f fault) Error() string {
	return "code " + strconv.FormatInt(f.code, 10)
}

// codeOf takes an error apart: OK of none.
func codeOf(err error) int64 {
	var f fault
	if errors.As(err, &f) {
		return f.code
	}
	return OK
}

// tooLong tells of a text that every call refuses ahead of all else.
func tooLong(text string) bool {
	return len(text) > MaxBytes
}

// joined puts two texts together in new memory, so that an answer shares none with an argument.
func joined(a string, b string) string {
	whole := make([]byte, len(a)+len(b))
	behind := copy(whole, a)
	copy(whole[behind:], b)
	return string(whole)
}

// folded puts the numbers below 0 between the others, so that small ones of either sign need few bytes.
func folded(n int64) uint64 {
	if n < 0 {
		return 2*uint64(-(n+1)) + 1
	}
	return 2 * uint64(n)
}

// unfolded is the number that was folded to u.
func unfolded(u uint64) int64 {
	half := int64(u / 2)
	if u%2 == 1 {
		return -half - 1
	}
	return half
}

// PutNum writes a number in as few bytes as may be, seven bits a byte, the lowest first.
func PutNum(n int64) string {
	var written [numBytes]byte
	u := folded(n)
	count := 0
	for u >= 128 {
		written[count] = byte(u%128) + 128
		u /= 128
		count++
	}
	written[count] = byte(u)
	return string(written[:count+1])
}

// readNum reads the number that stands at that place, and tells the place behind it.
func readNum(text string, at int64) (int64, int64, error) {
	var u uint64
	var b byte
	place := at
	count := 0
	code := int64(ErrForm)
	if at < 0 {
		goto wrong
	}
more:
	code = ErrShort
	if place >= int64(len(text)) {
		goto wrong
	}
	b = text[place]
	u |= uint64(b%128) << (7 * count)
	place++
	count++
	if b < 128 || count == numBytes {
		goto last
	}
	goto more
last:
	code = ErrSyntax
	if count == numBytes && b > 1 {
		goto wrong
	}
	// A last byte of 0 adds nothing: without it there would be a byte less.
	if count > 1 && b == 0 {
		goto wrong
	}
	return unfolded(u), place, nil
wrong:
	return 0, 0, fault{code}
}

// GetNum tells the number that stands at that place, and the place behind it.
func GetNum(text string, at int64) NumOut {
	if tooLong(text) {
		return NumOut{Code: ErrSize}
	}
	n, behind, err := readNum(text, at)
	if err != nil {
		return NumOut{Code: codeOf(err)}
	}
	return NumOut{N: n, At: behind}
}

// PutText writes a text behind its length.
func PutText(t string) string {
	if tooLong(t) {
		return ""
	}
	return joined(PutNum(int64(len(t))), t)
}

// readText reads the text that stands at that place, and tells the place behind it.
func readText(text string, at int64) (string, int64, error) {
	size, from, err := readNum(text, at)
	if err != nil {
		return "", 0, err
	}
	if size < 0 || size > MaxBytes {
		return "", 0, fault{ErrSyntax}
	}
	if size > int64(len(text))-from {
		return "", 0, fault{ErrShort}
	}
	return joined("", text[from:from+size]), from + size, nil
}

// GetText tells the text that stands at that place, and the place behind it.
func GetText(text string, at int64) TextOut {
	if tooLong(text) {
		return TextOut{Code: ErrSize}
	}
	t, behind, err := readText(text, at)
	if err != nil {
		return TextOut{Code: codeOf(err)}
	}
	return TextOut{Text: t, At: behind}
}

// NameRight says whether that text is a name.
func NameRight(t string) bool {
	if len(t) < 1 || len(t) > maxName || !letter(t[0]) {
		return false
	}
	for i := 1; i < len(t); i++ {
		if !letter(t[i]) && !digit(t[i]) && t[i] != '_' {
			return false
		}
	}
	return true
}

func letter(b byte) bool {
	return b >= 'a' && b <= 'z'
}

func digit(b byte) bool {
	return b >= '0' && b <= '9'
}

// Crc is the CRC of a text: none goes ahead of it, and the CRC of nothing is 0.
func Crc(text string) int64 {
	return CrcMore(0, text)
}

// CrcMore is the CRC of a text of that CRC, and of this one behind it.
func CrcMore(crc int64, text string) int64 {
	if tooLong(text) || crc < 0 || crc > math.MaxUint32 {
		return 0
	}
	register := ^uint32(crc)
	for i := 0; i < len(text); i++ {
		register = shifted(register ^ uint32(text[i]))
	}
	return int64(^register)
}

// shifted takes the lowest eight bits of the register out of it, with which a byte is put together already.
func shifted(register uint32) uint32 {
	for bit := 0; bit < 8; bit++ {
		low := register % 2
		register >>= 1
		if low == 1 {
			register ^= crcTurn
		}
	}
	return register
}

// putLowFirst fills bytes with a number, the lowest first.
func putLowFirst(written []byte, n int64) {
	for i := range len(written) {
		written[i] = byte(n >> (8 * i))
	}
}

// sumOf is the four bytes of a text's CRC, the lowest first.
func sumOf(text string) string {
	var sum [sumBytes]byte
	putLowFirst(sum[:], Crc(text))
	return string(sum[:])
}

// Seal puts a text's CRC behind it.
func Seal(text string) string {
	if len(text) > MaxBytes-sumBytes {
		return ""
	}
	return joined(text, sumOf(text))
}

// Unseal tells the text that was sealed.
func Unseal(text string) TextOut {
	if tooLong(text) {
		return TextOut{Code: ErrSize}
	}
	if len(text) < sumBytes {
		return TextOut{Code: ErrShort}
	}
	end := len(text) - sumBytes
	if text[end:] != sumOf(text[:end]) {
		return TextOut{Code: ErrSum}
	}
	return TextOut{Text: joined("", text[:end])}
}
