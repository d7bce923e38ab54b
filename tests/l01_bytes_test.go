package tests

import (
	"encoding/binary"
	"fmt"
	"hash/crc32"
	"math"
	"math/rand"
	"strings"
	"testing"
	"unsafe"

	"loop.example/g00628/impl"
)

// same fails if an answer, with all of its fields, is not the one that is asked for.
func same[T comparable](t *testing.T, what string, got T, want T) {
	t.Helper()
	if got != want {
		t.Errorf("%s: got %s, want %s", what, shown(got), shown(want))
	}
}

// shown is an answer with its texts quoted, and cut off where it is long.
func shown(x any) string {
	s := fmt.Sprintf("%#v", x)
	if len(s) > 200 {
		return s[:200] + "..."
	}
	return s
}

func as(n int) string {
	return strings.Repeat("a", n)
}

// shares tells whether a part stands in the whole's own memory.
func shares(whole string, part string) bool {
	from := uintptr(unsafe.Pointer(unsafe.StringData(whole)))
	at := uintptr(unsafe.Pointer(unsafe.StringData(part)))
	return at >= from && at < from+uintptr(len(whole))
}

// sampleNumbers are the edges of each count of bytes, both ways, and some from everywhere.
func sampleNumbers() []int64 {
	l := []int64{0, math.MaxInt64, math.MinInt64, math.MaxInt64 - 1, math.MinInt64 + 1}
	for shift := 0; shift < 63; shift++ {
		p := int64(1) << shift
		l = append(l, p-1, p, p+1, -p-1, -p, -p+1)
	}
	r := rand.New(rand.NewSource(1))
	for i := 0; i < 2000; i++ {
		l = append(l, int64(r.Uint64())>>r.Intn(64))
	}
	return l
}

// sampleTexts are texts of many lengths, of bytes of every kind.
func sampleTexts() []string {
	r := rand.New(rand.NewSource(2))
	l := []string{"", "a", "\x00", "\xff", "\x00\x00\x00\x00", "123456789", as(127), as(128)}
	for i := 0; i < 100; i++ {
		b := make([]byte, r.Intn(300))
		r.Read(b)
		l = append(l, string(b))
	}
	return l
}

func TestPutNumAsWritten(t *testing.T) {
	same(t, "0", impl.PutNum(0), "\x00")
	same(t, "-1", impl.PutNum(-1), "\x01")
	same(t, "1", impl.PutNum(1), "\x02")
	same(t, "63", impl.PutNum(63), "\x7e")
	same(t, "-64", impl.PutNum(-64), "\x7f")
	same(t, "64", impl.PutNum(64), "\x80\x01")
	same(t, "-65", impl.PutNum(-65), "\x81\x01")
	same(t, "300", impl.PutNum(300), "\xd8\x04")
	same(t, "greatest", impl.PutNum(math.MaxInt64), "\xfe\xff\xff\xff\xff\xff\xff\xff\xff\x01")
	same(t, "least", impl.PutNum(math.MinInt64), "\xff\xff\xff\xff\xff\xff\xff\xff\xff\x01")
}

func TestPutNumOfEachCount(t *testing.T) {
	for count := 1; count <= 9; count++ {
		// u below 2 to the power of 7 times count has no more bytes than that.
		over := int64(1) << (7*count - 1)
		same(t, "greatest of a count", len(impl.PutNum(over-1)), count)
		same(t, "least of a count", len(impl.PutNum(-over)), count)
		same(t, "one more", len(impl.PutNum(over)), count+1)
		same(t, "one less", len(impl.PutNum(-over-1)), count+1)
	}
	for _, n := range sampleNumbers() {
		same(t, "as the library writes it", impl.PutNum(n), string(binary.AppendVarint(nil, n)))
	}
}

func TestNumbersComeBack(t *testing.T) {
	for _, n := range sampleNumbers() {
		p := impl.PutNum(n)
		end := int64(len(p))
		same(t, "alone", impl.GetNum(p, 0), impl.NumOut{N: n, At: end})
		same(t, "between others", impl.GetNum("\xff\x80"+p+"\x81\x00", 2), impl.NumOut{N: n, At: end + 2})
		for cut := range p {
			same(t, "cut off", impl.GetNum(p[:cut], 0), impl.NumOut{Code: impl.ErrShort})
		}
	}
}

func TestNumbersAtTheEndOfALongText(t *testing.T) {
	same(t, "last byte", impl.GetNum(as(impl.MaxBytes-1)+"\x02", impl.MaxBytes-1), impl.NumOut{N: 1, At: impl.MaxBytes})
	same(t, "last ten", impl.GetNum(as(impl.MaxBytes-10)+impl.PutNum(math.MinInt64), impl.MaxBytes-10),
		impl.NumOut{N: math.MinInt64, At: impl.MaxBytes})
	same(t, "behind it", impl.GetNum(as(impl.MaxBytes), impl.MaxBytes), impl.NumOut{Code: impl.ErrShort})
}

// moreBytes are bytes of 128, which are never a number's last one.
func moreBytes(n int) string {
	return strings.Repeat("\x80", n)
}

func TestGetNumRefuses(t *testing.T) {
	long := as(impl.MaxBytes + 1)
	cases := []struct {
		what string
		text string
		at   int64
		code int64
	}{
		{"too long a text", long, 0, impl.ErrSize},
		{"too long a text, a place below 0", long, -1, impl.ErrSize},
		{"too long a text, a place behind it", long, impl.MaxBytes + 2, impl.ErrSize},
		{"a place below 0", "\x00", -1, impl.ErrForm},
		{"a place below 0 of no text", "", -1, impl.ErrForm},
		{"the least place", "\x00", math.MinInt64, impl.ErrForm},
		{"no text", "", 0, impl.ErrShort},
		{"the text's end", "\x00", 1, impl.ErrShort},
		{"behind the text's end", "\x00", 2, impl.ErrShort},
		{"the greatest place", "\x00", math.MaxInt64, impl.ErrShort},
		{"one byte of two", "\x80", 0, impl.ErrShort},
		{"nine bytes of ten", moreBytes(9), 0, impl.ErrShort},
		{"nine bytes of ten, further on", "\x00" + moreBytes(9), 1, impl.ErrShort},
		{"ten bytes, none of them the last", moreBytes(10), 0, impl.ErrSyntax},
		{"ten bytes, none of them the last, and more", moreBytes(10) + "\x00", 0, impl.ErrSyntax},
		{"a tenth byte of 129", moreBytes(9) + "\x81", 0, impl.ErrSyntax},
		{"a tenth byte of 255", moreBytes(9) + "\xff\x00", 0, impl.ErrSyntax},
		{"a tenth byte of 2", moreBytes(9) + "\x02", 0, impl.ErrSyntax},
		{"a tenth byte of 127", moreBytes(9) + "\x7f", 0, impl.ErrSyntax},
		{"a tenth byte of 0", moreBytes(9) + "\x00", 0, impl.ErrSyntax},
		{"0 in two bytes", "\x80\x00", 0, impl.ErrSyntax},
		{"63 in two bytes", "\xfe\x00", 0, impl.ErrSyntax},
		{"64 in three bytes", "\x80\x81\x00", 0, impl.ErrSyntax},
		{"64 in three bytes, further on", "\x05\x80\x81\x00\x05", 1, impl.ErrSyntax},
	}
	for _, c := range cases {
		same(t, c.what, impl.GetNum(c.text, c.at), impl.NumOut{Code: c.code})
		same(t, c.what+", of a text", impl.GetText(c.text, c.at), impl.TextOut{Code: c.code})
	}
	same(t, "a tenth byte of 1", impl.GetNum(moreBytes(9)+"\x01", 0), impl.NumOut{N: 1 << 62, At: 10})
}

// Each number has one way to be written: whatever is read is what would be written.
func TestWhatIsReadIsWhatIsWritten(t *testing.T) {
	r := rand.New(rand.NewSource(3))
	for i := 0; i < 20000; i++ {
		b := make([]byte, r.Intn(13))
		for j := range b {
			b[j] = []byte{0, 1, 2, 127, 128, 129, 255, byte(r.Intn(256))}[r.Intn(8)]
		}
		text := string(b)
		got := impl.GetNum(text, 0)
		if got.Code == impl.OK {
			same(t, "written again", impl.PutNum(got.N), text[:got.At])
		} else {
			same(t, "refused", got, impl.NumOut{Code: got.Code})
		}
	}
}

func TestTextsComeBack(t *testing.T) {
	same(t, "as written", impl.PutText("ab"), "\x04ab")
	same(t, "the empty text as written", impl.PutText(""), "\x00")
	same(t, "two bytes of length", impl.PutText(as(64)), "\x80\x01"+as(64))
	same(t, "the longest", impl.PutText(as(impl.MaxBytes)), impl.PutNum(impl.MaxBytes)+as(impl.MaxBytes))
	same(t, "one byte more", impl.PutText(as(impl.MaxBytes+1)), "")
	// Of MaxBytes two are the length's.
	for _, s := range append(sampleTexts(), as(impl.MaxBytes-2), as(impl.MaxBytes-6)) {
		p := impl.PutText(s)
		end := int64(len(p))
		same(t, "alone", impl.GetText(p, 0), impl.TextOut{Text: s, At: end})
		if end+3 <= impl.MaxBytes {
			same(t, "between others", impl.GetText("x\x80"+p+"y", 2), impl.TextOut{Text: s, At: end + 2})
		}
		same(t, "a byte short", impl.GetText(p[:end-1], 0), impl.TextOut{Code: impl.ErrShort})
	}
}

func TestGetTextRefuses(t *testing.T) {
	whole := impl.PutNum(impl.MaxBytes)
	same(t, "a length below 0", impl.GetText("\x01", 0), impl.TextOut{Code: impl.ErrSyntax})
	same(t, "the least length", impl.GetText(impl.PutNum(math.MinInt64)+"a", 0), impl.TextOut{Code: impl.ErrSyntax})
	same(t, "the greatest length", impl.GetText(impl.PutNum(math.MaxInt64)+"a", 0), impl.TextOut{Code: impl.ErrSyntax})
	same(t, "a length over the limit", impl.GetText(impl.PutNum(impl.MaxBytes+1)+"a", 0), impl.TextOut{Code: impl.ErrSyntax})
	same(t, "a length of the limit", impl.GetText(whole+"a", 0), impl.TextOut{Code: impl.ErrShort})
	same(t, "a length of the limit in a text of it", impl.GetText(whole+as(impl.MaxBytes-2), 0), impl.TextOut{Code: impl.ErrShort})
	same(t, "a text over the limit", impl.GetText(whole+as(impl.MaxBytes), 0), impl.TextOut{Code: impl.ErrSize})
	same(t, "a byte short, further on", impl.GetText("abc\x04a", 3), impl.TextOut{Code: impl.ErrShort})
}

func TestNameRight(t *testing.T) {
	for _, s := range []string{"a", "z", "a_9", "a0", "zz_", "a" + strings.Repeat("9", 19)} {
		same(t, s, impl.NameRight(s), true)
	}
	bad := []string{"", "_a", "9a", "A", "aA", "a b", "a-", "a\x00", "\xffa", "é", "aé", "a" + strings.Repeat("9", 20), as(impl.MaxBytes + 1)}
	for _, s := range bad {
		same(t, s, impl.NameRight(s), false)
	}
	for b := range 256 {
		small := b >= 'a' && b <= 'z'
		same(t, "first byte", impl.NameRight(string([]byte{byte(b)})), small)
		same(t, "second byte", impl.NameRight(string([]byte{'a', byte(b), 'a'})), small || b == '_' || b >= '0' && b <= '9')
	}
}

func TestCrc(t *testing.T) {
	same(t, "of nothing", impl.Crc(""), 0)
	same(t, "of nine digits", impl.Crc("123456789"), 0xCBF43926)
	same(t, "all ones", impl.Crc("\xff\xff\xff\xff"), math.MaxUint32)
	longest := strings.Repeat("wire", impl.MaxBytes/4)
	same(t, "the longest", impl.Crc(longest), int64(crc32.ChecksumIEEE([]byte(longest))))
	same(t, "one byte more", impl.Crc(longest+"a"), 0)
	for _, s := range sampleTexts() {
		same(t, "as the library has it", impl.Crc(s), int64(crc32.ChecksumIEEE([]byte(s))))
	}
}

func TestCrcMoreGoesOn(t *testing.T) {
	texts := sampleTexts()
	for i, s := range texts {
		u := texts[(i*7+3)%len(texts)]
		same(t, "from text to text", impl.CrcMore(impl.Crc(s), u), impl.Crc(s+u))
		same(t, "behind nothing", impl.CrcMore(0, u), impl.Crc(u))
		same(t, "nothing behind it", impl.CrcMore(impl.Crc(s), ""), impl.Crc(s))
	}
	longest := as(impl.MaxBytes)
	both := int64(crc32.ChecksumIEEE([]byte(longest + longest)))
	same(t, "more than can be handed in at once", impl.CrcMore(impl.Crc(longest), longest), both)
	same(t, "one byte more", impl.CrcMore(5, longest+"a"), 0)
}

func TestCrcMoreOfEachCrc(t *testing.T) {
	table := crc32.IEEETable
	for _, c := range []int64{0, 1, 1 << 31, math.MaxUint32 - 1, math.MaxUint32} {
		same(t, "from a CRC", impl.CrcMore(c, "ab"), int64(crc32.Update(uint32(c), table, []byte("ab"))))
		same(t, "a CRC and nothing", impl.CrcMore(c, ""), c)
	}
	for _, c := range []int64{-1, math.MinInt64, math.MaxUint32 + 1, math.MaxUint32 + 2, math.MaxInt64} {
		same(t, "no CRC", impl.CrcMore(c, "ab"), 0)
		same(t, "no CRC and nothing", impl.CrcMore(c, ""), 0)
	}
}

func TestSealedComesBack(t *testing.T) {
	same(t, "nothing sealed", impl.Seal(""), "\x00\x00\x00\x00")
	same(t, "nine digits sealed", impl.Seal("123456789"), "123456789\x26\x39\xf4\xcb")
	for _, s := range append(sampleTexts(), as(impl.MaxBytes-4)) {
		sealed := impl.Seal(s)
		same(t, "length", len(sealed), len(s)+4)
		same(t, "comes back", impl.Unseal(sealed), impl.TextOut{Text: s})
	}
	same(t, "one byte more", impl.Seal(as(impl.MaxBytes-3)), "")
	same(t, "a text of the limit", impl.Seal(as(impl.MaxBytes)), "")
	same(t, "a text over the limit", impl.Seal(as(impl.MaxBytes+1)), "")
}

func TestOneByteTurnedIsRefused(t *testing.T) {
	for _, s := range []string{"", "a", "ab", "123456789", as(60)} {
		sealed := []byte(impl.Seal(s))
		for place := range sealed {
			kept := sealed[place]
			for turn := 1; turn < 256; turn++ {
				sealed[place] = kept ^ byte(turn)
				same(t, "turned", impl.Unseal(string(sealed)), impl.TextOut{Code: impl.ErrSum})
			}
			sealed[place] = kept
		}
	}
	longest := []byte(impl.Seal(as(impl.MaxBytes - 4)))
	for place := range longest {
		if place%97 == 0 || place > impl.MaxBytes-8 {
			longest[place] ^= 1 << (place % 8)
			same(t, "turned in the longest", impl.Unseal(string(longest)), impl.TextOut{Code: impl.ErrSum})
			longest[place] ^= 1 << (place % 8)
		}
	}
}

func TestUnsealRefuses(t *testing.T) {
	for _, s := range []string{"", "a", "ab", "\x00\x00\x00"} {
		same(t, "fewer than four bytes", impl.Unseal(s), impl.TextOut{Code: impl.ErrShort})
	}
	same(t, "four bytes", impl.Unseal("\x00\x00\x00\x01"), impl.TextOut{Code: impl.ErrSum})
	same(t, "the highest first", impl.Unseal("123456789\xcb\xf4\x39\x26"), impl.TextOut{Code: impl.ErrSum})
	same(t, "a text of the limit", impl.Unseal(as(impl.MaxBytes)), impl.TextOut{Code: impl.ErrSum})
	over := as(impl.MaxBytes - 3)
	var sum [4]byte
	binary.LittleEndian.PutUint32(sum[:], crc32.ChecksumIEEE([]byte(over)))
	same(t, "sealed, but over the limit", impl.Unseal(over+string(sum[:])), impl.TextOut{Code: impl.ErrSize})
}

// What is handed in as a text is not to be found in an answer: each answer is new memory.
func TestAnswersAreNewMemory(t *testing.T) {
	put := impl.PutText("abcdefgh")
	sealed := impl.Seal("abcdefgh")
	if shares(put, impl.GetText(put, 0).Text) {
		t.Error("GetText shares memory with its text")
	}
	if shares(sealed, impl.Unseal(sealed).Text) {
		t.Error("Unseal shares memory with its text")
	}
}
