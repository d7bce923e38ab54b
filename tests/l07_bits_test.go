package tests

import (
	"math"
	"math/big"
	"math/rand"
	"slices"
	"strings"
	"testing"

	"loop.example/g00628/impl"
)

// field is one that is not Signed.
func field(at int64, width int64) impl.Field {
	return impl.Field{At: at, Width: width}
}

// signed is a Field of two's complement.
func signed(at int64, width int64) impl.Field {
	return impl.Field{At: at, Width: width, Signed: true}
}

// number is the Value that means this number.
func number(n int64) impl.Value {
	return impl.Value{Kind: impl.VlNumber, N: n}
}

// noNumber is the Value of that Kind alone.
func noNumber(kind int64) impl.Value {
	return impl.Value{Kind: kind}
}

// filledWith are so many bytes, all the same.
func filledWith(b byte, n int) string {
	return strings.Repeat(string([]byte{b}), n)
}

// mixed are so many bytes at random, but the same of each seed.
func mixed(seed int64, n int) string {
	b := make([]byte, n)
	rand.New(rand.NewSource(seed)).Read(b)
	return string(b)
}

// asOneNumber is the number of which a text's bits are the bits.
func asOneNumber(text string) *big.Int {
	b := []byte(text)
	slices.Reverse(b)
	return new(big.Int).SetBytes(b)
}

// bitsMayBe says whether bits stand where they may, and all in the text.
func bitsMayBe(text string, at int64, width int64) bool {
	return at >= 0 && at <= 1800 && width >= 1 && width <= 32 && at+width <= int64(8*len(text))
}

// bitsAsSaid is what GetBits answers of a text that may be, found by division of one great number.
func bitsAsSaid(text string, at int64, width int64) int64 {
	if !bitsMayBe(text, at, width) {
		return 0
	}
	n := new(big.Int).Rsh(asOneNumber(text), uint(at))
	return n.Mod(n, big.NewInt(1<<width)).Int64()
}

// putAsSaid is what PutBits answers of a text that may be, bit by bit of one great number.
func putAsSaid(text string, at int64, width int64, n int64) string {
	if !bitsMayBe(text, at, width) || n < 0 || n >= 1<<width {
		return text
	}
	whole := asOneNumber(text)
	for j := range width {
		whole.SetBit(whole, int(at+j), uint(n>>j&1))
	}
	b := whole.FillBytes(make([]byte, len(text)))
	slices.Reverse(b)
	return string(b)
}

// bitTexts are texts of few bytes, of bytes of every kind.
func bitTexts() []string {
	l := []string{"", "\x00", "\xff", "\x80", "\x01", "\xf0\x0a"}
	for n := 1; n <= 7; n++ {
		l = append(l, filledWith(0, n), filledWith(255, n), filledWith(0x55, n), mixed(int64(n), n), mixed(int64(-n), n))
	}
	return l
}

// noWidths are Widths that none may be.
func noWidths() []int64 {
	return []int64{0, -1, -8, 33, 34, 64, 1<<32 + 8, math.MinInt64, math.MaxInt64, math.MinInt64 + 8}
}

// noPlaces are places at which no Field may be.
func noPlaces() []int64 {
	return []int64{-1, -8, 1801, 1802, 8 * impl.MaxBytes, 1 << 32, 1 << 61, math.MinInt64, math.MaxInt64, math.MaxInt64 - 7}
}

func TestBitsNumbersAsSaid(t *testing.T) {
	got := []int64{impl.VlNumber, impl.VlNone, impl.VlError}
	if !slices.Equal(got, []int64{1, 2, 3}) {
		t.Errorf("got %v", got)
	}
}

func TestFieldRight(t *testing.T) {
	for at := int64(-3); at <= 1805; at++ {
		for width := int64(-3); width <= 36; width++ {
			want := at >= 0 && at <= 1800 && width >= 1 && width <= 32
			same(t, shown(field(at, width)), impl.FieldRight(field(at, width)), want)
			same(t, shown(signed(at, width)), impl.FieldRight(signed(at, width)), want)
		}
	}
	for _, f := range wrongFields() {
		same(t, shown(f), impl.FieldRight(f), false)
	}
}

// wrongFields are Fields that are not right, most of them in one part alone.
func wrongFields() []impl.Field {
	l := []impl.Field{{}, {Signed: true}, field(-1, 0), field(1801, 33)}
	for _, width := range noWidths() {
		l = append(l, field(0, width), signed(0, width), field(8, width), field(1800, width), signed(1800, width))
	}
	for _, at := range noPlaces() {
		l = append(l, field(at, 1), signed(at, 1), field(at, 8), signed(at, 8), field(at, 32), signed(at, 32))
	}
	return l
}

func TestGetBitsAsSaid(t *testing.T) {
	five := "\x10\x32\x54\x76\x98"
	cases := []struct {
		what  string
		text  string
		at    int64
		width int64
		want  int64
	}{
		{"over two bytes", "\xf0\x0a", 4, 8, 0xaf},
		{"the first bit", "\x01", 0, 1, 1},
		{"the first bit, not set", "\xfe", 0, 1, 0},
		{"the last bit", "\x80", 7, 1, 1},
		{"the last bit, not set", "\x7f", 7, 1, 0},
		{"the bit behind the last one", "\xff", 8, 1, 0},
		{"a byte", "\xa5", 0, 8, 0xa5},
		{"in the midst of a byte", "\xa5", 2, 4, 9},
		{"the second byte", "\x00\xa5", 8, 8, 0xa5},
		{"two bytes, the lowest first", "\x34\x12", 0, 16, 0x1234},
		{"four bytes", five, 0, 32, 0x76543210},
		{"the last four bytes", five, 8, 32, 0x98765432},
		{"four bytes in five", five, 4, 32, 0x87654321},
		{"in five bytes, of the first one a bit", five, 7, 32, 0x30eca864},
		{"in five bytes, of the last one a bit", "\x00\x00\x00\x00\x01", 1, 32, 0x80000000},
		{"all set", filledWith(255, 5), 5, 32, 4294967295},
		{"one more than there are", five, 9, 32, 0},
		{"all behind the text", five, 40, 1, 0},
		{"of no byte", "", 0, 1, 0},
		{"of no byte, 32", "", 0, 32, 0},
	}
	for _, c := range cases {
		same(t, c.what, impl.GetBits(c.text, c.at, c.width), c.want)
	}
}

func TestGetBitsOfEachPlaceAndWidth(t *testing.T) {
	for _, text := range bitTexts() {
		for at := int64(-3); at <= 60; at++ {
			for width := int64(-3); width <= 36; width++ {
				same(t, shown([]any{text, at, width}), impl.GetBits(text, at, width), bitsAsSaid(text, at, width))
			}
		}
	}
}

func TestBitsThatMayNotBe(t *testing.T) {
	long := filledWith(255, 300)
	for _, text := range []string{"", "\xff\xff", long, filledWith(255, impl.MaxBytes)} {
		for _, at := range append(noPlaces(), 0, 8, 1800) {
			for _, width := range append(noWidths(), 1, 32) {
				if bitsMayBe(text, at, width) {
					continue
				}
				same(t, "no bits", impl.GetBits(text, at, width), 0)
				for _, n := range []int64{0, 1, -1, math.MinInt64, math.MaxInt64} {
					same(t, "the text as it is", impl.PutBits(text, at, width, n), text)
				}
			}
		}
	}
}

// At the greatest At of all, in texts that end ahead of it, in it and behind it.
func TestBitsAtTheGreatestPlace(t *testing.T) {
	for _, n := range []int{224, 225, 226, 227, 228, 229, 230, 500, impl.MaxBytes} {
		text := mixed(int64(n), n)
		for at := int64(1797); at <= 1803; at++ {
			for _, width := range []int64{1, 2, 7, 8, 9, 16, 24, 31, 32, 33} {
				what := shown([]any{n, at, width})
				same(t, what, impl.GetBits(text, at, width), bitsAsSaid(text, at, width))
				turned := 1<<width - 1 - bitsAsSaid(text, at, width)
				same(t, what, impl.PutBits(text, at, width, turned), putAsSaid(text, at, width, turned))
			}
		}
	}
	same(t, "the last one that may be", impl.GetBits(filledWith(255, 229), 1800, 32), 4294967295)
	same(t, "one too far", impl.GetBits(filledWith(255, 300), 1801, 32), 0)
	same(t, "one byte too few", impl.GetBits(filledWith(255, 228), 1800, 32), 0)
	same(t, "the first bit at 1800", impl.GetBits(filledWith(0, 225)+"\x01", 1800, 1), 1)
}

func TestPutBitsAsSaid(t *testing.T) {
	zeros, ones := filledWith(0, 6), filledWith(255, 6)
	cases := []struct {
		what  string
		text  string
		at    int64
		width int64
		n     int64
		want  string
	}{
		{"over two bytes", "\x00\x00", 4, 8, 175, "\xf0\x0a"},
		{"over two bytes of 255", "\xff\xff", 4, 8, 0x50, "\x0f\xf5"},
		{"the first bit", "\x00", 0, 1, 1, "\x01"},
		{"the first bit of 255", "\xff", 0, 1, 0, "\xfe"},
		{"the last bit", "\x00", 7, 1, 1, "\x80"},
		{"the last bit of 255", "\xff", 7, 1, 0, "\x7f"},
		{"the bit behind the last one", "\x00", 8, 1, 1, "\x00"},
		{"a byte", "\xff", 0, 8, 0xa5, "\xa5"},
		{"in the midst of a byte", "\xff", 2, 4, 6, "\xdb"},
		{"four bytes, the lowest first", zeros, 8, 32, 0x76543210, "\x00\x10\x32\x54\x76\x00"},
		{"four bytes in five", zeros, 4, 32, 0x87654321, "\x10\x32\x54\x76\x08\x00"},
		{"four bytes of 255 in five", ones, 4, 32, 0x87654321, "\x1f\x32\x54\x76\xf8\xff"},
		{"in five bytes, of the last one a bit", zeros, 1, 32, 0x80000000, "\x00\x00\x00\x00\x01\x00"},
		{"the last 32", zeros, 16, 32, 4294967295, "\x00\x00\xff\xff\xff\xff"},
		{"0 into the last 32", ones, 16, 32, 0, "\xff\xff\x00\x00\x00\x00"},
		{"one behind the last 32", zeros, 17, 32, 1, zeros},
		{"a number that is too great", "\x00\x00", 4, 8, 256, "\x00\x00"},
		{"a number below 0", "\x00\x00", 4, 8, -1, "\x00\x00"},
		{"of no byte", "", 0, 1, 1, ""},
	}
	for _, c := range cases {
		same(t, c.what, impl.PutBits(c.text, c.at, c.width, c.n), c.want)
	}
}

// bitNumbers are numbers that go into so many bits, and some that do not.
func bitNumbers(r *rand.Rand, width int64) []int64 {
	end := int64(1) << max(0, min(width, 40))
	return []int64{0, 1, end / 2, end - 2, end - 1, end, end + 1, -1, -end, 2*end - 1, r.Int63n(end), r.Int63n(end),
		1 << 32, 1<<32 + 1, math.MinInt64, math.MinInt64 + 1, math.MaxInt64}
}

func TestPutBitsOfEachPlaceAndWidth(t *testing.T) {
	r := rand.New(rand.NewSource(21))
	for _, text := range []string{"", "\x00", "\xff", filledWith(0, 6), filledWith(255, 6), mixed(3, 6), mixed(4, 5)} {
		for at := int64(-2); at <= 50; at++ {
			for width := int64(-1); width <= 34; width++ {
				for _, n := range bitNumbers(r, width) {
					same(t, shown([]any{text, at, width, n}), impl.PutBits(text, at, width, n), putAsSaid(text, at, width, n))
				}
			}
		}
	}
}

// bit is a text's bit at a place, looked for in its byte alone.
func bit(text string, place int) bool {
	return text[place/8]&(1<<(place%8)) != 0
}

func TestBitsThatArePutAreGotAndNoOthersTurned(t *testing.T) {
	r := rand.New(rand.NewSource(22))
	for range 20000 {
		text := mixed(r.Int63(), 1+r.Intn(40))
		if r.Intn(3) == 0 {
			text = filledWith(byte(255*r.Intn(2)), len(text))
		}
		width := 1 + r.Int63n(min(32, int64(8*len(text))))
		at := r.Int63n(int64(8*len(text)) - width + 1)
		n := r.Int63n(1 << width)
		put := impl.PutBits(text, at, width, n)
		same(t, "got", impl.GetBits(put, at, width), n)
		same(t, "as long", len(put), len(text))
		for place := range 8 * len(text) {
			if inside := int64(place) >= at && int64(place) < at+width; !inside && bit(put, place) != bit(text, place) {
				t.Fatalf("bit %d of %q is turned by %d bits at %d: %q", place, text, width, at, put)
			}
		}
		same(t, "as it was", impl.PutBits(put, at, width, impl.GetBits(text, at, width)), text)
	}
}

func TestLowOfAndHighOfAsSaid(t *testing.T) {
	cases := []struct {
		f    impl.Field
		low  int64
		high int64
	}{
		{field(0, 1), 0, 1}, {signed(0, 1), -1, 0},
		{field(0, 2), 0, 3}, {signed(0, 2), -2, 1},
		{field(5, 3), 0, 7}, {signed(5, 3), -4, 3},
		{field(5, 4), 0, 13}, {signed(5, 4), -8, 5},
		{field(0, 5), 0, 29}, {signed(0, 5), -16, 13},
		{field(1, 8), 0, 253}, {signed(1, 8), -128, 125},
		{field(8, 16), 0, 65533}, {signed(8, 16), -32768, 32765},
		{field(0, 31), 0, 2147483645}, {signed(0, 31), -1073741824, 1073741821},
		{field(0, 32), 0, 4294967293}, {signed(0, 32), -2147483648, 2147483645},
		{field(1800, 32), 0, 4294967293}, {signed(1800, 32), -2147483648, 2147483645},
	}
	for _, c := range cases {
		same(t, "LowOf "+shown(c.f), impl.LowOf(c.f), c.low)
		same(t, "HighOf "+shown(c.f), impl.HighOf(c.f), c.high)
	}
	for _, f := range wrongFields() {
		same(t, "LowOf "+shown(f), impl.LowOf(f), 0)
		same(t, "HighOf "+shown(f), impl.HighOf(f), 0)
	}
}

// toldAsSaid is what bits of that number tell.
func toldAsSaid(f impl.Field, n int64) impl.Value {
	end := int64(1) << f.Width
	if f.Signed && n >= end/2 {
		return number(n - end)
	}
	if f.Signed {
		end /= 2
	}
	if f.Width >= 4 && n == end-1 {
		return noNumber(impl.VlNone)
	}
	if f.Width >= 4 && n == end-2 {
		return noNumber(impl.VlError)
	}
	return number(n)
}

// tellingBits are numbers of so many bits: all of few, the edges and some others of many.
func tellingBits(r *rand.Rand, width int64) []int64 {
	if width <= 10 {
		return span(0, 1<<width-1)
	}
	end := int64(1) << width
	l := append(span(0, 5), append(span(end/2-5, end/2+5), span(end-6, end-1)...)...)
	for range 50 {
		l = append(l, r.Int63n(end))
	}
	return l
}

// bothOf are the right Fields of that At and Width.
func bothOf(at int64, width int64) []impl.Field {
	return []impl.Field{field(at, width), signed(at, width)}
}

// What each number means, and that it is told so wherever it stands, whatever is round about.
func TestFieldGetOfEachWidth(t *testing.T) {
	r := rand.New(rand.NewSource(23))
	for width := int64(1); width <= 32; width++ {
		for _, f := range append(bothOf(0, width), bothOf(1+r.Int63n(15), width)...) {
			for _, n := range tellingBits(r, width) {
				for _, text := range []string{filledWith(0, 6), filledWith(255, 6), mixed(n, 6)} {
					got := impl.FieldGet(putAsSaid(text, f.At, width, n), f)
					same(t, shown([]any{f, n}), got, toldAsSaid(f, n))
					same(t, "right", impl.ValueRight(f, got), true)
				}
			}
		}
	}
}

func TestFieldGetAsSaid(t *testing.T) {
	cases := []struct {
		what string
		text string
		f    impl.Field
		want impl.Value
	}{
		{"one bit", "\x80", field(7, 1), number(1)},
		{"one bit, Signed", "\x80", signed(7, 1), number(-1)},
		{"one bit of 0, Signed", "\x7f", signed(7, 1), number(0)},
		{"two bits", "\x0c", field(2, 2), number(3)},
		{"two bits, Signed", "\x0c", signed(2, 2), number(-1)},
		{"the greatest one of three bits", "\x07", field(0, 3), number(7)},
		{"the one below it", "\x06", field(0, 3), number(6)},
		{"the greatest one of three bits, Signed", "\x03", signed(0, 3), number(3)},
		{"the one below it, Signed", "\x02", signed(0, 3), number(2)},
		{"the least one of three bits", "\x04", signed(0, 3), number(-4)},
		{"the greatest one of four bits", "\xf0", field(4, 4), noNumber(impl.VlNone)},
		{"the one below it", "\xe0", field(4, 4), noNumber(impl.VlError)},
		{"two below it", "\xd0", field(4, 4), number(13)},
		{"the greatest one of four bits, Signed", "\x70", signed(4, 4), noNumber(impl.VlNone)},
		{"the one below it, Signed", "\x60", signed(4, 4), noNumber(impl.VlError)},
		{"two below it, Signed", "\x50", signed(4, 4), number(5)},
		{"-1 of four bits", "\xf0", signed(4, 4), number(-1)},
		{"the least one of four bits", "\x80", signed(4, 4), number(-8)},
		{"-2 of a byte", "\x00\xfe", signed(8, 8), number(-2)},
		{"the greatest one of 32 bits", "\xff\xff\xff\xff", field(0, 32), noNumber(impl.VlNone)},
		{"the one below it", "\xfe\xff\xff\xff", field(0, 32), noNumber(impl.VlError)},
		{"two below it", "\xfd\xff\xff\xff", field(0, 32), number(4294967293)},
		{"the greatest one of 32 bits, Signed", "\xff\xff\xff\x7f", signed(0, 32), noNumber(impl.VlNone)},
		{"the one below it, Signed", "\xfe\xff\xff\x7f", signed(0, 32), noNumber(impl.VlError)},
		{"two below it, Signed", "\xfd\xff\xff\x7f", signed(0, 32), number(2147483645)},
		{"-1 of 32 bits", "\xff\xff\xff\xff", signed(0, 32), number(-1)},
		{"the least one of 32 bits", "\x00\x00\x00\x80", signed(0, 32), number(-2147483648)},
		{"the greatest one of 31 bits", "\xfe\xff\xff\xff", field(1, 31), noNumber(impl.VlNone)},
		{"the greatest one of 31 bits, Signed", "\xff\xff\xff\x3f", signed(0, 31), noNumber(impl.VlNone)},
		{"the least one of 31 bits", "\x00\x00\x00\x40", signed(0, 31), number(-1073741824)},
		{"0, which is a number", "\x00\x00\x00\x00", field(0, 32), number(0)},
		{"all in the text but one bit", "\xff\xff", field(8, 9), impl.Value{}},
		{"all in the text", "\xff\x01", field(7, 9), number(3)},
		{"behind the text", "\xff\xff", field(16, 1), impl.Value{}},
		{"behind the text, Signed", "\xff\xff", signed(16, 8), impl.Value{}},
		{"of no byte", "", field(0, 1), impl.Value{}},
	}
	for _, c := range cases {
		same(t, c.what, impl.FieldGet(c.text, c.f), c.want)
	}
}

func TestFieldPutAsSaid(t *testing.T) {
	zeros, ones := filledWith(0, 5), filledWith(255, 5)
	cases := []struct {
		what string
		text string
		f    impl.Field
		v    impl.Value
		want string
	}{
		{"-2 of a byte", "\x00\x00", signed(8, 8), number(-2), "\x00\xfe"},
		{"-1 of one bit", zeros, signed(3, 1), number(-1), "\x08\x00\x00\x00\x00"},
		{"0 of one bit", ones, signed(3, 1), number(0), "\xf7\xff\xff\xff\xff"},
		{"1 of one bit", zeros, field(3, 1), number(1), "\x08\x00\x00\x00\x00"},
		{"-1 of three bits", zeros, signed(6, 3), number(-1), "\xc0\x01\x00\x00\x00"},
		{"-4 of three bits", ones, signed(6, 3), number(-4), "\x3f\xff\xff\xff\xff"},
		{"-1 of four bits", zeros, signed(2, 4), number(-1), "\x3c\x00\x00\x00\x00"},
		{"-8 of four bits", ones, signed(2, 4), number(-8), "\xe3\xff\xff\xff\xff"},
		{"5 of four bits", ones, signed(2, 4), number(5), "\xd7\xff\xff\xff\xff"},
		{"none of four bits", zeros, field(2, 4), noNumber(impl.VlNone), "\x3c\x00\x00\x00\x00"},
		{"none of four bits, Signed", zeros, signed(2, 4), noNumber(impl.VlNone), "\x1c\x00\x00\x00\x00"},
		{"error of four bits", ones, field(2, 4), noNumber(impl.VlError), "\xfb\xff\xff\xff\xff"},
		{"error of four bits, Signed", ones, signed(2, 4), noNumber(impl.VlError), "\xdb\xff\xff\xff\xff"},
		{"-1 of 32 bits", zeros, signed(4, 32), number(-1), "\xf0\xff\xff\xff\x0f"},
		{"the least one of 32 bits", ones, signed(4, 32), number(-2147483648), "\x0f\x00\x00\x00\xf8"},
		{"the greatest one of 32 bits", zeros, field(8, 32), number(4294967293), "\x00\xfd\xff\xff\xff"},
		{"the greatest one of 32 bits, Signed", zeros, signed(8, 32), number(2147483645), "\x00\xfd\xff\xff\x7f"},
		{"none of 32 bits", zeros, field(8, 32), noNumber(impl.VlNone), "\x00\xff\xff\xff\xff"},
		{"none of 32 bits, Signed", zeros, signed(8, 32), noNumber(impl.VlNone), "\x00\xff\xff\xff\x7f"},
		{"error of 32 bits", zeros, field(8, 32), noNumber(impl.VlError), "\x00\xfe\xff\xff\xff"},
		{"error of 32 bits, Signed", zeros, signed(8, 32), noNumber(impl.VlError), "\x00\xfe\xff\xff\x7f"},
		{"all in the text but one bit", zeros, field(9, 32), number(1), zeros},
		{"all in the text but one bit, Signed", zeros, signed(33, 8), noNumber(impl.VlNone), zeros},
		{"behind the text", zeros, field(40, 1), number(1), zeros},
		{"of no byte", "", field(0, 1), number(1), ""},
		{"a number that means none", zeros, field(0, 8), number(255), zeros},
		{"a number that means error", zeros, field(0, 8), number(254), zeros},
		{"a number that means none, Signed", zeros, signed(0, 8), number(127), zeros},
		{"a number below 0, not Signed", zeros, field(0, 8), number(-1), zeros},
		{"none of three bits", zeros, field(0, 3), noNumber(impl.VlNone), zeros},
		{"none with an N", zeros, field(0, 8), impl.Value{Kind: impl.VlNone, N: 1}, zeros},
		{"no Value", ones, field(0, 8), impl.Value{}, ones},
	}
	for _, c := range cases {
		same(t, c.what, impl.FieldPut(c.text, c.f, c.v), c.want)
	}
}

// valueAsSaid says whether a Value is one that some bits of a Field tell.
func valueAsSaid(f impl.Field, v impl.Value) bool {
	least, end := int64(0), int64(1)<<f.Width
	if f.Signed {
		least, end = -end/2, end/2
	}
	if f.Width >= 4 {
		end -= 2
	}
	switch v.Kind {
	case 1:
		return v.N >= least && v.N < end
	case 2, 3:
		return v.N == 0 && f.Width >= 4
	}
	return false
}

// sampleValues are Values at all edges of a Field, and of Kinds that are none.
func sampleValues(f impl.Field) []impl.Value {
	var l []impl.Value
	end := int64(1) << f.Width
	numbers := []int64{0, 1, -1, 2, -2, end, end - 1, end - 2, end - 3, end - 4, end + 1, -end, -end - 1,
		end / 2, end/2 - 1, end/2 - 2, end/2 - 3, end/2 - 4, -end / 2, -end/2 - 1, -end/2 + 1, 1 << 32, -1 << 32,
		math.MinInt64, math.MinInt64 + 1, math.MaxInt64, math.MaxInt64 - 1}
	for _, n := range numbers {
		for _, kind := range []int64{1, 2, 3, 0, 4, 5, -1, 1<<32 + 1, math.MinInt64, math.MaxInt64} {
			l = append(l, impl.Value{Kind: kind, N: n})
		}
	}
	return l
}

func TestValueRight(t *testing.T) {
	for width := int64(1); width <= 32; width++ {
		for _, f := range append(bothOf(0, width), bothOf(1800, width)...) {
			for _, v := range sampleValues(f) {
				same(t, shown([]any{f, v}), impl.ValueRight(f, v), valueAsSaid(f, v))
			}
		}
	}
	for _, f := range []impl.Field{field(0, 1), field(0, 2), field(0, 3), signed(0, 1), signed(0, 2), signed(0, 3)} {
		for n := int64(-12); n <= 12; n++ {
			same(t, shown([]any{f, n}), impl.ValueRight(f, number(n)), valueAsSaid(f, number(n)))
		}
	}
}

func TestValueRightOfFieldsThatAreNot(t *testing.T) {
	for _, f := range wrongFields() {
		for _, v := range []impl.Value{{}, number(0), number(1), number(-1), noNumber(impl.VlNone), noNumber(impl.VlError)} {
			same(t, shown([]any{f, v}), impl.ValueRight(f, v), false)
		}
	}
}

// A Value that is right comes back, and turns no other bit; one that is not leaves the text as it is.
func TestValuesOfAFieldComeBack(t *testing.T) {
	r := rand.New(rand.NewSource(24))
	for width := int64(1); width <= 32; width++ {
		for at := range int64(10) {
			for _, f := range bothOf(at, width) {
				text := []string{filledWith(0, 6), filledWith(255, 6), mixed(r.Int63(), 6)}[r.Intn(3)]
				for _, v := range sampleValues(f) {
					got := impl.FieldPut(text, f, v)
					if !valueAsSaid(f, v) {
						same(t, "as it is", got, text)
						continue
					}
					same(t, shown([]any{f, v}), impl.FieldGet(got, f), v)
					same(t, "no others turned", putAsSaid(got, at, width, bitsAsSaid(text, at, width)), text)
				}
			}
		}
	}
}

func TestAFieldThatIsNotAllInTheText(t *testing.T) {
	for n := range 6 {
		text := mixed(int64(n), n)
		for at := int64(0); at <= 45; at++ {
			for width := int64(1); width <= 32; width++ {
				for _, f := range bothOf(at, width) {
					if bitsMayBe(text, at, width) {
						same(t, shown(f), impl.FieldGet(text, f), toldAsSaid(f, bitsAsSaid(text, at, width)))
						continue
					}
					same(t, shown(f), impl.FieldGet(text, f), impl.Value{})
					same(t, shown(f), impl.FieldPut(text, f, number(0)), text)
					same(t, shown(f), impl.FieldPut(text, f, noNumber(impl.VlNone)), text)
				}
			}
		}
	}
}

func TestAFieldThatIsNotRight(t *testing.T) {
	for _, text := range []string{"", "\xff", filledWith(0, 300), filledWith(255, 300)} {
		for _, f := range wrongFields() {
			same(t, shown(f), impl.FieldGet(text, f), impl.Value{})
			for _, v := range []impl.Value{{}, number(0), number(1), noNumber(impl.VlNone), noNumber(impl.VlError)} {
				same(t, shown(f), impl.FieldPut(text, f, v), text)
			}
		}
	}
}

func TestAFieldAtTheGreatestPlace(t *testing.T) {
	text := filledWith(0, 229)
	for _, f := range bothOf(1800, 32) {
		for _, v := range []impl.Value{number(impl.HighOf(f)), number(impl.LowOf(f)), noNumber(impl.VlNone), noNumber(impl.VlError)} {
			put := impl.FieldPut(text, f, v)
			same(t, "all ahead of it", put[:225], text[:225])
			same(t, "comes back", impl.FieldGet(put, f), v)
		}
		same(t, "a byte too few", impl.FieldGet(text[1:], f), impl.Value{})
		same(t, "a byte too few", impl.FieldPut(text[1:], f, number(1)), text[1:])
	}
}

// Fields that lie side by side do not turn each other's bits.
func TestFieldsSideBySideComeBack(t *testing.T) {
	r := rand.New(rand.NewSource(25))
	for range 500 {
		size := 1 + r.Int63n(226)
		text := mixed(r.Int63(), int(size))
		var fields []impl.Field
		for at := r.Int63n(8); at < 8*size; {
			width := min(1+r.Int63n(32), 8*size-at)
			fields = append(fields, impl.Field{At: at, Width: width, Signed: r.Intn(2) == 0})
			at += width
		}
		values := make([]impl.Value, len(fields))
		for _, i := range r.Perm(len(fields)) {
			f := fields[i]
			values[i] = toldAsSaid(f, r.Int63n(1<<f.Width))
			if f.Width >= 4 && r.Intn(3) == 0 {
				values[i] = noNumber(2 + r.Int63n(2))
			}
			text = impl.FieldPut(text, f, values[i])
		}
		for i, f := range fields {
			if f.At > 1800 {
				values[i] = impl.Value{}
			}
			same(t, shown(f), impl.FieldGet(text, f), values[i])
		}
	}
}

// A text of more than MaxBytes is refused ahead of all else: even where else it would be answered as it is.
func TestBitsOfLongTexts(t *testing.T) {
	most, over := mixed(1, impl.MaxBytes), mixed(1, impl.MaxBytes+1)
	f, turned := field(9, 7), 127-bitsAsSaid(most, 9, 7)
	same(t, "MaxBytes", impl.GetBits(most, 9, 7), bitsAsSaid(most, 9, 7))
	same(t, "MaxBytes", impl.PutBits(most, 9, 7, turned), putAsSaid(most, 9, 7, turned))
	same(t, "MaxBytes, no width", impl.PutBits(most, 9, 0, 0), most)
	same(t, "MaxBytes", impl.FieldPut(most, f, noNumber(impl.VlError)), putAsSaid(most, 9, 7, 126))
	same(t, "MaxBytes, no Value", impl.FieldPut(most, f, impl.Value{}), most)
	same(t, "MaxBytes", impl.FieldGet(putAsSaid(most, 9, 7, 126), f), noNumber(impl.VlError))
	for _, text := range []string{over, filledWith(255, impl.MaxBytes+1), filledWith(255, 2*impl.MaxBytes)} {
		same(t, "one byte more", impl.GetBits(text, 0, 32), 0)
		same(t, "one byte more", impl.PutBits(text, 0, 32, 5), "")
		same(t, "one byte more, no bits", impl.PutBits(text, -1, 33, -5), "")
		same(t, "one byte more, no number", impl.PutBits(text, 0, 1, 2), "")
		same(t, "one byte more", impl.FieldGet(text, f), impl.Value{})
		same(t, "one byte more, Signed", impl.FieldGet(text, signed(0, 3)), impl.Value{})
		same(t, "one byte more", impl.FieldPut(text, f, number(5)), "")
		same(t, "one byte more, no Field", impl.FieldPut(text, impl.Field{}, number(5)), "")
		same(t, "one byte more, no Value", impl.FieldPut(text, f, impl.Value{}), "")
	}
}

func TestTextsWithBitsPutAreNewMemory(t *testing.T) {
	text := strings.Clone("abcdefghij")
	given := []string{
		impl.PutBits(text, 8, 8, 255), impl.PutBits(text, 8, 8, 'b'), impl.PutBits(text, 0, 32, 0), impl.PutBits(text, 79, 1, 1),
		impl.PutBits(text, 73, 8, 0), impl.PutBits(text, -1, 8, 0), impl.PutBits(text, 8, 8, 256), impl.PutBits(text, 8, 0, 0),
		impl.FieldPut(text, field(8, 8), number(200)), impl.FieldPut(text, signed(8, 8), noNumber(impl.VlNone)),
		impl.FieldPut(text, field(73, 8), number(1)), impl.FieldPut(text, field(8, 8), number(254)),
		impl.FieldPut(text, field(8, 8), impl.Value{}), impl.FieldPut(text, impl.Field{}, number(1)),
	}
	for i, answer := range given {
		same(t, "as long", len(answer), len(text))
		if shares(text, answer) {
			t.Errorf("answer %d shares memory with what was handed in: %q", i, answer)
		}
	}
	same(t, "what was handed in stays", text, "abcdefghij")
}
