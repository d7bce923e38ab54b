package tests

import (
	"encoding/binary"
	"math"
	"math/rand"
	"slices"
	"strings"
	"testing"

	"loop.example/g00628/impl"
)

// namePart is a part of a Name that is a number: its greatest one, and from which bit of the name's number on it stands.
type namePart struct {
	what     string
	of       func(n *impl.Name) *int64
	greatest int64
	bit      int
}

// nameParts are all of these, those first that count least.
func nameParts() []namePart {
	return []namePart{
		{"Unique", func(n *impl.Name) *int64 { return &n.Unique }, 2097151, 0},
		{"Maker", func(n *impl.Name) *int64 { return &n.Maker }, 2047, 21},
		{"Instance", func(n *impl.Name) *int64 { return &n.Instance }, 255, 32},
		{"Function", func(n *impl.Name) *int64 { return &n.Function }, 255, 40},
		{"Class", func(n *impl.Name) *int64 { return &n.Class }, 127, 49},
		{"System", func(n *impl.Name) *int64 { return &n.System }, 15, 56},
		{"Industry", func(n *impl.Name) *int64 { return &n.Industry }, 7, 60},
	}
}

// with is a Name with another number for one of its parts.
func (p namePart) with(n impl.Name, number int64) impl.Name {
	*p.of(&n) = number
	return n
}

// numberAsBits is the number of a right Name, its parts laid side by side.
func numberAsBits(n impl.Name) uint64 {
	u := uint64(0)
	for _, p := range nameParts() {
		u |= uint64(*p.of(&n)) << p.bit
	}
	if n.Auto {
		u |= 1 << 63
	}
	return u
}

// bytesOf is a number as eight bytes, the lowest first.
func bytesOf(u uint64) string {
	return string(binary.LittleEndian.AppendUint64(nil, u))
}

// greatestName has all its parts at their greatest.
func greatestName() impl.Name {
	n := impl.Name{Auto: true}
	for _, p := range nameParts() {
		n = p.with(n, p.greatest)
	}
	return n
}

// plainNames are Names to change a part of: least, greatest, in between, each Auto and not.
func plainNames() []impl.Name {
	between := impl.Name{Unique: 1000000, Maker: 1000, Instance: 100, Function: 150, Class: 50, System: 6, Industry: 4}
	var l []impl.Name
	for _, n := range []impl.Name{{}, between, greatestName()} {
		for _, auto := range []bool{false, true} {
			n.Auto = auto
			l = append(l, n)
		}
	}
	return l
}

// sampleNames are right Names: each part at its edges, and some from everywhere.
func sampleNames() []impl.Name {
	l := plainNames()
	for _, n := range plainNames() {
		for _, p := range nameParts() {
			for _, number := range []int64{0, 1, p.greatest / 2, p.greatest - 1, p.greatest} {
				l = append(l, p.with(n, number))
			}
		}
	}
	r := rand.New(rand.NewSource(8))
	for range 500 {
		n := impl.Name{Auto: r.Intn(2) == 0}
		for _, p := range nameParts() {
			n = p.with(n, r.Int63n(p.greatest+1))
		}
		l = append(l, n)
	}
	return l
}

// wrongNames are Names of which one part may not be, or all of them.
func wrongNames() []impl.Name {
	var l []impl.Name
	low, high := impl.Name{}, impl.Name{Auto: true}
	for _, p := range nameParts() {
		low, high = p.with(low, -1), p.with(high, p.greatest+1)
		for _, n := range plainNames() {
			for _, number := range []int64{-1, p.greatest + 1, -p.greatest, -p.greatest - 1, 2*p.greatest + 1, 2*p.greatest + 2, 1 << 32, math.MinInt64, math.MaxInt64} {
				l = append(l, p.with(n, number))
			}
		}
	}
	return append(l, low, high)
}

func TestNameOk(t *testing.T) {
	for _, n := range sampleNames() {
		same(t, shown(n), impl.NameOk(n), true)
	}
	for _, n := range wrongNames() {
		same(t, shown(n), impl.NameOk(n), false)
		same(t, "the bytes of "+shown(n), impl.NameBytes(n), "")
	}
	for _, n := range plainNames() {
		for _, p := range nameParts() {
			same(t, p.what+" 0", impl.NameOk(p.with(n, 0)), true)
			same(t, p.what+" greatest", impl.NameOk(p.with(n, p.greatest)), true)
			same(t, p.what+" below 0", impl.NameOk(p.with(n, -1)), false)
			same(t, p.what+" above its greatest", impl.NameOk(p.with(n, p.greatest+1)), false)
		}
	}
}

func TestNameBytesAsSaid(t *testing.T) {
	cases := []struct {
		what string
		n    impl.Name
		want string
	}{
		{"all 0", impl.Name{}, "\x00\x00\x00\x00\x00\x00\x00\x00"},
		{"all greatest", greatestName(), "\xff\xff\xff\xff\xff\xff\xfe\xff"},
		{"Unique", impl.Name{Unique: 1}, "\x01\x00\x00\x00\x00\x00\x00\x00"},
		{"Unique, the lowest byte first", impl.Name{Unique: 0x12345}, "\x45\x23\x01\x00\x00\x00\x00\x00"},
		{"Unique at its greatest", impl.Name{Unique: 2097151}, "\xff\xff\x1f\x00\x00\x00\x00\x00"},
		{"Maker", impl.Name{Maker: 1}, "\x00\x00\x20\x00\x00\x00\x00\x00"},
		{"Maker at its greatest", impl.Name{Maker: 2047}, "\x00\x00\xe0\xff\x00\x00\x00\x00"},
		{"Instance", impl.Name{Instance: 3}, "\x00\x00\x00\x00\x03\x00\x00\x00"},
		{"Function", impl.Name{Function: 3}, "\x00\x00\x00\x00\x00\x03\x00\x00"},
		{"Class", impl.Name{Class: 3}, "\x00\x00\x00\x00\x00\x00\x06\x00"},
		{"System", impl.Name{System: 3}, "\x00\x00\x00\x00\x00\x00\x00\x03"},
		{"Industry", impl.Name{Industry: 3}, "\x00\x00\x00\x00\x00\x00\x00\x30"},
		{"Auto", impl.Name{Auto: true}, "\x00\x00\x00\x00\x00\x00\x00\x80"},
		{"all unlike", impl.Name{Unique: 1, Maker: 2, Instance: 3, Function: 4, Class: 5, System: 6, Industry: 4, Auto: true}, "\x01\x00\x40\x00\x03\x04\x0a\xc6"},
		{"all unlike, not Auto", impl.Name{Unique: 1, Maker: 2, Instance: 3, Function: 4, Class: 5, System: 6, Industry: 4}, "\x01\x00\x40\x00\x03\x04\x0a\x46"},
	}
	for _, c := range cases {
		same(t, c.what, impl.NameBytes(c.n), c.want)
		same(t, c.what+", back", impl.NameFrom(c.want), impl.NameOut{Name: c.n})
	}
}

func TestNamesComeBack(t *testing.T) {
	for _, n := range sampleNames() {
		b := impl.NameBytes(n)
		same(t, "its bytes", b, bytesOf(numberAsBits(n)))
		same(t, "comes back", impl.NameFrom(b), impl.NameOut{Name: n})
	}
}

// Of a right Name's bytes there are eight: with one less, or with more, they are nobody's.
func TestNameFromCountsBytes(t *testing.T) {
	for _, n := range plainNames() {
		b := impl.NameBytes(n)
		same(t, "eight", len(b), 8)
		for cut := range b {
			same(t, "fewer", impl.NameFrom(b[:cut]), impl.NameOut{Code: impl.ErrSyntax})
			same(t, "fewer, cut off ahead", impl.NameFrom(b[cut+1:]), impl.NameOut{Code: impl.ErrSyntax})
		}
		for _, more := range []string{"\x00", "\xff", as(8), b, as(impl.MaxBytes - 8)} {
			same(t, "more", impl.NameFrom(b+more), impl.NameOut{Code: impl.ErrSyntax})
			same(t, "more ahead", impl.NameFrom(more+b), impl.NameOut{Code: impl.ErrSyntax})
		}
		same(t, "more than MaxBytes", impl.NameFrom(b+as(impl.MaxBytes-7)), impl.NameOut{Code: impl.ErrSize})
	}
}

func TestNameFromRefuses(t *testing.T) {
	cases := []struct {
		what string
		text string
		code int64
	}{
		{"nothing", "", impl.ErrSyntax},
		{"a byte", "x", impl.ErrSyntax},
		{"seven bytes", "\x00\x00\x00\x00\x00\x00\x00", impl.ErrSyntax},
		{"seven bytes, the last one odd", "\x00\x00\x00\x00\x00\x00\x01", impl.ErrSyntax},
		{"nine bytes", "\x00\x00\x00\x00\x00\x00\x00\x00\x00", impl.ErrSyntax},
		{"a seventh byte of 1", "\x00\x00\x00\x00\x00\x00\x01\x00", impl.ErrSyntax},
		{"a seventh byte of 127", "\x00\x00\x00\x00\x00\x00\x7f\x00", impl.ErrSyntax},
		{"a seventh byte of 129", "\x00\x00\x00\x00\x00\x00\x81\x00", impl.ErrSyntax},
		{"all ones", "\xff\xff\xff\xff\xff\xff\xff\xff", impl.ErrSyntax},
		{"sixteen bytes", as(16), impl.ErrSyntax},
		{"256 and eight bytes", strings.Repeat("\x00", 264), impl.ErrSyntax},
		{"a text of the limit", as(impl.MaxBytes), impl.ErrSyntax},
		{"a text of the limit, of noughts", strings.Repeat("\x00", impl.MaxBytes), impl.ErrSyntax},
		{"a text over the limit", as(impl.MaxBytes + 1), impl.ErrSize},
		{"a text over the limit, of noughts", strings.Repeat("\x00", impl.MaxBytes+1), impl.ErrSize},
		{"a text far over the limit", as(8 * impl.MaxBytes), impl.ErrSize},
	}
	for _, c := range cases {
		same(t, c.what, impl.NameFrom(c.text), impl.NameOut{Code: c.code})
	}
}

// Of eight bytes all but those with an odd seventh one are just one Name's; each byte is tried at each place.
func TestEachEightBytesAreOneNamesOrNone(t *testing.T) {
	texts := []string{bytesOf(0), bytesOf(math.MaxUint64), bytesOf(math.MaxUint64 - 1<<48), "abcdefgh", "\x80\x7f\x20\x1f\x01\xfe\x02\x40"}
	r := rand.New(rand.NewSource(9))
	for range 200 {
		texts = append(texts, bytesOf(r.Uint64()))
	}
	for _, text := range texts {
		for place := range 8 {
			for b := range 256 {
				turned := []byte(text)
				turned[place] = byte(b)
				got := impl.NameFrom(string(turned))
				if turned[6]%2 == 1 {
					same(t, "an odd seventh byte", got, impl.NameOut{Code: impl.ErrSyntax})
					continue
				}
				same(t, "Code", got.Code, impl.OK)
				same(t, "right", impl.NameOk(got.Name), true)
				same(t, "its bytes again", impl.NameBytes(got.Name), string(turned))
			}
		}
	}
}

// isLess fails if not the first one, and that one alone, is less than the other.
func isLess(t *testing.T, what string, less impl.Name, more impl.Name) {
	t.Helper()
	if !impl.NameLess(less, more) {
		t.Errorf("%s: not less: %s, than %s", what, shown(less), shown(more))
	}
	if impl.NameLess(more, less) {
		t.Errorf("%s: less: %s, than %s", what, shown(more), shown(less))
	}
}

// isUnordered fails if one of both is less than the other.
func isUnordered(t *testing.T, what string, a impl.Name, b impl.Name) {
	t.Helper()
	same(t, what+": "+shown(a)+" and "+shown(b), impl.NameLess(a, b), false)
	same(t, what+": "+shown(b)+" and "+shown(a), impl.NameLess(b, a), false)
}

func TestNamesUnlikeInOnePart(t *testing.T) {
	for _, n := range plainNames() {
		for _, p := range nameParts() {
			numbers := []int64{0, 1, p.greatest / 2, p.greatest/2 + 1, p.greatest - 1, p.greatest}
			for i, number := range numbers {
				for _, lesser := range numbers[:i] {
					if lesser < number {
						isLess(t, p.what, p.with(n, lesser), p.with(n, number))
					}
				}
			}
		}
		auto, fixed := n, n
		auto.Auto, fixed.Auto = true, false
		isLess(t, "Auto", fixed, auto)
	}
}

// One more in a part outweighs all parts that count less, even if these go from their greatest to 0.
func TestPartsCountInTheirOrder(t *testing.T) {
	less := impl.Name{}
	for _, p := range nameParts() {
		more := p.with(impl.Name{}, 1)
		isLess(t, p.what+" of 1", less, more)
		isLess(t, p.what+" of its greatest", p.with(less, p.greatest-1), p.with(impl.Name{}, p.greatest))
		less = p.with(less, p.greatest)
	}
	isLess(t, "Auto", less, impl.Name{Auto: true})
}

// A name's number has 64 bits and no sign: the one that is Auto is greater, whatever else.
func TestAutoIsGreater(t *testing.T) {
	names := sampleNames()
	for i, a := range names {
		b := names[(i*31+17)%len(names)]
		a.Auto, b.Auto = false, true
		isLess(t, "Auto", a, b)
	}
}

func TestOfTwoUnlikeNamesJustOneIsLess(t *testing.T) {
	names := sampleNames()
	for i := range names {
		a := names[i]
		isUnordered(t, "itself", a, a)
		for j := i + 1; j < len(names); j += 1 + i%7 {
			b := names[j]
			if a == b {
				isUnordered(t, "alike", a, b)
				continue
			}
			less, more := a, b
			if numberAsBits(b) < numberAsBits(a) {
				less, more = b, a
			}
			isLess(t, "unlike", less, more)
		}
	}
}

func TestNoNameIsLessThanOneThatIsNotRight(t *testing.T) {
	wrong := wrongNames()
	for i, w := range wrong {
		for _, n := range plainNames() {
			isUnordered(t, "one not right", w, n)
		}
		isUnordered(t, "both not right", w, wrong[(i*7+1)%len(wrong)])
		isUnordered(t, "not right, and itself", w, w)
	}
}

func TestNamesHandedInAreNotChanged(t *testing.T) {
	names := append(sampleNames()[:50], wrongNames()[:50]...)
	kept := slices.Clone(names)
	for i := range names {
		a, b := names[i], names[len(names)-1-i]
		keptA, keptB := a, b
		text := strings.Clone(bytesOf(numberAsBits(a)))
		keptText := []byte(text)
		impl.NameOk(a)
		impl.NameBytes(a)
		impl.NameLess(a, b)
		first := impl.NameFrom(text)
		same(t, "the first Name", a, keptA)
		same(t, "the other Name", b, keptB)
		same(t, "the text", text, string(keptText))
		same(t, "answered again", impl.NameFrom(text), first)
	}
	same(t, "all of them", slices.Equal(names, kept), true)
}
