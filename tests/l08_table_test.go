package tests

import (
	"math"
	"math/rand"
	"slices"
	"strconv"
	"strings"
	"testing"

	"loop.example/g00628/impl"
)

// The table, word for word as the document has it.
const tableAsSaid = `| 127250 (heading) | 8 | 2 | 0 8, 8 16, 24 16s, 40 16s, 56 2 |
| 127488 (engine) | 8 | 2 | 0 8, 8 16, 24 16, 40 8s |
| 128267 (depth) | 8 | 3 | 0 8, 8 32, 40 16s, 56 8 |
| 128275 (log) | 14 | 6 | 0 16, 16 32, 48 32, 80 32 |
| 129025 (position) | 8 | 2 | 0 32s, 32 32s |
| 130306 (wind) | 8 | 2 | 0 8, 8 16, 24 16, 40 3 |`

// The other groups of the table but logPgn.
const (
	headingPgn  = 127250
	enginePgn   = 127488
	depthPgn    = 128267
	positionPgn = 129025
	windPgn     = 130306
)

// digits is the number that a word is written as.
func digits(word string) int64 {
	n, err := strconv.ParseInt(word, 10, 64)
	if err != nil {
		panic(err)
	}
	return n
}

// defsAsSaid are the rows of the table, read from the document's words.
func defsAsSaid() []impl.Def {
	var l []impl.Def
	for line := range strings.SplitSeq(tableAsSaid, "\n") {
		cells := strings.Split(strings.Trim(line, "| "), " | ")
		d := impl.Def{Pgn: digits(strings.Fields(cells[0])[0]), Size: digits(cells[1]), Prio: digits(cells[2])}
		for words := range strings.SplitSeq(cells[3], ", ") {
			at, width, _ := strings.Cut(words, " ")
			d.Fields = append(d.Fields, impl.Field{At: digits(at), Width: digits(strings.TrimSuffix(width, "s")), Signed: strings.HasSuffix(width, "s")})
		}
		l = append(l, d)
	}
	return l
}

// sameDef fails if a row, with all of its Fields, is not the one that is asked for; no Fields and none are the same.
func sameDef(t *testing.T, what string, got impl.Def, want impl.Def) {
	t.Helper()
	same(t, what+", the Pgn", got.Pgn, want.Pgn)
	same(t, what+", the Size", got.Size, want.Size)
	same(t, what+", the Prio", got.Prio, want.Prio)
	if !slices.Equal(got.Fields, want.Fields) {
		t.Errorf("%s, the Fields: got %s, want %s", what, shown(got.Fields), shown(want.Fields))
	}
}

// sameValues fails if an answer, with all of its fields, is not the one that is asked for; an empty list and none are the same.
func sameValues(t *testing.T, what string, got impl.ValuesOut, want impl.ValuesOut) {
	t.Helper()
	if !slices.Equal(got.Values, want.Values) {
		t.Errorf("%s, the Values: got %s, want %s", what, shown(got.Values), shown(want.Values))
	}
	same(t, what+", the Code", got.Code, want.Code)
}

// refusedValues fails if an answer is not that code, and nothing beside it.
func refusedValues(t *testing.T, what string, got impl.ValuesOut, code int64) {
	t.Helper()
	sameValues(t, what, got, impl.ValuesOut{Code: code})
}

// decoded is the answer of these Values alone.
func decoded(l ...impl.Value) impl.ValuesOut {
	return impl.ValuesOut{Values: l}
}

// noPgns are numbers of no row: beside each one's, far from all, and those that are some row's in fewer bits.
func noPgns() []int64 {
	l := []int64{0, 1, -1, 255, 256, 60928, impl.MaxPgn, impl.MaxPgn + 1, math.MinInt64, math.MinInt64 + 1, math.MaxInt64}
	for _, d := range defsAsSaid() {
		l = append(l, d.Pgn-1, d.Pgn+1, -d.Pgn, d.Pgn-256, d.Pgn+256, d.Pgn%65536, d.Pgn+1<<32, d.Pgn-1<<32, d.Pgn+1<<17)
	}
	return l
}

// somewhere are right Values of a row, each at random, with all Kinds that may be.
func somewhere(r *rand.Rand, d impl.Def) []impl.Value {
	var l []impl.Value
	for _, f := range d.Fields {
		v := toldAsSaid(f, r.Int63n(1<<f.Width))
		if f.Width >= 4 && r.Intn(3) == 0 {
			v = noNumber(2 + r.Int63n(2))
		}
		l = append(l, v)
	}
	return l
}

// zerosOf are right Values of a row: of each Field the number 0.
func zerosOf(d impl.Def) []impl.Value {
	return slices.Repeat([]impl.Value{number(0)}, len(d.Fields))
}

// writtenAsSaid is a right Value as the bits that a Field tells it by.
func writtenAsSaid(f impl.Field, v impl.Value) int64 {
	end := int64(1) << f.Width
	most := end - 1
	if f.Signed {
		most = end/2 - 1
	}
	switch v.Kind {
	case 2:
		return most
	case 3:
		return most - 1
	}
	return (v.N + end) % end
}

// encodedAsSaid are the bytes of right Values, put bit by bit into bytes 255.
func encodedAsSaid(d impl.Def, l []impl.Value) string {
	text := filledWith(255, int(d.Size))
	for i, f := range d.Fields {
		text = putAsSaid(text, f.At, f.Width, writtenAsSaid(f, l[i]))
	}
	return text
}

// used says whether some Field of a row has that bit.
func used(d impl.Def, place int64) bool {
	return slices.ContainsFunc(d.Fields, func(f impl.Field) bool {
		return place >= f.At && place < f.At+f.Width
	})
}

// unusedSet is the text with all bits 1 that no Field of a row has.
func unusedSet(d impl.Def, text string) string {
	for place := range 8 * d.Size {
		if !used(d, place) {
			text = putAsSaid(text, place, 1, 1)
		}
	}
	return text
}

func TestPgnsAsSaid(t *testing.T) {
	want := []int64{headingPgn, enginePgn, depthPgn, logPgn, positionPgn, windPgn}
	got := impl.Pgns()
	if !slices.Equal(got, want) {
		t.Fatalf("got %v, want %v", got, want)
	}
	for i, pgn := range got {
		same(t, "of the row", impl.DefOf(pgn).Pgn, pgn)
		same(t, "rising", i == 0 || got[i-1] < pgn, true)
		same(t, "a group's number, to all", impl.Broad(pgn), true)
	}
}

func TestDefOfAsSaid(t *testing.T) {
	l := defsAsSaid()
	same(t, "how many rows", len(l), 6)
	for _, d := range l {
		sameDef(t, shown(d.Pgn), impl.DefOf(d.Pgn), d)
	}
	sameDef(t, "the heading", impl.DefOf(headingPgn), impl.Def{Pgn: 127250, Size: 8, Prio: 2,
		Fields: []impl.Field{field(0, 8), field(8, 16), signed(24, 16), signed(40, 16), field(56, 2)}})
	sameDef(t, "the log", impl.DefOf(logPgn), impl.Def{Pgn: 128275, Size: 14, Prio: 6,
		Fields: []impl.Field{field(0, 16), field(16, 32), field(48, 32), field(80, 32)}})
}

func TestDefOfNoGroup(t *testing.T) {
	for _, pgn := range noPgns() {
		sameDef(t, shown(pgn), impl.DefOf(pgn), impl.Def{})
	}
	for pgn := int64(-300); pgn <= impl.MaxPgn+300; pgn++ {
		want := impl.Def{}
		for _, d := range defsAsSaid() {
			if d.Pgn == pgn {
				want = d
			}
		}
		if got := impl.DefOf(pgn); got.Pgn != want.Pgn || got.Size != want.Size || len(got.Fields) != len(want.Fields) {
			t.Errorf("%d: got %v, want %v", pgn, got, want)
		}
	}
}

// What is sent of a group must be right as an Id, and each Field stand in its bytes alone.
func TestRowsAreRight(t *testing.T) {
	for _, pgn := range impl.Pgns() {
		d := impl.DefOf(pgn)
		same(t, "an Id", impl.IdRight(impl.Id{Prio: d.Prio, Pgn: pgn, Dest: impl.ToAll}), true)
		same(t, "can be sent", d.Size >= 1 && d.Size <= impl.MaxFast, true)
		end := int64(0)
		for _, f := range d.Fields {
			same(t, "right", impl.FieldRight(f), true)
			same(t, "behind the one ahead of it", f.At >= end, true)
			end = f.At + f.Width
		}
		same(t, "all in its bytes", end <= 8*d.Size, true)
	}
}

func TestValuesAsManyAsFields(t *testing.T) {
	for _, d := range defsAsSaid() {
		for n := range len(d.Fields) + 4 {
			l := slices.Repeat([]impl.Value{number(0)}, n)
			want := ""
			if n == len(d.Fields) {
				want = encodedAsSaid(d, l)
			}
			same(t, shown([]any{d.Pgn, n}), impl.ValuesRight(d.Pgn, l), n == len(d.Fields))
			same(t, shown([]any{d.Pgn, n}), impl.Encode(d.Pgn, l), want)
		}
		same(t, "no list", impl.ValuesRight(d.Pgn, nil), false)
		same(t, "no list", impl.Encode(d.Pgn, nil), "")
		for _, n := range []int{len(d.Fields) + 256, impl.MaxList - 1, impl.MaxList, impl.MaxList + 1, 2 * impl.MaxList} {
			l := slices.Repeat([]impl.Value{number(0)}, n)
			same(t, "many", impl.ValuesRight(d.Pgn, l), false)
			same(t, "many", impl.Encode(d.Pgn, l), "")
		}
	}
}

// A group that is not in the table has no Fields, but no Values are not its Values.
func TestValuesOfNoGroup(t *testing.T) {
	for _, pgn := range noPgns() {
		for n := range 7 {
			l := slices.Repeat([]impl.Value{number(0)}, n)
			same(t, shown([]any{pgn, n}), impl.ValuesRight(pgn, l), false)
			same(t, shown([]any{pgn, n}), impl.Encode(pgn, l), "")
		}
		same(t, shown(pgn), impl.ValuesRight(pgn, nil), false)
		same(t, shown(pgn), impl.Encode(pgn, nil), "")
		same(t, "more than MaxList", impl.ValuesRight(pgn, make([]impl.Value, impl.MaxList+1)), false)
		same(t, "more than MaxList", impl.Encode(pgn, make([]impl.Value, impl.MaxList+1)), "")
	}
}

// At each Field's edges, with all others right: one Value that is not is enough for no.
func TestEachFieldsValues(t *testing.T) {
	r := rand.New(rand.NewSource(31))
	for _, d := range defsAsSaid() {
		for i, f := range d.Fields {
			for _, v := range sampleValues(f) {
				l := somewhere(r, d)
				l[i] = v
				what := shown([]any{d.Pgn, i, v})
				same(t, what, impl.ValuesRight(d.Pgn, l), valueAsSaid(f, v))
				if !valueAsSaid(f, v) {
					same(t, what, impl.Encode(d.Pgn, l), "")
					continue
				}
				text := encodedAsSaid(d, l)
				same(t, what, impl.Encode(d.Pgn, l), text)
				sameValues(t, what, impl.Decode(d.Pgn, text), decoded(l...))
			}
		}
	}
}

func TestEachFieldsEdgesAsSaid(t *testing.T) {
	cases := []struct {
		what  string
		pgn   int64
		place int
		least int64
		most  int64
	}{
		{"heading, 8 bits", headingPgn, 0, 0, 253},
		{"heading, 16 bits", headingPgn, 1, 0, 65533},
		{"heading, 16 bits, Signed", headingPgn, 2, -32768, 32765},
		{"heading, 16 bits more, Signed", headingPgn, 3, -32768, 32765},
		{"heading, two bits", headingPgn, 4, 0, 3},
		{"engine, 16 bits more", enginePgn, 2, 0, 65533},
		{"engine, 8 bits, Signed", enginePgn, 3, -128, 125},
		{"depth, 32 bits", depthPgn, 1, 0, 4294967293},
		{"depth, 16 bits, Signed", depthPgn, 2, -32768, 32765},
		{"depth, the last 8 bits", depthPgn, 3, 0, 253},
		{"log, 16 bits", logPgn, 0, 0, 65533},
		{"log, the last 32 bits", logPgn, 3, 0, 4294967293},
		{"position, 32 bits, Signed", positionPgn, 0, -2147483648, 2147483645},
		{"position, 32 bits more, Signed", positionPgn, 1, -2147483648, 2147483645},
		{"wind, 16 bits", windPgn, 1, 0, 65533},
		{"wind, three bits", windPgn, 3, 0, 7},
	}
	for _, c := range cases {
		l := slices.Repeat([]impl.Value{number(0)}, len(impl.DefOf(c.pgn).Fields))
		for _, n := range []int64{c.least - 2, c.least - 1, c.least, c.least + 1, c.most - 1, c.most, c.most + 1, c.most + 2} {
			l[c.place] = number(n)
			may := n >= c.least && n <= c.most
			same(t, c.what+" "+shown(n), impl.ValuesRight(c.pgn, l), may)
			same(t, c.what+" "+shown(n), impl.Encode(c.pgn, l) != "", may)
		}
	}
}

func TestKindsOfEachField(t *testing.T) {
	for _, d := range defsAsSaid() {
		for i, f := range d.Fields {
			cases := []struct {
				v    impl.Value
				want bool
			}{
				{noNumber(impl.VlNone), f.Width >= 4},
				{noNumber(impl.VlError), f.Width >= 4},
				{impl.Value{Kind: impl.VlNone, N: 1}, false},
				{impl.Value{Kind: impl.VlNone, N: -1}, false},
				{impl.Value{Kind: impl.VlError, N: 1}, false},
				{impl.Value{}, false},
				{noNumber(4), false},
				{noNumber(-1), false},
				{noNumber(1<<32 + 1), false},
				{noNumber(math.MinInt64), false},
				{noNumber(math.MaxInt64), false},
			}
			for _, c := range cases {
				l := zerosOf(d)
				l[i] = c.v
				what := shown([]any{d.Pgn, i, c.v})
				same(t, what, impl.ValuesRight(d.Pgn, l), c.want)
				same(t, what, impl.Encode(d.Pgn, l) != "", c.want)
			}
		}
	}
}

// groupBytes are Values of a group, and the bytes that they are written as.
type groupBytes struct {
	what string
	pgn  int64
	l    []impl.Value
	text string
}

func sampleGroups() []groupBytes {
	none, err := noNumber(impl.VlNone), noNumber(impl.VlError)
	return []groupBytes{
		{"a heading", headingPgn, []impl.Value{number(1), number(0x1234), number(-2), number(0x2345), number(1)}, "\x01\x34\x12\xfe\xff\x45\x23\xfd"},
		{"a heading of 0", headingPgn, []impl.Value{number(0), number(0), number(0), number(0), number(0)}, "\x00\x00\x00\x00\x00\x00\x00\xfc"},
		{"a heading of none", headingPgn, []impl.Value{none, none, none, none, number(3)}, "\xff\xff\xff\xff\x7f\xff\x7f\xff"},
		{"a heading of errors", headingPgn, []impl.Value{err, err, err, err, number(2)}, "\xfe\xfe\xff\xfe\x7f\xfe\x7f\xfe"},
		{"the least heading", headingPgn, []impl.Value{number(0), number(0), number(-32768), number(-32768), number(0)}, "\x00\x00\x00\x00\x80\x00\x80\xfc"},
		{"the greatest heading", headingPgn, []impl.Value{number(253), number(65533), number(32765), number(32765), number(3)}, "\xfd\xfd\xff\xfd\x7f\xfd\x7f\xff"},
		{"an engine", enginePgn, []impl.Value{number(2), number(0x0102), number(0x0304), number(-5)}, "\x02\x02\x01\x04\x03\xfb\xff\xff"},
		{"an engine of none", enginePgn, []impl.Value{none, none, none, none}, "\xff\xff\xff\xff\xff\x7f\xff\xff"},
		{"an engine of errors", enginePgn, []impl.Value{err, err, err, err}, "\xfe\xfe\xff\xfe\xff\x7e\xff\xff"},
		{"the least engine", enginePgn, []impl.Value{number(0), number(0), number(0), number(-128)}, "\x00\x00\x00\x00\x00\x80\xff\xff"},
		{"a depth", depthPgn, []impl.Value{number(7), number(0x01020304), number(-1), number(8)}, "\x07\x04\x03\x02\x01\xff\xff\x08"},
		{"a depth of none", depthPgn, []impl.Value{none, none, none, none}, "\xff\xff\xff\xff\xff\xff\x7f\xff"},
		{"a depth of errors", depthPgn, []impl.Value{err, err, err, err}, "\xfe\xfe\xff\xff\xff\xfe\x7f\xfe"},
		{"a log", logPgn, []impl.Value{number(0x0102), number(0x03040506), number(0x0708090a), number(0x0b0c0d0e)},
			"\x02\x01\x06\x05\x04\x03\x0a\x09\x08\x07\x0e\x0d\x0c\x0b"},
		{"a log of none", logPgn, []impl.Value{none, none, none, none}, filledWith(255, 14)},
		{"the greatest log", logPgn, []impl.Value{number(65533), number(4294967293), err, none},
			"\xfd\xff\xfd\xff\xff\xff\xfe\xff\xff\xff\xff\xff\xff\xff"},
		{"a position", positionPgn, []impl.Value{number(5), none}, "\x05\x00\x00\x00\xff\xff\xff\x7f"},
		{"a position below 0", positionPgn, []impl.Value{number(-1), number(-256)}, "\xff\xff\xff\xff\x00\xff\xff\xff"},
		{"a position of none", positionPgn, []impl.Value{none, none}, "\xff\xff\xff\x7f\xff\xff\xff\x7f"},
		{"a position of errors", positionPgn, []impl.Value{err, err}, "\xfe\xff\xff\x7f\xfe\xff\xff\x7f"},
		{"the least and the greatest position", positionPgn, []impl.Value{number(-2147483648), number(2147483645)}, "\x00\x00\x00\x80\xfd\xff\xff\x7f"},
		{"a wind", windPgn, []impl.Value{number(9), number(0x0a0b), number(0x0c0d), number(2)}, "\x09\x0b\x0a\x0d\x0c\xfa\xff\xff"},
		{"a wind of none", windPgn, []impl.Value{none, none, none, number(7)}, filledWith(255, 8)},
		{"a wind of errors", windPgn, []impl.Value{err, err, err, number(6)}, "\xfe\xfe\xff\xfe\xff\xfe\xff\xff"},
		{"a wind of 0", windPgn, []impl.Value{number(0), number(0), number(0), number(0)}, "\x00\x00\x00\x00\x00\xf8\xff\xff"},
	}
}

func TestGroupsAsBytes(t *testing.T) {
	for _, c := range sampleGroups() {
		same(t, c.what, impl.ValuesRight(c.pgn, c.l), true)
		same(t, c.what, impl.Encode(c.pgn, c.l), c.text)
		sameValues(t, c.what, impl.Decode(c.pgn, c.text), decoded(c.l...))
	}
}

// All of none is right just where each Field has room for it.
func TestGroupsAllOfNone(t *testing.T) {
	for _, d := range defsAsSaid() {
		l := slices.Repeat([]impl.Value{noNumber(impl.VlNone)}, len(d.Fields))
		want := d.Pgn != headingPgn && d.Pgn != windPgn
		same(t, shown(d.Pgn), impl.ValuesRight(d.Pgn, l), want)
		same(t, shown(d.Pgn), impl.Encode(d.Pgn, l) != "", want)
	}
}

// Bits all 1 are none, but -1 where they are Signed, and the greatest number where they are few.
func TestDecodeOfBitsAllOne(t *testing.T) {
	for _, d := range defsAsSaid() {
		var want []impl.Value
		for _, f := range d.Fields {
			v := noNumber(impl.VlNone)
			if f.Signed {
				v = number(-1)
			} else if f.Width < 4 {
				v = number(1<<f.Width - 1)
			}
			want = append(want, v)
		}
		sameValues(t, shown(d.Pgn), impl.Decode(d.Pgn, filledWith(255, int(d.Size))), decoded(want...))
	}
}

func TestValuesOfEachGroupComeBack(t *testing.T) {
	r := rand.New(rand.NewSource(32))
	for _, d := range defsAsSaid() {
		for range 2000 {
			l := somewhere(r, d)
			same(t, "right", impl.ValuesRight(d.Pgn, l), true)
			text := impl.Encode(d.Pgn, l)
			same(t, shown(l), text, encodedAsSaid(d, l))
			sameValues(t, shown(l), impl.Decode(d.Pgn, text), decoded(l...))
		}
	}
}

// Whatever the bytes are, each Field tells a right Value, and what is written again has all else as bits 1.
func TestAnyBytesOfAGroup(t *testing.T) {
	r := rand.New(rand.NewSource(33))
	for _, d := range defsAsSaid() {
		for range 2000 {
			text := mixed(r.Int63(), int(d.Size))
			var want []impl.Value
			for _, f := range d.Fields {
				want = append(want, toldAsSaid(f, bitsAsSaid(text, f.At, f.Width)))
			}
			got := impl.Decode(d.Pgn, text)
			sameValues(t, shown(text), got, decoded(want...))
			same(t, "right", impl.ValuesRight(d.Pgn, got.Values), true)
			same(t, shown(text), impl.Encode(d.Pgn, got.Values), unusedSet(d, text))
		}
	}
}

func TestWhatIsNotUsedIsBitsOne(t *testing.T) {
	for _, d := range defsAsSaid() {
		text := impl.Encode(d.Pgn, zerosOf(d))
		same(t, "Size bytes", int64(len(text)), d.Size)
		for place := range 8 * d.Size {
			same(t, shown([]any{d.Pgn, place}), bit(text, int(place)), !used(d, place))
		}
		for place := range 8 * d.Size {
			turned := putAsSaid(text, place, 1, 1-bitsAsSaid(text, place, 1))
			tells := impl.Decode(d.Pgn, turned)
			same(t, "not looked at", slices.Equal(tells.Values, zerosOf(d)), !used(d, place))
			same(t, "Code", tells.Code, impl.OK)
		}
	}
	unused := map[int64]int{headingPgn: 6, enginePgn: 16, depthPgn: 0, logPgn: 0, positionPgn: 0, windPgn: 21}
	for pgn, n := range unused {
		text := impl.Encode(pgn, zerosOf(impl.DefOf(pgn)))
		ones := 0
		for place := range 8 * len(text) {
			if bit(text, place) {
				ones++
			}
		}
		same(t, shown(pgn), ones, n)
	}
}

// The text's bytes are as many as Size, whatever they are, or there is a code, and nothing beside it.
func TestDecodeOfEachSize(t *testing.T) {
	for _, d := range defsAsSaid() {
		for n := range 2*impl.MaxFast + 100 {
			text := mixed(int64(n), n)
			got := impl.Decode(d.Pgn, text)
			switch {
			case int64(n) < d.Size:
				refusedValues(t, shown([]any{d.Pgn, n}), got, impl.ErrShort)
			case int64(n) > d.Size:
				refusedValues(t, shown([]any{d.Pgn, n}), got, impl.ErrSize)
			default:
				same(t, "Code", got.Code, impl.OK)
				same(t, "as many as Fields", len(got.Values), len(d.Fields))
			}
		}
		refusedValues(t, "no byte", impl.Decode(d.Pgn, ""), impl.ErrShort)
		refusedValues(t, "one byte fewer", impl.Decode(d.Pgn, filledWith(0, int(d.Size)-1)), impl.ErrShort)
		refusedValues(t, "one byte more", impl.Decode(d.Pgn, filledWith(0, int(d.Size)+1)), impl.ErrSize)
		for _, n := range []int{int(d.Size) + 256, impl.MaxBytes - 1, impl.MaxBytes, impl.MaxBytes + 1, 2 * impl.MaxBytes} {
			refusedValues(t, "far more", impl.Decode(d.Pgn, filledWith(255, n)), impl.ErrSize)
		}
	}
}

// Of no group there is no Size that a text could have; but a text of more than MaxBytes is looked for ahead of that.
func TestDecodeOfNoGroup(t *testing.T) {
	for _, pgn := range noPgns() {
		for _, n := range []int{0, 1, 7, 8, 9, 13, 14, 15, 300, impl.MaxBytes - 1, impl.MaxBytes} {
			refusedValues(t, shown([]any{pgn, n}), impl.Decode(pgn, filledWith(255, n)), impl.ErrNone)
		}
		for _, n := range []int{impl.MaxBytes + 1, 2 * impl.MaxBytes} {
			refusedValues(t, shown([]any{pgn, n}), impl.Decode(pgn, filledWith(255, n)), impl.ErrSize)
		}
	}
}

func TestValuesHandedInAreNotChanged(t *testing.T) {
	for _, c := range sampleGroups() {
		room := append(slices.Clone(c.l), number(77), number(78))
		kept := slices.Clone(room)
		l := room[:len(c.l)]
		impl.ValuesRight(c.pgn, l)
		impl.Encode(c.pgn, l)
		impl.ValuesRight(c.pgn, room)
		impl.Encode(c.pgn, room)
		impl.Encode(c.pgn-1, l)
		if !slices.Equal(room, kept) {
			t.Errorf("%s: changed: %v", c.what, room)
		}
		text := strings.Clone(c.text)
		got := impl.Decode(c.pgn, text)
		sameValues(t, c.what, impl.Decode(c.pgn, text), decoded(c.l...))
		same(t, c.what+", the text", text, c.text)
		for i := range got.Values {
			got.Values[i] = number(-7)
		}
		sameValues(t, c.what+", again", impl.Decode(c.pgn, text), decoded(c.l...))
	}
}

// A row, or the numbers, that a caller writes into, also behind their end, do not turn the table.
func TestTheTableCannotBeTurned(t *testing.T) {
	for _, d := range defsAsSaid() {
		other, kept := impl.DefOf(d.Pgn), impl.DefOf(d.Pgn)
		for i := range other.Fields[:cap(other.Fields)] {
			other.Fields[:cap(other.Fields)][i] = signed(3, 5)
		}
		sameDef(t, "given out ahead of it", kept, d)
		sameDef(t, "given out behind it", impl.DefOf(d.Pgn), d)
	}
	pgns, kept := impl.Pgns(), impl.Pgns()
	for i := range pgns[:cap(pgns)] {
		pgns[:cap(pgns)][i] = 5
	}
	same(t, "the numbers given out ahead of it", slices.Equal(kept, impl.Pgns()), true)
	for i, d := range defsAsSaid() {
		same(t, "the numbers", impl.Pgns()[i], d.Pgn)
		sameDef(t, "all rows", impl.DefOf(d.Pgn), d)
	}
	for _, c := range sampleGroups() {
		same(t, c.what, impl.Encode(c.pgn, c.l), c.text)
		sameValues(t, c.what, impl.Decode(c.pgn, c.text), decoded(c.l...))
	}
}
