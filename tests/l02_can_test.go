package tests

import (
	"encoding/binary"
	"math"
	"math/rand"
	"slices"
	"strings"
	"testing"

	"loop.example/g00628/impl"
)

const (
	toAllFrom  = 240 * 256                // the least group's number that is Broad
	secondPage = 65536                    // what is Broad is so again from here on
	greatestId = 7<<26 + (1<<25 - 1)      // the greatest number that is some Id's
	unusedId   = 1 << 25                  // no Id's number has this bit
	claimId    = 6<<26 + 60928<<8 + 65285 // to all, from 5
	groupCount = 1 << 17
)

// idAsBits is the number of a right Id, its parts laid side by side.
func idAsBits(x impl.Id) int64 {
	n := x.Prio<<26 | x.Pgn<<8 | x.Src
	if x.Pgn>>8&255 < 240 {
		n |= x.Dest << 8
	}
	return n
}

// rightIds are Ids of every kind of group, at the edges of all that they hold.
func rightIds() []impl.Id {
	var l []impl.Id
	for _, prio := range []int64{0, 1, 6, 7} {
		for _, src := range []int64{0, 1, 254, 255} {
			for _, pgn := range []int64{toAllFrom, toAllFrom + 1, secondPage - 1, secondPage + toAllFrom, 129025, impl.MaxPgn} {
				l = append(l, impl.Id{Prio: prio, Pgn: pgn, Dest: impl.ToAll, Src: src})
			}
			for _, pgn := range []int64{0, 256, 59904, 60928, toAllFrom - 256, secondPage, secondPage + toAllFrom - 256} {
				for _, dest := range []int64{0, 1, 254, 255} {
					l = append(l, impl.Id{Prio: prio, Pgn: pgn, Dest: dest, Src: src})
				}
			}
		}
	}
	return l
}

// wrongIds are Ids of which one part may not be.
func wrongIds() []impl.Id {
	l := []impl.Id{
		{Pgn: toAllFrom}, {Pgn: toAllFrom, Dest: 254}, {Pgn: toAllFrom, Dest: 256}, {Pgn: toAllFrom, Dest: -1},
		{Pgn: impl.MaxPgn, Dest: 0}, {Pgn: impl.MaxPgn, Dest: 511},
		{Pgn: 1}, {Pgn: 255}, {Pgn: 257}, {Pgn: 60929}, {Pgn: 60929, Dest: 255}, {Pgn: toAllFrom - 1}, {Pgn: toAllFrom - 255},
		{Pgn: 256, Dest: 256}, {Pgn: 256, Dest: -1}, {Pgn: 256, Dest: math.MaxInt64}, {Pgn: 256, Dest: math.MinInt64},
		{Pgn: impl.MaxPgn + 1}, {Pgn: impl.MaxPgn + 1, Dest: 255}, {Pgn: impl.MaxPgn + 1 + toAllFrom, Dest: 255},
		{Pgn: -1}, {Pgn: -1, Dest: 255}, {Pgn: -256}, {Pgn: -256, Dest: 255}, {Pgn: -secondPage}, {Pgn: -4096, Dest: 255},
		{Pgn: math.MinInt64}, {Pgn: math.MaxInt64}, {Pgn: math.MaxInt64, Dest: 255},
	}
	for _, wrong := range []int64{-1, 8, math.MinInt64, math.MaxInt64} {
		l = append(l, impl.Id{Prio: wrong}, impl.Id{Prio: wrong, Pgn: toAllFrom, Dest: 255})
	}
	for _, wrong := range []int64{-1, 256, math.MinInt64, math.MaxInt64} {
		l = append(l, impl.Id{Src: wrong}, impl.Id{Src: wrong, Pgn: toAllFrom, Dest: 255})
	}
	return l
}

// wrongNumbers are no Id's: outside of all, or with the bit that none has.
func wrongNumbers() []int64 {
	l := []int64{-1, -255, -256, -257, -65536, -1 << 25, -1 << 26, -(6 << 26), math.MinInt64, math.MinInt64 + 1, math.MaxInt64,
		greatestId + 1, 8 << 26, 8<<26 + 5, 1 << 32, 1<<32 + 5, 1 << 40, 1 << 62}
	for prio := int64(0); prio < 8; prio++ {
		l = append(l, prio<<26+unusedId, prio<<26+unusedId+1, prio<<26+unusedId+60928<<8, prio<<26+unusedId+129025<<8, prio<<26+2*unusedId-1)
	}
	return l
}

func TestBroad(t *testing.T) {
	for pgn := int64(0); pgn < groupCount; pgn++ {
		same(t, "each group's number", impl.Broad(pgn), pgn%secondPage >= toAllFrom)
	}
	same(t, "239", impl.Broad(239*256+255), false)
	same(t, "240", impl.Broad(240*256), true)
	same(t, "239 again", impl.Broad((256+239)*256+255), false)
	same(t, "240 again", impl.Broad((256+240)*256), true)
	same(t, "MaxPgn", impl.Broad(impl.MaxPgn), true)
	for _, pgn := range []int64{-1, -256, -4096, -secondPage, impl.MaxPgn + 1, impl.MaxPgn + 1 + toAllFrom, impl.MaxPgn + secondPage, math.MinInt64, math.MaxInt64} {
		same(t, "no group's number", impl.Broad(pgn), false)
	}
}

func TestIdRight(t *testing.T) {
	for _, x := range rightIds() {
		same(t, shown(x), impl.IdRight(x), true)
	}
	for _, x := range wrongIds() {
		same(t, shown(x), impl.IdRight(x), false)
		same(t, "the number of "+shown(x), impl.IdNum(x), -1)
	}
	for pgn := int64(0); pgn < groupCount; pgn++ {
		broad := pgn%secondPage >= toAllFrom
		same(t, "to all", impl.IdRight(impl.Id{Pgn: pgn, Dest: impl.ToAll}), broad || pgn%256 == 0)
		same(t, "to one", impl.IdRight(impl.Id{Pgn: pgn, Dest: 4}), !broad && pgn%256 == 0)
	}
}

func TestIdNumAsSaid(t *testing.T) {
	same(t, "the least", impl.IdNum(impl.Id{}), 0)
	same(t, "Src", impl.IdNum(impl.Id{Src: 255}), 255)
	same(t, "Dest", impl.IdNum(impl.Id{Dest: 1}), 256)
	same(t, "Pgn", impl.IdNum(impl.Id{Pgn: 256}), 65536)
	same(t, "Prio", impl.IdNum(impl.Id{Prio: 1}), 67108864)
	same(t, "Broad", impl.IdNum(impl.Id{Prio: 2, Pgn: 129025, Dest: impl.ToAll, Src: 1}), 2*67108864+256*129025+1)
	same(t, "not Broad", impl.IdNum(impl.Id{Prio: 6, Pgn: 60928, Dest: impl.ToAll, Src: 5}), claimId)
	same(t, "the greatest", impl.IdNum(impl.Id{Prio: 7, Pgn: impl.MaxPgn, Dest: impl.ToAll, Src: 255}), greatestId)
}

func TestWhatAFrameIsAboutComesBack(t *testing.T) {
	for _, x := range rightIds() {
		n := impl.IdNum(x)
		same(t, "its number", n, idAsBits(x))
		same(t, "comes back", impl.IdOf(n), impl.IdOut{Id: x})
	}
}

// Of the numbers up to the greatest one all but those that have the unused bit are some Id's, and come back.
func TestEachNumberIsOneIdsOrNone(t *testing.T) {
	r := rand.New(rand.NewSource(4))
	for i := 0; i < 200000; i++ {
		n := r.Int63n(greatestId + 1)
		got := impl.IdOf(n)
		if n&unusedId != 0 {
			same(t, "no Id's", got, impl.IdOut{Code: impl.ErrForm})
			continue
		}
		same(t, "Code", got.Code, impl.OK)
		same(t, "right", impl.IdRight(got.Id), true)
		same(t, "its number again", impl.IdNum(got.Id), n)
	}
	same(t, "the least", impl.IdOf(0), impl.IdOut{})
	same(t, "the greatest", impl.IdOf(greatestId), impl.IdOut{Id: impl.Id{Prio: 7, Pgn: impl.MaxPgn, Dest: impl.ToAll, Src: 255}})
	same(t, "the greatest of Prio 0", impl.IdOf(unusedId-1), impl.IdOut{Id: impl.Id{Pgn: impl.MaxPgn, Dest: impl.ToAll, Src: 255}})
	same(t, "the last to one", impl.IdOf(toAllFrom<<8-1), impl.IdOut{Id: impl.Id{Pgn: toAllFrom - 256, Dest: 255, Src: 255}})
	same(t, "the first to all", impl.IdOf(toAllFrom<<8), impl.IdOut{Id: impl.Id{Pgn: toAllFrom, Dest: impl.ToAll}})
}

func TestIdOfRefuses(t *testing.T) {
	for _, n := range wrongNumbers() {
		same(t, shown(n), impl.IdOf(n), impl.IdOut{Code: impl.ErrForm})
	}
}

// sampleCans are right Cans, of all lengths and of bytes of every kind.
func sampleCans() []impl.Can {
	var l []impl.Can
	for i, x := range rightIds() {
		n := idAsBits(x)
		for _, data := range []string{"", "a", "\x00", "\xff\x00", "\x00\x00\x00\x00", "abcdefg", "abcdefgh", strings.Repeat("\xff", 8)} {
			if i%7 == len(data)%7 || i < 5 {
				l = append(l, impl.Can{Id: n, Data: data})
			}
		}
	}
	return l
}

// wrongCans are Cans of no Id, or of too much Data, or of both.
func wrongCans() []impl.Can {
	l := []impl.Can{{Data: as(9)}, {Id: claimId, Data: as(9)}, {Id: greatestId, Data: as(256)}, {Data: as(264)},
		{Data: as(impl.MaxBytes)}, {Data: as(impl.MaxBytes + 1)}, {Id: -1, Data: as(9)}}
	for _, n := range wrongNumbers() {
		l = append(l, impl.Can{Id: n}, impl.Can{Id: n, Data: "ab"})
	}
	return l
}

func TestCanRight(t *testing.T) {
	for _, c := range sampleCans() {
		same(t, shown(c), impl.CanRight(c), true)
	}
	for _, c := range wrongCans() {
		same(t, shown(c), impl.CanRight(c), false)
		same(t, "the bytes of "+shown(c), impl.CanBytes(c), "")
	}
	for n := 0; n <= 20; n++ {
		same(t, "each length", impl.CanRight(impl.Can{Id: 5, Data: as(n)}), n <= 8)
	}
}

func TestCanBytesAsSaid(t *testing.T) {
	same(t, "nothing", impl.CanBytes(impl.Can{}), "\x00\x00\x00\x00\x00")
	same(t, "Data", impl.CanBytes(impl.Can{Id: claimId, Data: "ab"}), "\x18\xee\xff\x05\x02ab")
	same(t, "eight bytes", impl.CanBytes(impl.Can{Id: 2<<26 + 129025<<8 + 1, Data: "abcdefgh"}), "\x09\xf8\x01\x01\x08abcdefgh")
	same(t, "the greatest", impl.CanBytes(impl.Can{Id: greatestId}), "\x1d\xff\xff\xff\x00")
}

func TestFramesComeBack(t *testing.T) {
	for _, c := range sampleCans() {
		b := impl.CanBytes(c)
		want := string(binary.BigEndian.AppendUint32(nil, uint32(c.Id))) + string([]byte{byte(len(c.Data))}) + c.Data
		same(t, "its bytes", b, want)
		same(t, "comes back", impl.CanRead(b), impl.CanOut{Can: c})
		same(t, "a byte more", impl.CanRead(b+"\x00"), impl.CanOut{Code: impl.ErrSyntax})
		for cut := range b {
			code := int64(impl.ErrSyntax)
			if cut < 5 {
				code = impl.ErrShort
			}
			same(t, "cut off", impl.CanRead(b[:cut]), impl.CanOut{Code: code})
		}
	}
}

func TestCanReadRefuses(t *testing.T) {
	cases := []struct {
		what string
		text string
		code int64
	}{
		{"nothing", "", impl.ErrShort},
		{"a byte", "x", impl.ErrShort},
		{"four bytes", "\x00\x00\x00\x00", impl.ErrShort},
		{"four bytes of no Id", "\xff\xff\xff\xff", impl.ErrShort},
		{"five bytes of no Id", "\xff\xff\xff\xff\x00", impl.ErrSyntax},
		{"the bit that none has", "\x02\x00\x00\x00\x00", impl.ErrSyntax},
		{"one more than the greatest", "\x1e\x00\x00\x00\x00", impl.ErrSyntax},
		{"the least of Prio 8", "\x20\x00\x00\x00\x00", impl.ErrSyntax},
		{"the highest bit", "\x80\x00\x00\x00\x00", impl.ErrSyntax},
		{"fewer bytes than told", "\x00\x00\x00\x00\x01", impl.ErrSyntax},
		{"one byte fewer than told", "\x00\x00\x00\x00\x03ab", impl.ErrSyntax},
		{"one byte more than told", "\x00\x00\x00\x00\x01ab", impl.ErrSyntax},
		{"bytes, but none told", "\x00\x00\x00\x00\x00ab", impl.ErrSyntax},
		{"nine bytes", "\x00\x00\x00\x00\x09" + as(9), impl.ErrSyntax},
		{"nine bytes, eight of them told", "\x00\x00\x00\x00\x08" + as(9), impl.ErrSyntax},
		{"255 bytes", "\x00\x00\x00\x00\xff" + as(255), impl.ErrSyntax},
		{"256 bytes more than told", "\x00\x00\x00\x00\x02" + as(258), impl.ErrSyntax},
		{"letters", "abcdefgh", impl.ErrSyntax},
		{"a text of the limit", as(impl.MaxBytes), impl.ErrSyntax},
		{"a text over the limit", as(impl.MaxBytes + 1), impl.ErrSize},
		{"a frame in a text over the limit", "\x00\x00\x00\x00\x08" + as(impl.MaxBytes), impl.ErrSize},
	}
	for _, c := range cases {
		same(t, c.what, impl.CanRead(c.text), impl.CanOut{Code: c.code})
	}
}

// Each frame has one way to be written: whatever is read is what would be written.
func TestWhatIsReadOfAFrameIsWhatIsWritten(t *testing.T) {
	r := rand.New(rand.NewSource(5))
	for i := 0; i < 50000; i++ {
		b := make([]byte, r.Intn(15))
		r.Read(b)
		if len(b) > 4 {
			b[0] %= 36
			b[4] = byte(len(b) - 5 + r.Intn(8)/7)
		}
		got := impl.CanRead(string(b))
		if got.Code == impl.OK {
			same(t, "written again", impl.CanBytes(got.Can), string(b))
			continue
		}
		same(t, "refused", got, impl.CanOut{Code: got.Code})
		same(t, "fewer than 5 bytes", got.Code == impl.ErrShort, len(b) < 5)
	}
}

func TestCanReadIsNewMemory(t *testing.T) {
	text := impl.CanBytes(impl.Can{Id: claimId, Data: "abcdefgh"})
	if shares(text, impl.CanRead(text).Can.Data) {
		t.Error("CanRead shares memory with its text")
	}
}

// ofIds are Cans of these numbers.
func ofIds(ids ...int64) []impl.Can {
	var l []impl.Can
	for _, n := range ids {
		l = append(l, impl.Can{Id: n, Data: "ab"})
	}
	return l
}

func TestFirst(t *testing.T) {
	cases := []struct {
		what string
		l    []impl.Can
		want int64
	}{
		{"none", nil, -1},
		{"an empty list", []impl.Can{}, -1},
		{"one", ofIds(5), 0},
		{"the greatest one", ofIds(greatestId), 0},
		{"the least at the beginning", ofIds(1, 2, 3), 0},
		{"the least in the middle", ofIds(3, 1, 2), 1},
		{"the least at the end", ofIds(3, 2, 1), 2},
		{"0", ofIds(3, 2, 0, 1), 2},
		{"the least twice", ofIds(9, 4, 7, 4), 1},
		{"all alike", ofIds(4, 4, 4), 0},
		{"by Prio, ahead of all else", ofIds(7<<26, 6<<26+unusedId-1), 1},
		{"alike but for Data, the lesser behind", []impl.Can{{Id: 9}, {Id: 5, Data: "b"}, {Id: 5, Data: "a"}, {Id: 5}}, 1},
		{"alike but for Data, the lesser ahead", []impl.Can{{Id: 9}, {Id: 5}, {Id: 5, Data: "x"}}, 1},
		{"Data alike, the Ids not", []impl.Can{{Id: 9, Data: "a"}, {Id: 8, Data: "a"}, {Id: 7, Data: "a"}}, 2},
		{"one that is not right", ofIds(-1), -1},
		{"one that is not right at the beginning", ofIds(unusedId, 1, 2), -1},
		{"one that is not right at the end", ofIds(1, 2, greatestId+1), -1},
		{"too much Data in the middle", []impl.Can{{Id: 1}, {Id: 2, Data: as(9)}, {Id: 3}}, -1},
		{"below 0, which would be the least", ofIds(4, -1, 3), -1},
	}
	for _, c := range cases {
		same(t, c.what, impl.First(c.l), c.want)
	}
}

func TestFirstOfLongLists(t *testing.T) {
	l := make([]impl.Can, impl.MaxList+1)
	for i := range l {
		l[i] = impl.Can{Id: int64(2*impl.MaxList - i)}
	}
	same(t, "MaxList", impl.First(l[:impl.MaxList]), impl.MaxList-1)
	same(t, "one more", impl.First(l), -1)
	l[impl.MaxList-1].Id = -1
	same(t, "MaxList, the last one not right", impl.First(l[:impl.MaxList]), -1)
}

func TestFirstOfSeveral(t *testing.T) {
	r := rand.New(rand.NewSource(6))
	for i := 0; i < 2000; i++ {
		l := make([]impl.Can, 1+r.Intn(20))
		for j := range l {
			l[j] = impl.Can{Id: r.Int63n(12) << 8, Data: as(r.Intn(3))}
		}
		kept := slices.Clone(l)
		want := 0
		for j := range l {
			if l[j].Id < l[want].Id {
				want = j
			}
		}
		same(t, "the least", impl.First(l), int64(want))
		same(t, "the list is as it was", slices.Equal(l, kept), true)
	}
}
