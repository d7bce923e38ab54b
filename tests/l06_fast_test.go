package tests

import (
	"math"
	"math/rand"
	"slices"
	"strings"
	"testing"

	"loop.example/g00628/impl"
)

// The group of most tests below.
const logPgn = 128275

// bytesFrom are so many bytes, of which each 256 in a row are all unlike.
func bytesFrom(first int, n int) string {
	b := make([]byte, n)
	for i := range b {
		b[i] = byte(first + i)
	}
	return string(b)
}

// session is one of the Seq 2 that awaits this frame; it is right, if such a Size goes with it.
func session(src int64, pgn int64, next int64, size int64) impl.Session {
	return impl.Session{Src: src, Pgn: pgn, Seq: 2, Next: next, Size: size, Data: bytesFrom(65, int(7*next-1))}
}

// aged is a Session of that Age.
func aged(s impl.Session, age int64) impl.Session {
	s.Age = age
	return s
}

// open are so many Sessions of the Srcs 10, 20 and so on.
func open(n int) []impl.Session {
	var l []impl.Session
	for i := 1; i <= n; i++ {
		l = append(l, aged(session(int64(10*i), logPgn, 2, 40), int64(i)))
	}
	return l
}

// sameTable fails if a table is not the one that is asked for; an empty one and none are the same.
func sameTable(t *testing.T, what string, got []impl.Session, want []impl.Session) {
	t.Helper()
	if !slices.Equal(got, want) {
		t.Errorf("%s: got %s, want %s", what, shown(got), shown(want))
	}
}

// sameFast fails if an answer, with all of its fields, is not the one that is asked for.
func sameFast(t *testing.T, what string, got impl.FastOut, want impl.FastOut) {
	t.Helper()
	sameTable(t, what+", the Table", got.Table, want.Table)
	same(t, what+", the Data", got.Data, want.Data)
	same(t, what+", the Code", got.Code, want.Code)
}

// refusedFast fails if an answer is not that code, and nothing beside it.
func refusedFast(t *testing.T, what string, got impl.FastOut, code int64) {
	t.Helper()
	sameFast(t, what, got, impl.FastOut{Code: code})
}

// cutAsSaid lays the count, the text and what fills up in a row, of which each frame has seven bytes behind its head.
func cutAsSaid(seq int64, data string) []string {
	row := string([]byte{byte(len(data))}) + data
	for len(row)%7 != 0 {
		row += "\xff"
	}
	var l []string
	for i := 0; 7*i < len(row); i++ {
		l = append(l, string([]byte{byte(seq<<5 | int64(i))})+row[7*i:7*i+7])
	}
	return l
}

func TestFastNumbersAsSaid(t *testing.T) {
	got := []int64{impl.MaxFast, impl.MaxSessions, impl.MaxAge}
	if !slices.Equal(got, []int64{223, 4, 750}) {
		t.Errorf("got %v", got)
	}
}

func TestFastCutAsSaid(t *testing.T) {
	cases := []struct {
		what string
		seq  int64
		data string
		want []string
	}{
		{"one byte", 0, "a", []string{"\x00\x01a\xff\xff\xff\xff\xff"}},
		{"one byte of 0", 1, "\x00", []string{"\x20\x01\x00\xff\xff\xff\xff\xff"}},
		{"five bytes", 6, "abcde", []string{"\xc0\x05abcde\xff"}},
		{"six bytes", 7, "abcdef", []string{"\xe0\x06abcdef"}},
		{"seven bytes", 0, "abcdefg", []string{"\x00\x07abcdef", "\x01g\xff\xff\xff\xff\xff\xff"}},
		{"thirteen bytes", 7, "abcdefghijklm", []string{"\xe0\x0dabcdef", "\xe1ghijklm"}},
		{"fourteen bytes", 2, "abcdefghijklmn", []string{"\x40\x0eabcdef", "\x41ghijklm", "\x42n\xff\xff\xff\xff\xff\xff"}},
		{"bytes 255", 3, "\xff\xff", []string{"\x60\x02\xff\xff\xff\xff\xff\xff"}},
		{"no byte", 0, "", nil},
		{"no byte, and no seq", 8, "", nil},
		{"one byte more than MaxFast", 0, as(impl.MaxFast + 1), nil},
		{"256 bytes more than one", 0, as(257), nil},
		{"MaxBytes", 0, as(impl.MaxBytes), nil},
		{"more than MaxBytes", 0, as(impl.MaxBytes + 1), nil},
	}
	for _, c := range cases {
		if got := impl.FastCut(c.seq, c.data); !slices.Equal(got, c.want) {
			t.Errorf("%s: got %q, want %q", c.what, got, c.want)
		}
	}
	longest := impl.FastCut(7, as(impl.MaxFast))
	same(t, "frames of MaxFast", len(longest), 32)
	same(t, "the first one", longest[0], "\xe0\xdfaaaaaa")
	same(t, "the last one", longest[31], "\xffaaaaaaa")
	same(t, "the last one of a byte less", impl.FastCut(7, as(impl.MaxFast-1))[31], "\xffaaaaaa\xff")
}

func TestFastCutOfEachSeqAndSize(t *testing.T) {
	for seq := int64(-2); seq <= 9; seq++ {
		for size := 0; size <= impl.MaxFast+40; size++ {
			data := bytesFrom(size, size)
			var want []string
			if seq >= 0 && seq <= 7 && size >= 1 && size <= 223 {
				want = cutAsSaid(seq, data)
			}
			if got := impl.FastCut(seq, data); !slices.Equal(got, want) {
				t.Errorf("seq %d, %d bytes: got %q, want %q", seq, size, got, want)
			}
		}
	}
	for _, seq := range []int64{-1, 8, -8, 256, 1 << 32, math.MinInt64, math.MaxInt64} {
		same(t, "a seq that may not be", len(impl.FastCut(seq, "abcdefgh")), 0)
	}
}

// rightTables are tables at the edges of what may stand in them.
func rightTables() [][]impl.Session {
	l := [][]impl.Session{nil, {}, open(1), open(2), open(impl.MaxSessions - 1), open(impl.MaxSessions)}
	for _, s := range []impl.Session{
		session(0, 0, 1, 7), session(255, impl.MaxPgn, 31, 223), session(1, 1, 31, 217), session(1, 60929, 2, 14),
		aged(session(1, 2, 1, 223), impl.MaxAge), aged(session(1, 2, 1, 7), impl.MaxAge-1),
	} {
		for _, seq := range []int64{0, 1, 6, 7} {
			s.Seq = seq
			l = append(l, []impl.Session{s})
		}
	}
	return append(l,
		[]impl.Session{session(5, 1, 1, 7), session(5, 2, 1, 7), session(5, 3, 1, 7), session(6, 1, 1, 7)},
		[]impl.Session{session(5, 9, 1, 7), session(6, 1, 1, 7)},
		[]impl.Session{session(0, impl.MaxPgn, 1, 7), session(1, 0, 1, 7), session(254, 0, 1, 7), session(255, 0, 1, 7)},
	)
}

// turnedSession is a right Session with one part turned.
func turnedSession(turn func(s *impl.Session)) impl.Session {
	s := session(7, logPgn, 3, 40)
	turn(&s)
	return s
}

// wrongSessions are Sessions that are not right by themselves.
func wrongSessions() []impl.Session {
	l := []impl.Session{{}}
	far := []int64{math.MinInt64, -256, -1, 1 << 32, math.MaxInt64}
	for _, n := range append(far, 256, 257) {
		l = append(l, turnedSession(func(s *impl.Session) { s.Src = n }))
	}
	for _, n := range append(far, impl.MaxPgn+1, 2*impl.MaxPgn) {
		l = append(l, turnedSession(func(s *impl.Session) { s.Pgn = n }))
	}
	for _, n := range append(far, 8, 9, 32) {
		l = append(l, turnedSession(func(s *impl.Session) { s.Seq = n }))
	}
	for _, n := range append(far, impl.MaxAge+1, impl.MaxTime) {
		l = append(l, turnedSession(func(s *impl.Session) { s.Age = n }))
	}
	for _, n := range append(far, 0, 6, 19, 20, impl.MaxFast+1, 255, 256+40) {
		l = append(l, turnedSession(func(s *impl.Session) { s.Size = n }))
	}
	for _, n := range append(far, 0, 1, 2, 4, 5, 32) {
		l = append(l, turnedSession(func(s *impl.Session) { s.Next = n }))
	}
	for _, n := range []int{0, 1, 19, 21, 27, 39, 40, 41, 256 + 20, impl.MaxBytes + 1} {
		l = append(l, turnedSession(func(s *impl.Session) { s.Data = as(n) }))
	}
	// Of these Nexts seven times one less, of 64 bits, is 1 and 2.
	l = append(l, impl.Session{Src: 1, Pgn: 2, Next: 7905747460161236408, Size: 40, Data: as(7)},
		impl.Session{Src: 1, Pgn: 2, Next: -2635249153387078801, Size: 40, Data: as(8)})
	return append(l,
		session(1, 2, 1, 6), session(1, 2, 1, 5), session(1, 2, 2, 13), session(1, 2, 2, 12), session(1, 2, 31, 216),
		session(1, 2, 32, 223), session(1, 2, 32, 224), session(1, 2, 33, 300), session(1, 2, 31, 224), session(1, 2, 1, 224),
		impl.Session{Src: 1, Pgn: 2, Size: 7}, impl.Session{Src: 1, Pgn: 2, Next: 1, Size: 7}, impl.Session{Src: 1, Pgn: 2, Next: 0, Size: 223})
}

// wrongTables are tables that are not right, though some of them of Sessions that are.
func wrongTables() [][]impl.Session {
	one := session(5, 2, 1, 7)
	l := [][]impl.Session{
		open(impl.MaxSessions + 1), open(2 * impl.MaxSessions), open(25),
		{one, one}, {one, session(5, 2, 2, 14)}, {one, aged(one, 5)},
		{session(6, 1, 1, 7), one}, {session(6, 2, 1, 7), one}, {session(6, 3, 1, 7), one},
		{session(5, 3, 1, 7), one}, {one, session(5, 1, 1, 7)},
		{session(1, 2, 1, 7), one, one, session(9, 2, 1, 7)},
		{session(1, 2, 1, 7), session(3, 2, 1, 7), session(2, 2, 1, 7)},
		{session(3, 2, 1, 7), session(1, 2, 1, 7), session(2, 2, 1, 7), session(4, 2, 1, 7)},
	}
	for _, s := range wrongSessions() {
		l = append(l, []impl.Session{s})
	}
	return l
}

func TestTableRight(t *testing.T) {
	for _, l := range rightTables() {
		same(t, shown(l), impl.TableRight(l), true)
	}
	for _, l := range wrongTables() {
		same(t, shown(l), impl.TableRight(l), false)
	}
	same(t, "more than MaxList", impl.TableRight(make([]impl.Session, impl.MaxList+1)), false)
}

func TestTableRightOfEachNextAndSize(t *testing.T) {
	for next := int64(0); next <= 40; next++ {
		for size := int64(-2); size <= 260; size++ {
			for _, more := range []int{-7, -1, 0, 1, 7} {
				s := impl.Session{Src: 1, Pgn: 2, Next: next, Size: size, Data: as(max(0, int(7*next-1)+more))}
				want := next >= 1 && next <= 31 && size >= 7 && size <= 223 && 7*next-1 < size && more == 0
				same(t, shown(s), impl.TableRight([]impl.Session{s}), want)
			}
		}
	}
}

// Wherever in a table the one stands that may not be, the table is not right.
func TestTableRightLooksAtEach(t *testing.T) {
	for place := range impl.MaxSessions {
		for _, wrong := range wrongSessions() {
			l := open(impl.MaxSessions)
			if wrong.Src >= 0 && wrong.Src <= 255 {
				wrong.Src = l[place].Src
			}
			l[place] = wrong
			same(t, shown(wrong), impl.TableRight(l), false)
		}
		if place > 0 {
			l := open(impl.MaxSessions)
			l[place-1], l[place] = l[place], l[place-1]
			same(t, "not rising", impl.TableRight(l), false)
			l = open(impl.MaxSessions)
			l[place].Src = l[place-1].Src
			same(t, "two alike", impl.TableRight(l), false)
			l[place].Pgn++
			same(t, "rising by Pgn", impl.TableRight(l), true)
			l[place].Pgn -= 2
			same(t, "not rising by Pgn", impl.TableRight(l), false)
		}
	}
}

// fastCase is a table, what is heard, and what is answered.
type fastCase struct {
	what string
	l    []impl.Session
	src  int64
	pgn  int64
	data string
	want impl.FastOut
}

// heardFast fails for each case of which the answer is another one.
func heardFast(t *testing.T, cases []fastCase) {
	t.Helper()
	for _, x := range cases {
		sameFast(t, x.what, impl.FastHear(x.l, x.src, x.pgn, x.data), x.want)
	}
}

// table is an answer of these Sessions.
func table(l ...impl.Session) impl.FastOut {
	return impl.FastOut{Table: l}
}

// whole is an answer of that text, beside these Sessions.
func whole(data string, l ...impl.Session) impl.FastOut {
	return impl.FastOut{Table: l, Data: data}
}

// fault is an answer of that code alone.
func fault(code int64) impl.FastOut {
	return impl.FastOut{Code: code}
}

// begun is the Session that begins with the bytes abcdef.
func begun(src int64, pgn int64, seq int64, size int64) impl.Session {
	return impl.Session{Src: src, Pgn: pgn, Seq: seq, Next: 1, Size: size, Data: "abcdef"}
}

func TestFastHearOfABeginning(t *testing.T) {
	l := open(2)
	a, b := l[0], l[1]
	heardFast(t, []fastCase{
		{"into none", nil, 7, logPgn, "\x40\x0eabcdef", table(begun(7, logPgn, 2, 14))},
		{"into an empty table", []impl.Session{}, 7, logPgn, "\x40\x0eabcdef", table(begun(7, logPgn, 2, 14))},
		{"the least of all", nil, 0, 0, "\x00\x07abcdef", table(begun(0, 0, 0, 7))},
		{"the greatest of all", nil, 255, impl.MaxPgn, "\xe0\xdfabcdef", table(begun(255, impl.MaxPgn, 7, 223))},
		{"ahead of others", l, 5, logPgn, "\x20\x64abcdef", table(begun(5, logPgn, 1, 100), a, b)},
		{"between others", l, 15, logPgn, "\x20\x64abcdef", table(a, begun(15, logPgn, 1, 100), b)},
		{"behind others", l, 25, logPgn, "\x20\x64abcdef", table(a, b, begun(25, logPgn, 1, 100))},
		{"a lesser Pgn of the same Src", l, 10, logPgn - 1, "\x20\x64abcdef", table(begun(10, logPgn-1, 1, 100), a, b)},
		{"a greater Pgn of the same Src", l, 10, logPgn + 1, "\x20\x64abcdef", table(a, begun(10, logPgn+1, 1, 100), b)},
		{"a greater Pgn of the last Src", l, 20, logPgn + 1, "\x20\x64abcdef", table(a, b, begun(20, logPgn+1, 1, 100))},
		{"instead of its own", l, 10, logPgn, "\x20\x64abcdef", table(begun(10, logPgn, 1, 100), b)},
		{"instead of its own, of the same Seq", l, 20, logPgn, "\x40\x28abcdef", table(a, begun(20, logPgn, 2, 40))},
	})
}

// Of each second byte, with and without a Session of its own, and with others, as many as may be.
func TestFastHearOfEachSecondByte(t *testing.T) {
	three, four := open(3), open(4)
	for size := range int64(256) {
		data := "\xc0" + string([]byte{byte(size)}) + "abcdef"
		s := begun(20, logPgn, 6, size)
		another := begun(50, logPgn, 6, size)
		cases := []fastCase{
			{"into none", nil, 20, logPgn, data, table(s)},
			{"instead of its own", open(2)[1:], 20, logPgn, data, table(s)},
			{"instead of its own of MaxSessions", four, 20, logPgn, data, table(four[0], s, four[2], four[3])},
			{"the last one of MaxSessions", three, 50, logPgn, data, table(three[0], three[1], three[2], another)},
			{"with MaxSessions of others", four, 50, logPgn, data, fault(impl.ErrFull)},
			{"with MaxSessions of others, one of the same Src", four, 20, logPgn + 1, data, fault(impl.ErrFull)},
			{"with MaxSessions of others, one of the same Pgn", four, 21, logPgn, data, fault(impl.ErrFull)},
		}
		if size <= 6 {
			cases[0].want = whole("abcdef"[:size])
			cases[1].want = whole("abcdef"[:size])
			cases[2].want = whole("abcdef"[:size], four[0], four[2], four[3])
			cases[3].want = whole("abcdef"[:size], three...)
			for i := range cases[4:] {
				cases[4+i].want = whole("abcdef"[:size], four...)
			}
		}
		if size < 1 || size > 223 {
			for i := range cases {
				cases[i].want = fault(impl.ErrForm)
			}
		}
		heardFast(t, cases)
	}
}

func TestFastHearOfAFurtherOne(t *testing.T) {
	l := open(3)
	old := aged(session(20, logPgn, 2, 40), impl.MaxAge)
	full := []impl.Session{l[0], old, l[2], session(30, logPgn+1, 1, 7)}
	next := old
	next.Next, next.Age, next.Data = 3, 0, old.Data+"ghijklm"
	last := session(255, impl.MaxPgn, 30, 223)
	lastBut := last
	lastBut.Next, lastBut.Data = 31, last.Data+"ghijklm"
	gone := table(l[0], l[2])
	heardFast(t, []fastCase{
		{"the one awaited", []impl.Session{l[0], old, l[2]}, 20, logPgn, "\x42ghijklm", table(l[0], next, l[2])},
		{"the one awaited of MaxSessions", full, 20, logPgn, "\x42ghijklm", table(l[0], next, l[2], full[3])},
		{"the last but one that may be", []impl.Session{last}, 255, impl.MaxPgn, "\x5eghijklm", table(lastBut)},
		{"of a table that is empty", nil, 20, logPgn, "\x42ghijklm", fault(impl.ErrNone)},
		{"of nobody's Session", l, 25, logPgn, "\x42ghijklm", fault(impl.ErrNone)},
		{"of another Src", l[:1], 20, logPgn, "\x42ghijklm", fault(impl.ErrNone)},
		{"of a lesser Pgn", l, 20, logPgn - 1, "\x42ghijklm", fault(impl.ErrNone)},
		{"of a greater Pgn", l, 20, logPgn + 1, "\x42ghijklm", fault(impl.ErrNone)},
		{"of nobody's Session, with MaxSessions", full, 25, logPgn, "\x42ghijklm", fault(impl.ErrNone)},
		{"of nobody's Session, the first one", l, 25, logPgn, "\x41ghijklm", fault(impl.ErrNone)},
		{"of a lesser Seq", l, 20, logPgn, "\x22ghijklm", gone},
		{"of a greater Seq", l, 20, logPgn, "\x62ghijklm", gone},
		{"of the Seq 0", l, 20, logPgn, "\x02ghijklm", gone},
		{"of the one ahead", l, 20, logPgn, "\x41ghijklm", gone},
		{"of the one behind", l, 20, logPgn, "\x43ghijklm", gone},
		{"of the last one there is", l, 20, logPgn, "\x5fghijklm", gone},
		{"of another Seq and another Next", l, 20, logPgn, "\xffghijklm", gone},
		{"the only one goes", l[:1], 10, logPgn, "\x43ghijklm", table()},
		{"the first one goes", l, 10, logPgn, "\x43ghijklm", table(l[1], l[2])},
		{"the last one goes", l, 30, logPgn, "\x43ghijklm", table(l[0], l[1])},
	})
}

// Of each first byte but those that begin: just one is awaited.
func TestFastHearOfEachFirstByte(t *testing.T) {
	for seq := range int64(8) {
		for next := int64(1); next <= 31; next++ {
			s := session(7, logPgn, next, 223)
			s.Seq = seq
			for first := range int64(256) {
				if first%32 == 0 {
					continue
				}
				want := table()
				if first == 32*seq+next && next == 31 {
					want = whole(s.Data + "ghijklm")
				} else if first == 32*seq+next {
					longer := s
					longer.Next, longer.Data = next+1, s.Data+"ghijklm"
					want = table(longer)
				}
				sameFast(t, "heard", impl.FastHear([]impl.Session{s}, 7, logPgn, string([]byte{byte(first)})+"ghijklm"), want)
			}
		}
	}
}

func TestFastHearOfWhatMakesItWhole(t *testing.T) {
	two := session(20, logPgn, 1, 13)
	l := []impl.Session{open(1)[0], two, open(3)[2]}
	heardFast(t, []fastCase{
		{"at exactly Size", []impl.Session{two}, 20, logPgn, "\x41ghijklm", whole(two.Data + "ghijklm")},
		{"beside others", l, 20, logPgn, "\x41ghijklm", whole(two.Data+"ghijklm", l[0], l[2])},
		{"one byte more than Size", []impl.Session{session(20, logPgn, 1, 12)}, 20, logPgn, "\x41ghijklm", whole(two.Data + "ghijkl")},
		{"one byte of seven", []impl.Session{session(20, logPgn, 1, 7)}, 20, logPgn, "\x41ghijklm", whole(two.Data + "g")},
		{"one byte less than Size", []impl.Session{session(20, logPgn, 1, 14)}, 20, logPgn, "\x41ghijklm",
			table(impl.Session{Src: 20, Pgn: logPgn, Seq: 2, Next: 2, Size: 14, Data: two.Data + "ghijklm"})},
		{"of MaxAge", []impl.Session{aged(two, impl.MaxAge)}, 20, logPgn, "\x41ghijklm", whole(two.Data + "ghijklm")},
		{"MaxFast", []impl.Session{session(0, 0, 31, 223)}, 0, 0, "\x5fghijklm", whole(bytesFrom(65, 216) + "ghijklm")},
		{"MaxFast less 6", []impl.Session{session(0, 0, 31, 217)}, 0, 0, "\x5fghijklm", whole(bytesFrom(65, 216) + "g")},
		{"what is behind is not looked at", []impl.Session{session(20, logPgn, 1, 7)}, 20, logPgn, "\x41g\x00\x00\x00\x00\x00\x00", whole(two.Data + "g")},
	})
}

func TestFastHearRefuses(t *testing.T) {
	l := open(2)
	begins, goesOn := "\x40\x0eabcdef", "\x42ghijklm"
	for _, data := range []string{begins, goesOn, "\x40\x01abcdef", "\x40\x00abcdef"} {
		for _, src := range []int64{-1, 256, 257, math.MinInt64, math.MaxInt64, 1<<32 + 10} {
			refusedFast(t, "no src", impl.FastHear(l, src, logPgn, data), impl.ErrForm)
			refusedFast(t, "no src, with MaxSessions", impl.FastHear(open(4), src, logPgn, data), impl.ErrForm)
		}
		for _, pgn := range []int64{-1, impl.MaxPgn + 1, math.MinInt64, math.MaxInt64, 1<<32 + logPgn} {
			refusedFast(t, "no pgn", impl.FastHear(l, 10, pgn, data), impl.ErrForm)
			refusedFast(t, "no pgn, of nobody's Session", impl.FastHear(nil, 10, pgn, data), impl.ErrForm)
		}
		for n := range 20 {
			if n != 8 {
				refusedFast(t, "not eight bytes", impl.FastHear(l, 10, logPgn, (data + as(20))[:n]), impl.ErrForm)
				refusedFast(t, "not eight bytes, of nobody's Session", impl.FastHear(nil, 10, logPgn, (data + as(20))[:n]), impl.ErrForm)
			}
		}
		for _, wrong := range wrongTables() {
			refusedFast(t, shown(wrong), impl.FastHear(wrong, 7, logPgn, data), impl.ErrForm)
			refusedFast(t, "nothing may be", impl.FastHear(wrong, -1, -1, ""), impl.ErrForm)
		}
		refusedFast(t, "a text of MaxBytes", impl.FastHear(l, 10, logPgn, data+as(impl.MaxBytes-8)), impl.ErrForm)
		refusedFast(t, "a text of one byte more", impl.FastHear(l, 10, logPgn, data+as(impl.MaxBytes-7)), impl.ErrSize)
		refusedFast(t, "that and no src", impl.FastHear(l, -1, -1, data+as(impl.MaxBytes-7)), impl.ErrSize)
		refusedFast(t, "that and a table that is not right", impl.FastHear(open(5), 10, logPgn, as(impl.MaxBytes+1)), impl.ErrSize)
		refusedFast(t, "a list of MaxList", impl.FastHear(make([]impl.Session, impl.MaxList), 10, logPgn, data), impl.ErrForm)
		refusedFast(t, "a list of one more", impl.FastHear(make([]impl.Session, impl.MaxList+1), 10, logPgn, data), impl.ErrSize)
		refusedFast(t, "that and no src", impl.FastHear(make([]impl.Session, impl.MaxList+1), -1, -1, data[:7]), impl.ErrSize)
	}
}

func TestFastTick(t *testing.T) {
	a, b, c, d := session(1, 5, 1, 7), session(1, 6, 2, 14), session(2, 3, 31, 223), session(9, 1, 3, 40)
	cases := []struct {
		what string
		l    []impl.Session
		want []impl.Session
	}{
		{"none", nil, nil},
		{"an empty table", []impl.Session{}, nil},
		{"of Age 0", []impl.Session{a}, []impl.Session{aged(a, 1)}},
		{"one below MaxAge", []impl.Session{aged(a, 749)}, []impl.Session{aged(a, 750)}},
		{"MaxAge", []impl.Session{aged(a, 750)}, nil},
		{"several", []impl.Session{a, aged(b, 7), aged(c, 748), aged(d, 749)},
			[]impl.Session{aged(a, 1), aged(b, 8), aged(c, 749), aged(d, 750)}},
		{"the first one goes", []impl.Session{aged(a, 750), aged(b, 749), c}, []impl.Session{aged(b, 750), aged(c, 1)}},
		{"the last one goes", []impl.Session{a, b, c, aged(d, 750)}, []impl.Session{aged(a, 1), aged(b, 1), aged(c, 1)}},
		{"some between go", []impl.Session{a, aged(b, 750), aged(c, 750), d}, []impl.Session{aged(a, 1), aged(d, 1)}},
		{"all but one go", []impl.Session{aged(a, 750), aged(b, 750), c, aged(d, 750)}, []impl.Session{aged(c, 1)}},
		{"all go", []impl.Session{aged(a, 750), aged(b, 750), aged(c, 750), aged(d, 750)}, nil},
		{"more than MaxList", make([]impl.Session, impl.MaxList+1), nil},
	}
	for _, x := range cases {
		sameTable(t, x.what, impl.FastTick(x.l), x.want)
	}
	for _, l := range rightTables() {
		same(t, "right still", impl.TableRight(impl.FastTick(l)), true)
	}
	for _, l := range wrongTables() {
		sameTable(t, shown(l), impl.FastTick(l), nil)
	}
}

// A Session is there for MaxAge ticks, and goes with the next one, if nothing more is heard.
func TestASessionThatHearsNothingGoes(t *testing.T) {
	cut := impl.FastCut(1, bytesFrom(0, 20))
	l := impl.FastHear(nil, 7, logPgn, cut[0]).Table
	for age := int64(1); age <= impl.MaxAge; age++ {
		l = impl.FastTick(l)
		sameTable(t, "older", l, []impl.Session{{Src: 7, Pgn: logPgn, Seq: 1, Next: 1, Size: 20, Data: bytesFrom(0, 6), Age: age}})
	}
	sameTable(t, "too old", impl.FastTick(l), nil)
	l = impl.FastHear(l, 7, logPgn, cut[1]).Table
	for range impl.MaxAge {
		l = impl.FastTick(l)
	}
	sameFast(t, "heard just in time", impl.FastHear(l, 7, logPgn, cut[2]), whole(bytesFrom(0, 20)))
	refusedFast(t, "a tick too late", impl.FastHear(impl.FastTick(l), 7, logPgn, cut[2]), impl.ErrNone)
}

// hearAll hears frames of one Src one by one; each answer's Table is what the next one hears, but of a code.
func hearAll(t *testing.T, l []impl.Session, src int64, frames []string) ([]impl.Session, []string) {
	t.Helper()
	var told []string
	for _, frame := range frames {
		out := impl.FastHear(l, src, logPgn, frame)
		if out.Code != impl.OK {
			refusedFast(t, "of nobody's Session", out, impl.ErrNone)
			continue
		}
		same(t, "right", impl.TableRight(out.Table), true)
		l = out.Table
		if out.Data != "" {
			told = append(told, out.Data)
		}
	}
	return l, told
}

// sameTold fails if what was told is not this.
func sameTold(t *testing.T, what string, got []string, want ...string) {
	t.Helper()
	if !slices.Equal(got, want) {
		t.Errorf("%s: got %q, want %q", what, got, want)
	}
}

func TestWhatIsCutIsPutTogetherAgain(t *testing.T) {
	for seq := range int64(8) {
		for size := 1; size <= impl.MaxFast; size++ {
			data := bytesFrom(3*size, size)
			cut := impl.FastCut(seq, data)
			l, told := hearAll(t, open(3), 25, cut)
			sameTable(t, "the others stay", l, open(3))
			sameTold(t, "whole", told, data)
			// Ahead of the last one nothing is told, and the Session awaits the next one.
			l, told = hearAll(t, nil, 25, cut[:len(cut)-1])
			sameTold(t, "not whole yet", told)
			if len(cut) > 1 {
				n := len(cut) - 1
				sameTable(t, "awaits the last one", l, []impl.Session{{Src: 25, Pgn: logPgn, Seq: seq,
					Next: int64(n), Size: int64(size), Data: data[:7*n-1]}})
			}
		}
	}
	sameTold(t, "no table, no text", impl.FastCut(0, ""))
}

// Whichever frame of however long a text is lost: it is not told, nor is a part of it, and the next one is whole again.
func TestWithOneFrameLostNothingIs(t *testing.T) {
	for size := 1; size <= impl.MaxFast; size++ {
		data := bytesFrom(size, size)
		cut := impl.FastCut(5, data)
		another := bytesFrom(size+1, impl.MaxFast+1-size)
		for place := range cut {
			left := slices.Delete(slices.Clone(cut), place, place+1)
			l, told := hearAll(t, open(3), 25, left)
			sameTold(t, "one is lost", told)
			if place < len(cut)-1 {
				sameTable(t, "no Session stays", l, open(3))
			}
			for _, seq := range []int64{5, 6} {
				_, told = hearAll(t, l, 25, impl.FastCut(seq, another))
				sameTold(t, "the next one", told, another)
			}
			// Nothing of the next one is put to what is left of this one.
			_, told = hearAll(t, l, 25, impl.FastCut(6, data)[1:])
			sameTold(t, "of the next one the first is lost", told)
		}
	}
}

func TestFramesThatComeTwiceOrInAnotherOrder(t *testing.T) {
	data := bytesFrom(0, 27)
	cut := impl.FastCut(3, data)
	for place := 1; place < len(cut); place++ {
		l, told := hearAll(t, nil, 7, slices.Insert(slices.Clone(cut), place, cut[place-1]))
		if place == 1 {
			sameTold(t, "it begins twice", told, data)
		} else {
			sameTold(t, "one comes twice", told)
		}
		sameTable(t, "nothing is left", l, nil)
	}
	for place := 1; place < len(cut); place++ {
		turned := slices.Clone(cut)
		turned[place-1], turned[place] = turned[place], turned[place-1]
		_, told := hearAll(t, nil, 7, turned)
		sameTold(t, "in another order", told)
	}
}

// Frames of as many as there may be go between each other; who is one too many is refused, till there is room.
func TestSeveralAreHeardAtOnce(t *testing.T) {
	r := rand.New(rand.NewSource(11))
	for range 300 {
		var cut [impl.MaxSessions][]string
		var texts [impl.MaxSessions]string
		l := []impl.Session(nil)
		for i := range cut {
			texts[i] = bytesFrom(r.Intn(256), 7+r.Intn(impl.MaxFast-6))
			cut[i] = impl.FastCut(int64(r.Intn(8)), texts[i])
			l, _ = hearAll(t, l, int64(10*i), cut[i][:1])
			cut[i] = cut[i][1:]
		}
		refusedFast(t, "one too many", impl.FastHear(l, 99, logPgn, "\x00\x07abcdef"), impl.ErrFull)
		sameFast(t, "a short one", impl.FastHear(l, 99, logPgn, "\x00\x06abcdef"), whole("abcdef", l...))
		for left := len(cut); left > 0; {
			i := r.Intn(len(cut))
			if len(cut[i]) == 0 {
				continue
			}
			out := impl.FastHear(l, int64(10*i), logPgn, cut[i][0])
			l, cut[i] = out.Table, cut[i][1:]
			want := ""
			if len(cut[i]) == 0 {
				want = texts[i]
				left--
			}
			same(t, "Code", out.Code, impl.OK)
			same(t, "Data", out.Data, want)
			same(t, "how many are open", len(l), left)
		}
	}
}

// standsAt is where in a table the Session of that Src and Pgn stands, or where it would.
func standsAt(l []impl.Session, src int64, pgn int64) (int, bool) {
	return slices.BinarySearchFunc(l, src<<20+pgn, func(s impl.Session, n int64) int { return int(s.Src<<20 + s.Pgn - n) })
}

// hearsLikeAModel is what is answered of a right table and frame, with the table as a sorted list.
func hearsLikeAModel(l []impl.Session, src int64, pgn int64, data string) impl.FastOut {
	at, there := standsAt(l, src, pgn)
	without := slices.Clone(l)
	if there {
		without = slices.Delete(without, at, at+1)
	}
	size := int64(data[1])
	switch {
	case data[0]&31 == 0 && (size == 0 || size > 223):
		return fault(1)
	case data[0]&31 == 0 && size <= 6:
		return whole(data[2:2+size], without...)
	case data[0]&31 == 0 && len(without) == 4:
		return fault(9)
	case data[0]&31 == 0:
		s := impl.Session{Src: src, Pgn: pgn, Seq: int64(data[0] >> 5), Next: 1, Size: size, Data: data[2:]}
		return table(slices.Insert(without, at, s)...)
	case !there:
		return fault(6)
	case data[0] != byte(l[at].Seq<<5|l[at].Next):
		return table(without...)
	}
	s := l[at]
	s.Data, s.Next, s.Age = s.Data+data[1:], s.Next+1, 0
	if s.Size <= int64(len(s.Data)) {
		return whole(s.Data[:s.Size], without...)
	}
	return table(slices.Insert(without, at, s)...)
}

// Frames of a few at random, most of them the one that is awaited, and ticks between them.
func TestFastHearsAsSaid(t *testing.T) {
	r := rand.New(rand.NewSource(12))
	told := 0
	for range 100 {
		var l []impl.Session
		for range 1000 {
			if t.Failed() {
				return // all that follows would be wrong as well
			}
			for range r.Intn(20) / 19 * r.Intn(400) {
				l = impl.FastTick(l)
			}
			src, pgn := int64(r.Intn(3)), int64(r.Intn(3))
			data := []byte(bytesFrom(r.Intn(256), 8))
			data[0] = byte(r.Intn(8) << 5)
			data[1] = byte(r.Intn(60))
			if at, there := standsAt(l, src, pgn); there && r.Intn(12) > 0 {
				data[0] = byte(l[at].Seq<<5 | l[at].Next)
			} else if r.Intn(4) == 0 {
				data[0], data[1] = byte(r.Intn(256)), byte(r.Intn(256))
			}
			got := impl.FastHear(l, src, pgn, string(data))
			sameFast(t, "heard", got, hearsLikeAModel(l, src, pgn, string(data)))
			if got.Code == impl.OK {
				l = got.Table
			}
			if len(got.Data) > 6 {
				told++
			}
		}
	}
	same(t, "many are made whole", told > 1000, true)
}

// ample is a table with room behind it, into which a careless append would write.
func ample(l []impl.Session) []impl.Session {
	whole := slices.Repeat([]impl.Session{{Src: 77, Data: "behind"}}, len(l)+8)
	copy(whole, l)
	return whole[:len(l)]
}

// spoiled turns all of a table, and the room behind it.
func spoiled(l []impl.Session) {
	for i := range l[:cap(l)] {
		l[:cap(l)][i] = impl.Session{Src: -9, Data: "turned"}
	}
}

// fastAnswers are answers of each kind that have a Table, of a table as open makes it of 3.
func fastAnswers(l []impl.Session) [][]impl.Session {
	return [][]impl.Session{
		impl.FastTick(l),
		impl.FastHear(l, 5, logPgn, "\x40\x0eabcdef").Table,
		impl.FastHear(l, 15, logPgn, "\x40\x0eabcdef").Table,
		impl.FastHear(l, 35, logPgn, "\x40\x0eabcdef").Table,
		impl.FastHear(l, 20, logPgn, "\x40\x0eabcdef").Table,
		impl.FastHear(l, 20, logPgn, "\x40\x02abcdef").Table,
		impl.FastHear(l, 25, logPgn, "\x40\x02abcdef").Table,
		impl.FastHear(l, 20, logPgn, "\x42ghijklm").Table,
		impl.FastHear(l, 20, logPgn, "\x43ghijklm").Table,
	}
}

func TestTablesHandedInAreNotChanged(t *testing.T) {
	l := ample(open(3))
	kept := slices.Clone(l[:cap(l)])
	want := fastAnswers(open(3))
	got := fastAnswers(l)
	sameTable(t, "changed", l[:cap(l)], kept)
	for _, answer := range fastAnswers(l) {
		spoiled(answer)
	}
	sameTable(t, "given out", l[:cap(l)], kept)
	impl.TableRight(l)
	impl.FastHear(l, -1, logPgn, "\x42ghijklm")
	impl.FastHear(l, 25, logPgn, "\x42ghijklm")
	sameTable(t, "changed by what is refused", l[:cap(l)], kept)
	spoiled(l)
	for i := range got {
		sameTable(t, "what was answered stays", got[i], want[i])
	}
}

func TestFastTextsAreNewMemory(t *testing.T) {
	text := strings.Clone("\x42ghijklm\x40\x0eabcdef\x40\x03uvwxyz\x20\x07nopqrs" + bytesFrom(65, 52))
	goesOn, begins, short := text[:8], text[8:16], text[16:24]
	l := open(4)
	for i := range l {
		l[i].Data = text[32+13*i : 32+13*(i+1)]
	}
	l[3].Size = 20
	var given []string
	for _, s := range slices.Concat(impl.FastTick(l), impl.FastHear(l, 20, logPgn, goesOn).Table, impl.FastHear(l, 20, logPgn, begins).Table) {
		given = append(given, s.Data)
	}
	same(t, "how many", len(given), 12)
	given = append(given, impl.FastHear(l, 40, logPgn, goesOn).Data, impl.FastHear(l, 25, logPgn, short).Data)
	given = append(given, impl.FastCut(2, text[:6])...)
	given = append(given, impl.FastCut(2, text[:52])...)
	for _, data := range given {
		if data == "" {
			t.Error("an answer is not there")
		} else if shares(text, data) {
			t.Errorf("an answer shares memory with what was handed in: %q", data)
		}
	}
}
