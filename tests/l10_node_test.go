package tests

import (
	"fmt"
	"math"
	"math/rand"
	"slices"
	"strings"
	"testing"

	"loop.example/g00628/impl"
)

// rowAsSaid is the row of a group of the table.
func rowAsSaid(pgn int64) impl.Def {
	l := defsAsSaid()
	return l[slices.IndexFunc(l, func(d impl.Def) bool { return d.Pgn == pgn })]
}

// gotOf is what may be Got of a group: Data of its Size, of which each byte is that one.
func gotOf(src int64, pgn int64, b byte) impl.Got {
	return impl.Got{Src: src, Pgn: pgn, Data: filledWith(b, int(rowAsSaid(pgn).Size))}
}

// received are so many that were Got, of all groups by turns, each unlike the others.
func received(n int) []impl.Got {
	var l []impl.Got
	for i := range n {
		l = append(l, gotOf(int64(i), defsAsSaid()[i%6].Pgn, byte('a'+i)))
	}
	return l
}

// busy is a Node that has something of everything.
func busy() impl.Node {
	return impl.Node{
		Claim:   holds(auto(own), 7, 3, 9),
		Queue:   queueOf(fromSrcs(7, 0, 7, 8)...),
		Table:   open(3),
		Devices: fleet(3),
		Got:     received(5),
		Seq:     5,
	}
}

// busyBut is a busy Node with something turned.
func busyBut(turn func(n *impl.Node)) impl.Node {
	n := busy()
	turn(&n)
	return n
}

// claims is a busy Node of that Claim.
func claims(c impl.Claim) impl.Node {
	return busyBut(func(n *impl.Node) { n.Claim = c })
}

// queues is a busy Node with these in its Queue.
func queues(l ...impl.Can) impl.Node {
	return busyBut(func(n *impl.Node) { n.Queue = queueOf(l...) })
}

// tables is a busy Node of that Table.
func tables(l ...impl.Session) impl.Node {
	return busyBut(func(n *impl.Node) { n.Table = l })
}

// gets is a busy Node with that Got.
func gets(l ...impl.Got) impl.Node {
	return busyBut(func(n *impl.Node) { n.Got = l })
}

// sameNode fails if a Node is not the one that is asked for; an empty list and none are the same.
func sameNode(t *testing.T, what string, got impl.Node, want impl.Node) {
	t.Helper()
	sameClaim(t, what+", the Claim", got.Claim, want.Claim)
	sameCans(t, what+", the Queue", got.Queue.Cans, want.Queue.Cans)
	sameTable(t, what+", the Table", got.Table, want.Table)
	sameDevices(t, what+", the Devices", got.Devices, want.Devices)
	if !slices.Equal(got.Got, want.Got) {
		t.Errorf("%s, Got: got %s, want %s", what, shown(got.Got), shown(want.Got))
	}
	same(t, what+", Seq", got.Seq, want.Seq)
}

// answersNode fails if an answer is not OK, and that Node.
func answersNode(t *testing.T, what string, got impl.NodeOut, want impl.Node) {
	t.Helper()
	same(t, what+", the Code", got.Code, impl.OK)
	sameNode(t, what, got.Node, want)
	same(t, what+", right", impl.NodeRight(got.Node), true)
}

// refusedNode fails if an answer is not that code, and nothing beside it.
func refusedNode(t *testing.T, what string, got impl.NodeOut, code int64) {
	t.Helper()
	same(t, what+", the Code", got.Code, code)
	sameNode(t, what, got.Node, impl.Node{})
}

// claiming is the Can by which that Name claims an address.
func claiming(addr int64, n impl.Name) impl.Can {
	return impl.Can{Id: idAsBits(impl.Id{Prio: 6, Pgn: 60928, Dest: 255, Src: addr}), Data: bytesOf(numberAsBits(n))}
}

// frameOf is a Can of a group, from that address to all.
func frameOf(src int64, pgn int64, data string) impl.Can {
	return impl.Can{Id: idAsBits(impl.Id{Prio: rowAsSaid(pgn).Prio, Pgn: pgn, Dest: 255, Src: src}), Data: data}
}

// cansAsSaid are the Cans by which these Values go out.
func cansAsSaid(d impl.Def, src int64, seq int64, l []impl.Value) []impl.Can {
	text := encodedAsSaid(d, l)
	frames := []string{text}
	if d.Size > 8 {
		frames = cutAsSaid(seq, text)
	}
	var cans []impl.Can
	for _, frame := range frames {
		cans = append(cans, frameOf(src, d.Pgn, frame))
	}
	return cans
}

// ofSrc are so many Cans of that Src, each unlike the others.
func ofSrc(src int64, n int) []impl.Can {
	return fromSrcs(slices.Repeat([]int64{src}, n)...)
}

// rightNodes are Nodes that are busy but for one part, which is at the edges of what may be.
func rightNodes() []impl.Node {
	l := []impl.Node{busy(), {Claim: holds(auto(own), 7)}, {Claim: lost(impl.Name{})}, impl.NodeNew(auto(own), 7).Node}
	for _, c := range rightClaims() {
		l = append(l, claims(c))
	}
	for n := range impl.MaxQueue + 1 {
		l = append(l, queues(numbered(n)...))
	}
	for _, table := range rightTables() {
		l = append(l, tables(table...))
	}
	for _, devices := range rightFleets() {
		l = append(l, busyBut(func(n *impl.Node) { n.Devices = devices }))
	}
	for n := range impl.MaxGot + 1 {
		l = append(l, gets(received(n)...))
	}
	for seq := range int64(8) {
		l = append(l, busyBut(func(n *impl.Node) { n.Seq = seq }))
	}
	for _, d := range defsAsSaid() {
		for _, src := range []int64{0, 1, 7, 251, 252, 254, 255} {
			l = append(l, gets(gotOf(src, d.Pgn, 255)), gets(slices.Repeat([]impl.Got{gotOf(src, d.Pgn, 0)}, impl.MaxGot)...))
		}
	}
	return l
}

// wrongGot are what may not be Got.
func wrongGot() []impl.Got {
	l := []impl.Got{{}, {Pgn: impl.ClaimPgn, Data: as(8)}}
	for _, d := range defsAsSaid() {
		for _, src := range []int64{-1, 256, 257, -256, 1 << 32, math.MinInt64, math.MaxInt64} {
			l = append(l, gotOf(src, d.Pgn, 'x'))
		}
		for _, n := range []int64{0, 1, d.Size - 1, d.Size + 1, 2 * d.Size, 22 - d.Size, 256 + d.Size, impl.MaxBytes + 1} {
			l = append(l, impl.Got{Src: 9, Pgn: d.Pgn, Data: as(int(n))})
		}
	}
	for _, pgn := range noPgns() {
		for _, n := range []int{0, 8, 14} {
			l = append(l, impl.Got{Src: 9, Pgn: pgn, Data: as(n)})
		}
	}
	return l
}

// wrongNodes are Nodes of which one part alone is not right.
func wrongNodes() []impl.Node {
	l := []impl.Node{{}, busyBut(func(n *impl.Node) { n.Claim = impl.Claim{} })}
	for _, q := range refusedQueues() {
		l = append(l, queues(q.Cans...))
	}
	for _, table := range append(wrongTables(), make([]impl.Session, impl.MaxList+1)) {
		l = append(l, tables(table...))
	}
	for _, devices := range append(wrongFleets(), fleet(impl.MaxList+1)) {
		l = append(l, busyBut(func(n *impl.Node) { n.Devices = devices }))
	}
	for _, n := range []int{impl.MaxGot + 1, impl.MaxGot + 2, 2 * impl.MaxGot, impl.MaxList, impl.MaxList + 1} {
		l = append(l, gets(received(n)...))
	}
	for _, wrong := range wrongGot() {
		l = append(l, gets(wrong))
	}
	for _, seq := range []int64{-1, 8, 9, -8, 256, 1 << 32, math.MinInt64, math.MaxInt64} {
		l = append(l, busyBut(func(n *impl.Node) { n.Seq = seq }))
	}
	for i, c := range wrongClaims() {
		// There are thousands of them: each is looked at by TestClaimRight.
		if i%11 == 0 || i > 4000 {
			l = append(l, claims(c))
		}
	}
	return l
}

func TestNodeNumbersAsSaid(t *testing.T) {
	same(t, "MaxGot", impl.MaxGot, 8)
	same(t, "ErrForm, ErrFull and ErrState", [3]int64{impl.ErrForm, impl.ErrFull, impl.ErrState}, [3]int64{1, 9, 10})
}

func TestNodeRight(t *testing.T) {
	for _, n := range rightNodes() {
		same(t, shown(n), impl.NodeRight(n), true)
	}
	for _, n := range wrongNodes() {
		same(t, shown(n), impl.NodeRight(n), false)
	}
	for _, c := range wrongClaims() {
		same(t, shown(c), impl.NodeRight(claims(c)), false)
		same(t, shown(c), impl.NodeRight(impl.Node{Claim: c}), false)
	}
}

// Wherever among what was Got the one stands that is not right, the Node is not.
func TestNodeRightLooksAtEachGot(t *testing.T) {
	for count := 1; count <= impl.MaxGot; count++ {
		for place := range count {
			for _, wrong := range wrongGot() {
				l := received(count)
				l[place] = wrong
				same(t, shown(wrong), impl.NodeRight(gets(l...)), false)
			}
		}
	}
}

func TestNodeNew(t *testing.T) {
	for _, name := range sampleNames()[:100] {
		for want := int64(-3); want <= 260; want++ {
			out := impl.NodeNew(name, want)
			if want < 0 || want > impl.MaxAddr {
				refusedNode(t, "a want that may not be", out, impl.ErrForm)
				continue
			}
			answersNode(t, "new", out, impl.Node{Claim: waits(name, want), Queue: queueOf(claiming(want, name))})
		}
	}
	for _, want := range []int64{-1, 252, impl.NoAddr, 255, 256, 1 << 32, math.MinInt64, math.MaxInt64} {
		refusedNode(t, "a want that may not be", impl.NodeNew(auto(own), want), impl.ErrForm)
		refusedNode(t, "neither may be", impl.NodeNew(impl.Name{Unique: -1}, want), impl.ErrForm)
	}
	for _, name := range wrongNames() {
		refusedNode(t, shown(name), impl.NodeNew(name, 7), impl.ErrForm)
	}
	same(t, "the bytes of a claim", impl.NodeNew(impl.Name{Unique: 1, Auto: true}, 4).Node.Queue.Cans[0],
		impl.Can{Id: 6*67108864 + 256*(60928+255) + 4, Data: "\x01\x00\x00\x00\x00\x00\x00\x80"})
}

// Each group, by each Seq, from each of several addresses: all else of the Node stays.
func TestNodeSendOfEachGroup(t *testing.T) {
	r := rand.New(rand.NewSource(50))
	for _, d := range defsAsSaid() {
		for seq := range int64(8) {
			for _, addr := range []int64{0, 1, 7, 100, impl.MaxAddr} {
				l := somewhere(r, d)
				n := claims(holds(fixed(own), addr, 3))
				n.Seq = seq
				want := n
				want.Queue.Cans = slices.Concat(n.Queue.Cans, cansAsSaid(d, addr, seq, l))
				if d.Pgn == logPgn {
					want.Seq = (seq + 1) % 8
				}
				answersNode(t, fmt.Sprint(d.Pgn, " by Seq ", seq), impl.NodeSend(n, d.Pgn, l), want)
			}
		}
	}
}

func TestNodeSendAsBytes(t *testing.T) {
	n := impl.Node{Claim: holds(auto(own), 7), Seq: 7}
	out := impl.NodeSend(n, positionPgn, []impl.Value{number(5), noNumber(impl.VlNone)})
	sameCans(t, "position", out.Node.Queue.Cans, []impl.Can{
		{Id: 2*67108864 + 256*129025 + 7, Data: "\x05\x00\x00\x00\xff\xff\xff\x7f"},
	})
	same(t, "Seq of one frame", out.Node.Seq, 7)
	out = impl.NodeSend(out.Node, logPgn, []impl.Value{number(1), number(2), noNumber(impl.VlError), noNumber(impl.VlNone)})
	sameCans(t, "log", out.Node.Queue.Cans[1:], []impl.Can{
		{Id: 6*67108864 + 256*128275 + 7, Data: "\xe0\x0e\x01\x00\x02\x00\x00\x00"},
		{Id: 6*67108864 + 256*128275 + 7, Data: "\xe1\xfe\xff\xff\xff\xff\xff\xff"},
		{Id: 6*67108864 + 256*128275 + 7, Data: "\xe2\xff\xff\xff\xff\xff\xff\xff"},
	})
	same(t, "Seq of more frames", out.Node.Seq, 0)
	out = impl.NodeSend(out.Node, logPgn, zerosOf(rowAsSaid(logPgn)))
	same(t, "the next Seq", out.Node.Queue.Cans[4].Data[0], 0)
	same(t, "Seq then", out.Node.Seq, 1)
}

// For each count that waits: all frames of a group come in, or none, and Seq is one more only with all of them.
func TestNodeSendsAllFramesOrNone(t *testing.T) {
	for _, d := range defsAsSaid() {
		frames := 1
		if d.Pgn == logPgn {
			frames = 3
		}
		for there := 0; there <= impl.MaxQueue; there++ {
			for _, seq := range []int64{0, 7} {
				n := queues(numbered(there)...)
				n.Seq = seq
				kept := copyOf(n)
				out := impl.NodeSend(n, d.Pgn, zerosOf(d))
				if there+frames > impl.MaxQueue {
					refusedNode(t, "no room", out, impl.ErrFull)
				} else {
					same(t, "all come in", len(out.Node.Queue.Cans), there+frames)
					sameCans(t, "behind the others", out.Node.Queue.Cans[:there], numbered(there))
				}
				sameNode(t, "as it was", n, kept)
			}
		}
	}
}

// withState are Claims of each State, all but the first of which may not send.
func withState() []impl.Claim {
	return []impl.Claim{holds(auto(own), 7), waits(auto(own), 7), waitsFor(1, fixed(own), 7), lost(auto(own)), lost(fixed(own), 7)}
}

func TestNodeSendRefuses(t *testing.T) {
	position := zerosOf(rowAsSaid(positionPgn))
	tooLong := slices.Repeat(position, impl.MaxList/2+1)
	full := queueOf(numbered(impl.MaxQueue)...)
	for i, c := range withState() {
		state := int64(impl.ErrState)
		if i == 0 {
			state = impl.ErrFull
		}
		n := claims(c)
		n.Queue = full
		refusedNode(t, "the State, ahead of no room", impl.NodeSend(n, positionPgn, position), state)
		refusedNode(t, "the State, ahead of no room, more frames", impl.NodeSend(n, logPgn, zerosOf(rowAsSaid(logPgn))), state)
		refusedNode(t, "no Values", impl.NodeSend(n, positionPgn, nil), impl.ErrForm)
		refusedNode(t, "too many Values", impl.NodeSend(n, positionPgn, slices.Repeat(position, 2)), impl.ErrForm)
		refusedNode(t, "MaxList", impl.NodeSend(n, positionPgn, tooLong[:impl.MaxList]), impl.ErrForm)
		refusedNode(t, "more than MaxList", impl.NodeSend(n, positionPgn, tooLong), impl.ErrSize)
		refusedNode(t, "more than MaxList, of no group", impl.NodeSend(n, 5, tooLong), impl.ErrSize)
		refusedNode(t, "a Value of no Kind", impl.NodeSend(n, positionPgn, []impl.Value{number(0), {}}), impl.ErrForm)
		refusedNode(t, "a number too great", impl.NodeSend(n, positionPgn, []impl.Value{number(math.MaxInt32), number(0)}), impl.ErrForm)
		refusedNode(t, "VlNone of two bits", impl.NodeSend(n, headingPgn, slices.Repeat([]impl.Value{noNumber(impl.VlNone)}, 5)), impl.ErrForm)
		for _, pgn := range noPgns() {
			refusedNode(t, "no group", impl.NodeSend(n, pgn, position), impl.ErrForm)
			refusedNode(t, "no group, no Values", impl.NodeSend(n, pgn, nil), impl.ErrForm)
		}
		if i > 0 {
			n.Queue = impl.Queue{}
			refusedNode(t, "the State", impl.NodeSend(n, positionPgn, position), impl.ErrState)
			refusedNode(t, "the State, more frames", impl.NodeSend(n, logPgn, zerosOf(rowAsSaid(logPgn))), impl.ErrState)
		}
	}
	for _, n := range wrongNodes() {
		refusedNode(t, "a Node that is not right", impl.NodeSend(n, positionPgn, position), impl.ErrForm)
		refusedNode(t, "neither is right", impl.NodeSend(n, positionPgn, nil), impl.ErrForm)
	}
	refusedNode(t, "a Node that is not right, and more than MaxList", impl.NodeSend(impl.Node{}, positionPgn, tooLong), impl.ErrSize)
}

// listening is a case of what a Node hears, and of what becomes of it.
type listening struct {
	what string
	n    impl.Node
	c    impl.Can
	want impl.Node
}

// listen fails for each case of which the answer is another one.
func listen(t *testing.T, cases []listening) {
	t.Helper()
	for _, x := range cases {
		answersNode(t, x.what, impl.NodeHear(x.n, x.c), x.want)
	}
}

// becomes is a Node with this Claim, these Cans in its Queue, and a Device of each of these behind the others.
func becomes(n impl.Node, c impl.Claim, cans []impl.Can, more ...impl.Device) impl.Node {
	n.Claim, n.Queue, n.Devices = c, queueOf(cans...), slices.Concat(n.Devices, more)
	return n
}

func TestNodeHearOfAClaimOfItsOwnAddr(t *testing.T) {
	n := busy()
	less, more, its := auto(lesser), auto(greater), auto(own)
	dLess, dMore := impl.Device{Name: less, Addr: 7}, impl.Device{Name: more, Addr: 7}
	w := fromSrcs(7, 0, 7, 8)
	notAuto, waiting := claims(holds(fixed(own), 7)), claims(waitsFor(9, its, 7))
	first := impl.Node{Claim: waits(its, 7), Queue: queueOf(claiming(7, its))}
	last := claims(holds(its, 251, 0))
	last.Queue = queueOf(ofSrc(251, 16)...)
	listen(t, []listening{
		{"a lesser Name's", n, claiming(7, less), becomes(n, waits(its, 8, 3, 7, 9), []impl.Can{w[1], w[3], claiming(8, its)}, dLess)},
		{"a greater Name's", n, claiming(7, more), becomes(n, holds(its, 7, 3, 7, 9), append(slices.Clone(w), claiming(7, its)), dMore)},
		{"a lesser Name's, while it waits", waiting, claiming(7, less), becomes(n, waits(its, 8, 7), []impl.Can{w[1], w[3], claiming(8, its)}, dLess)},
		{"a greater Name's, while it waits", waiting, claiming(7, more), becomes(n, waitsFor(9, its, 7, 7), append(slices.Clone(w), claiming(7, its)), dMore)},
		{"a lesser Name's, and it may not go", notAuto, claiming(7, fixed(lesser)),
			becomes(n, lost(fixed(own), 7), []impl.Can{w[1], w[3], claiming(254, fixed(own))}, impl.Device{Name: fixed(lesser), Addr: 7})},
		{"a greater Name's, and it may not go", notAuto, claiming(7, fixed(greater)),
			becomes(n, holds(fixed(own), 7, 7), append(slices.Clone(w), claiming(7, fixed(own))), impl.Device{Name: fixed(greater), Addr: 7})},
		{"a lesser Name's, just begun", first, claiming(7, less), becomes(first, waits(its, 8, 7), []impl.Can{claiming(8, its)}, dLess)},
		{"a greater Name's, just begun", first, claiming(7, more), becomes(first, waits(its, 7, 7), []impl.Can{claiming(7, its), claiming(7, its)}, dMore)},
		{"the last address, all waits by it", last, claiming(251, less),
			becomes(n, waits(its, 1, 0, 251), []impl.Can{claiming(1, its)}, impl.Device{Name: less, Addr: 251})},
		{"all others are taken", claims(holds(its, 7, allBut(7)...)), claiming(7, less),
			becomes(n, lost(its, span(0, 251)...), []impl.Can{w[1], w[3], claiming(254, its)}, dLess)},
	})
}

// Where the Node goes elsewhere, or stays: what was of the old Addr is out of the Queue ahead of the question whether there is room.
func TestNodeHearOfAClaimWithRoomAndWithNone(t *testing.T) {
	its := auto(own)
	dLess, dMore := impl.Device{Name: auto(lesser), Addr: 7}, impl.Device{Name: auto(greater), Addr: 7}
	for count := 0; count <= impl.MaxQueue; count++ {
		for mine := 0; mine <= count; mine++ {
			cans := slices.Concat(ofSrc(7, mine), ofSrc(9, count-mine))
			n := queues(cans...)
			stays, goes := slices.Clone(cans), slices.Clone(cans[mine:])
			if len(stays) < impl.MaxQueue {
				stays = append(stays, claiming(7, its))
			}
			if len(goes) < impl.MaxQueue {
				goes = append(goes, claiming(8, its))
			}
			listen(t, []listening{
				{"stays", n, claiming(7, auto(greater)), becomes(n, holds(its, 7, 3, 7, 9), stays, dMore)},
				{"goes", n, claiming(7, auto(lesser)), becomes(n, waits(its, 8, 3, 7, 9), goes, dLess)},
			})
		}
	}
}

func TestNodeHearOfAnotherClaim(t *testing.T) {
	n := busy()
	its, less := auto(own), auto(lesser)
	w := n.Queue.Cans
	at := func(name impl.Name, addr int64) impl.Device { return impl.Device{Name: name, Addr: addr} }
	out, away := claims(lost(its, 7)), claims(lost(fixed(own)))
	known := busyBut(func(n *impl.Node) { n.Devices = append(fleet(2), impl.Device{Name: its, Addr: 7, Age: 9}) })
	listen(t, []listening{
		{"another address, a lesser Name's", n, claiming(5, less), becomes(n, holds(its, 7, 3, 5, 9), w, at(less, 5))},
		{"another address, a greater Name's", n, claiming(12, auto(greater)), becomes(n, holds(its, 7, 3, 9, 12), w, at(auto(greater), 12))},
		{"one that is taken already", n, claiming(9, less), becomes(n, holds(its, 7, 3, 9), w, at(less, 9))},
		{"by its own Name, its own address", n, claiming(7, its), becomes(n, holds(its, 7, 3, 9), w, at(its, 7))},
		{"by its own Name, another address", n, claiming(12, its), becomes(n, holds(its, 7, 3, 9), w, at(its, 12))},
		{"by its own Name, from 254", known, claiming(254, its), becomes(busyBut(func(n *impl.Node) { n.Devices = fleet(2) }), n.Claim, w)},
		{"from 251", n, claiming(251, less), becomes(n, holds(its, 7, 3, 9, 251), w, at(less, 251))},
		{"from 252", n, claiming(252, less), n},
		{"from 253", n, claiming(253, less), n},
		{"from 254", n, claiming(254, less), n},
		{"from 255", n, claiming(255, less), n},
		{"from 255, all bits 1", n, claiming(255, impl.Name{Unique: 2097151}), n},
		{"while it is lost", out, claiming(7, less), becomes(n, lost(its, 7), w, at(less, 7))},
		{"while it is lost, another address", out, claiming(9, less), becomes(n, lost(its, 7, 9), w, at(less, 9))},
		{"while it is lost, from 254", out, claiming(254, less), out},
		{"while it is lost, from 254 by a greater Name", away, claiming(254, auto(greater)), away},
	})
	gone := busy()
	gone.Devices = []impl.Device{gone.Devices[0], gone.Devices[2]}
	for _, src := range []int64{252, 253, 254, 255} {
		answersNode(t, "who has no address any more is not there", impl.NodeHear(n, claiming(src, impl.Name{Unique: 20})), gone)
	}
	moved := busy()
	moved.Claim.Taken = []int64{1, 3, 9}
	moved.Devices[1] = device(20, 1, 0)
	answersNode(t, "who is there goes elsewhere", impl.NodeHear(n, claiming(1, impl.Name{Unique: 20})), moved)
	crowded := busyBut(func(n *impl.Node) { n.Devices = fleet(impl.MaxDevices) })
	answersNode(t, "no room for one more", impl.NodeHear(crowded, claiming(1, less)), becomes(crowded, holds(its, 7, 1, 3, 9), w))
}

// A claim is heard whatever its Prio, and whoever it is addressed to.
func TestNodeHearOfAClaimInOtherWords(t *testing.T) {
	n := busy()
	want := becomes(n, waits(auto(own), 8, 3, 7, 9), []impl.Can{n.Queue.Cans[1], n.Queue.Cans[3], claiming(8, auto(own))}, impl.Device{Name: auto(lesser), Addr: 7})
	for prio := range int64(8) {
		for _, dest := range []int64{0, 7, 8, 254, 255} {
			c := claiming(7, auto(lesser))
			c.Id = idAsBits(impl.Id{Prio: prio, Pgn: impl.ClaimPgn, Dest: dest, Src: 7})
			answersNode(t, fmt.Sprint("Prio ", prio, ", Dest ", dest), impl.NodeHear(n, c), want)
		}
	}
}

func TestNodeHearOfAClaimOfNoName(t *testing.T) {
	for _, n := range []impl.Node{busy(), claims(waits(auto(own), 7)), claims(lost(fixed(own)))} {
		for size := range 9 {
			for _, data := range []string{bytesOf(numberAsBits(auto(lesser)))[:size], filledWith(255, size), strings.Repeat("\x01", size)} {
				c := claiming(7, auto(lesser))
				c.Data = data
				if impl.NameFrom(data).Code != impl.OK {
					answersNode(t, fmt.Sprintf("%q", data), impl.NodeHear(n, c), n)
				}
			}
		}
		c := claiming(7, impl.Name{Class: 3})
		c.Data = c.Data[:6] + "\x07" + c.Data[7:]
		answersNode(t, "a bit that no Name has", impl.NodeHear(n, c), n)
		c.Data = "\x00\x00\x00\x00\x00\x00\x01"
		answersNode(t, "seven bytes", impl.NodeHear(n, c), n)
	}
}

// pushed is what is Got with one more behind it, and without the first one where there were MaxGot.
func pushed(l []impl.Got, g impl.Got) []impl.Got {
	l = append(slices.Clone(l), g)
	return l[max(0, len(l)-8):]
}

// Of each group of one Can: Data of its Size are Got, from whoever they are, and no others.
func TestNodeHearOfAShortGroup(t *testing.T) {
	for _, d := range defsAsSaid() {
		if d.Pgn == logPgn {
			continue
		}
		for _, c := range withState() {
			for size := range 9 {
				n := claims(c)
				data := bytesFrom(size, size)
				want := n
				if size == 8 {
					want.Got = pushed(n.Got, impl.Got{Src: 9, Pgn: d.Pgn, Data: data})
				}
				answersNode(t, fmt.Sprint(size, " bytes"), impl.NodeHear(n, frameOf(9, d.Pgn, data)), want)
			}
			refusedNode(t, "nine bytes", impl.NodeHear(claims(c), frameOf(9, d.Pgn, as(9))), impl.ErrForm)
		}
		for src := range int64(256) {
			for prio := range int64(8) {
				n := busy()
				c := impl.Can{Id: idAsBits(impl.Id{Prio: prio, Pgn: d.Pgn, Dest: 255, Src: src}), Data: "abcdefgh"}
				want := busyBut(func(n *impl.Node) { n.Got = pushed(n.Got, impl.Got{Src: src, Pgn: d.Pgn, Data: "abcdefgh"}) })
				answersNode(t, fmt.Sprint("Src ", src), impl.NodeHear(n, c), want)
			}
		}
	}
}

// For each count that was Got: one more stands behind the others, of which the first one goes if there are MaxGot.
func TestNodeHearOfOneMoreGot(t *testing.T) {
	for count := 0; count <= impl.MaxGot; count++ {
		n := gets(received(count)...)
		n.Table = []impl.Session{{Src: 9, Pgn: logPgn, Seq: 2, Next: 2, Size: 14, Data: "abcdefghijklm"}}
		short, long := n, n
		short.Got = pushed(n.Got, gotOf(9, windPgn, 'z'))
		answersNode(t, "of one frame", impl.NodeHear(n, frameOf(9, windPgn, "zzzzzzzz")), short)
		long.Got = pushed(n.Got, impl.Got{Src: 9, Pgn: logPgn, Data: "abcdefghijklmn"})
		long.Table = nil
		answersNode(t, "of more", impl.NodeHear(n, frameOf(9, logPgn, "\x42nopqrst")), long)
	}
	n := gets()
	var want []impl.Got
	for i := range 30 {
		g := gotOf(int64(i), enginePgn, byte(i))
		n = impl.NodeHear(n, frameOf(g.Src, g.Pgn, g.Data)).Node
		want = pushed(want, g)
		sameNode(t, "the last ones", n, gets(want...))
	}
	same(t, "MaxGot", len(n.Got), 8)
}

func TestNodeHearOfALongGroup(t *testing.T) {
	const data = "abcdefghijklmn"
	at := func(next int64) impl.Session {
		return impl.Session{Src: 25, Pgn: logPgn, Seq: 6, Next: next, Size: 14, Data: data[:7*next-1]}
	}
	others := open(3)
	cut := cutAsSaid(6, data)
	with := func(s impl.Session) []impl.Session { return []impl.Session{others[0], others[1], s, others[2]} }
	got := tables(others...)
	got.Got = pushed(got.Got, impl.Got{Src: 25, Pgn: logPgn, Data: data})
	listen(t, []listening{
		{"the first one", tables(others...), frameOf(25, logPgn, cut[0]), tables(with(at(1))...)},
		{"the next one", tables(with(aged(at(1), 9))...), frameOf(25, logPgn, cut[1]), tables(with(at(2))...)},
		{"the last one", tables(with(aged(at(2), 9))...), frameOf(25, logPgn, cut[2]), got},
		{"the first one again", tables(with(at(2))...), frameOf(25, logPgn, cut[0]), tables(with(at(1))...)},
		{"one is lost", tables(with(at(1))...), frameOf(25, logPgn, cut[2]), tables(others...)},
		{"one comes twice", tables(with(at(2))...), frameOf(25, logPgn, cut[1]), tables(others...)},
		{"one of another Seq", tables(with(at(1))...), frameOf(25, logPgn, cutAsSaid(5, data)[1]), tables(others...)},
		{"one of another Src", tables(with(at(2))...), frameOf(26, logPgn, cut[2]), tables(with(at(2))...)},
		{"nobody's, ErrNone", tables(others...), frameOf(25, logPgn, cut[1]), tables(others...)},
		{"nobody's, the last one, ErrNone", tables(others...), frameOf(25, logPgn, cut[2]), tables(others...)},
		{"of no bytes, ErrForm", tables(with(at(1))...), frameOf(25, logPgn, "\x40\x00abcdef"), tables(with(at(1))...)},
		{"of too many bytes, ErrForm", tables(with(at(1))...), frameOf(25, logPgn, "\x40\xe0abcdef"), tables(with(at(1))...)},
		{"one too many, ErrFull", tables(open(4)...), frameOf(25, logPgn, cut[0]), tables(open(4)...)},
		{"one of those that are there, where there are MaxSessions", tables(open(4)...), frameOf(40, logPgn, cut[0]),
			tables(append(open(3), impl.Session{Src: 40, Pgn: logPgn, Seq: 6, Next: 1, Size: 14, Data: data[:6]})...)},
	})
}

// What is whole but not of the group's Size is not Got, though its Session goes.
func TestNodeHearOfALongGroupOfAnotherSize(t *testing.T) {
	for size := 1; size <= impl.MaxFast; size++ {
		n := tables(open(3)...)
		data := bytesFrom(size, size)
		cut := impl.FastCut(3, data)
		for i, frame := range cut {
			out := impl.NodeHear(n, frameOf(25, logPgn, frame))
			want := n
			want.Table = impl.FastHear(n.Table, 25, logPgn, frame).Table
			if i == len(cut)-1 {
				want = tables(open(3)...)
			}
			if i == len(cut)-1 && size == 14 {
				want.Got = pushed(want.Got, impl.Got{Src: 25, Pgn: logPgn, Data: data})
			}
			answersNode(t, fmt.Sprint(size, " bytes"), out, want)
			n = out.Node
		}
	}
	listen(t, []listening{
		{"a short one, of a Src that has a Session", tables(open(3)...), frameOf(30, logPgn, "\x40\x06abcdef"), tables(open(2)...)},
		{"a short one, where there are MaxSessions", tables(open(4)...), frameOf(25, logPgn, "\x40\x06abcdef"), tables(open(4)...)},
	})
}

// A frame of a long group that has not eight bytes is not heard, wherever it stands.
func TestNodeHearOfALongGroupsFrameThatIsShort(t *testing.T) {
	cut := cutAsSaid(2, "abcdefghijklmn")
	for place, frame := range cut {
		n := tables(open(3)...)
		for _, ahead := range cut[:place] {
			n = impl.NodeHear(n, frameOf(25, logPgn, ahead)).Node
		}
		for size := range 8 {
			answersNode(t, fmt.Sprint(size, " bytes"), impl.NodeHear(n, frameOf(25, logPgn, frame[:size])), n)
		}
		refusedNode(t, "nine bytes", impl.NodeHear(n, frameOf(25, logPgn, frame+"x")), impl.ErrForm)
		refusedNode(t, "as many as its Size", impl.NodeHear(n, frameOf(25, logPgn, "abcdefghijklmn")), impl.ErrForm)
	}
}

// What is neither a claim nor of the table changes nothing, whoever it is addressed to.
func TestNodeHearOfAllElse(t *testing.T) {
	table := []impl.Session{{Src: 9, Pgn: 59904, Seq: 2, Next: 2, Size: 14, Data: "abcdefghijklm"}, session(9, 60928, 1, 14), session(9, 130000, 1, 14)}
	datas := []string{"", "a", "\x40\x0eabcdef", "\x42nopqrst", bytesOf(numberAsBits(auto(lesser)))}
	pgns := append(noPgns(), 0, 256, 59904, 60416, 60928-256, 60928+256, 61184, 61440, 65535, 65536, 65536+60928, 126208, 130000, impl.MaxPgn)
	heard := 0
	for _, pgn := range pgns {
		for _, dest := range []int64{0, 7, 9, 254, 255} {
			x := impl.Id{Prio: 6, Pgn: pgn, Dest: dest, Src: 7}
			if pgn == impl.ClaimPgn || !impl.IdRight(x) {
				continue
			}
			for _, data := range datas {
				x.Src = 7 + int64(len(data)/4) // of its own Addr, of another one's, of one that has Sessions
				heard++
				answersNode(t, shown(x), impl.NodeHear(tables(table...), impl.Can{Id: idAsBits(x), Data: data}), tables(table...))
			}
		}
	}
	same(t, "many are heard", heard > 200, true)
}

func TestNodeHearRefuses(t *testing.T) {
	for _, n := range wrongNodes() {
		refusedNode(t, "a Node that is not right, a claim", impl.NodeHear(n, claiming(7, auto(lesser))), impl.ErrForm)
		refusedNode(t, "a Node that is not right, a group", impl.NodeHear(n, frameOf(9, windPgn, "abcdefgh")), impl.ErrForm)
		refusedNode(t, "a Node that is not right, all else", impl.NodeHear(n, impl.Can{}), impl.ErrForm)
		refusedNode(t, "neither is right", impl.NodeHear(n, impl.Can{Id: -1}), impl.ErrForm)
	}
	long := claiming(7, auto(lesser))
	long.Data += "\x00"
	for _, c := range append(wrongCans(), long, frameOf(9, logPgn, as(14)), frameOf(9, windPgn, as(9))) {
		refusedNode(t, shown(c), impl.NodeHear(busy(), c), impl.ErrForm)
		refusedNode(t, shown(c), impl.NodeHear(impl.Node{Claim: lost(auto(own))}, c), impl.ErrForm)
	}
}

// older are Devices so many ticks later, none of which is silent too long.
func older(l []impl.Device, ticks int64) []impl.Device {
	l = slices.Clone(l)
	for i := range l {
		l[i].Age += ticks
	}
	return l
}

func TestNodeTick(t *testing.T) {
	n := busy()
	want := n
	want.Table = []impl.Session{aged(n.Table[0], 2), aged(n.Table[1], 3), aged(n.Table[2], 4)}
	want.Devices = older(n.Devices, 1)
	answersNode(t, "a tick", impl.NodeTick(n), want)
	for _, c := range rightClaims() {
		ticks := claims(c)
		want.Claim = impl.ClaimTick(c).Claim
		answersNode(t, "a tick", impl.NodeTick(ticks), want)
	}
	want.Claim = holds(auto(own), 7, 3)
	answersNode(t, "who has waited long enough", impl.NodeTick(claims(waitsFor(1, auto(own), 7, 3))), want)
	want.Claim = waitsFor(1, auto(own), 7, 3)
	answersNode(t, "who has not", impl.NodeTick(claims(waitsFor(2, auto(own), 7, 3))), want)
	silent := impl.Node{Claim: holds(auto(own), 7), Devices: []impl.Device{device(1, 5, 599), device(2, 6, 600), device(3, 7, 0)},
		Table: []impl.Session{aged(session(1, 2, 1, 9), 750), aged(session(1, 3, 1, 9), 749), aged(session(2, 2, 1, 9), 0)}}
	answersNode(t, "who is silent too long goes", impl.NodeTick(silent), impl.Node{Claim: holds(auto(own), 7),
		Devices: []impl.Device{device(1, 5, 600), device(3, 7, 1)}, Table: []impl.Session{aged(session(1, 3, 1, 9), 750), aged(session(2, 2, 1, 9), 1)}})
	for _, n := range wrongNodes() {
		refusedNode(t, "a Node that is not right", impl.NodeTick(n), impl.ErrForm)
	}
}

// ticking is a Node so many ticks later.
func ticking(t *testing.T, n impl.Node, ticks int) impl.Node {
	t.Helper()
	for range ticks {
		out := impl.NodeTick(n)
		same(t, "the tick's Code", out.Code, impl.OK)
		n = out.Node
	}
	return n
}

func TestANodeSendsOnceItHolds(t *testing.T) {
	position := zerosOf(rowAsSaid(positionPgn))
	n := ticking(t, impl.NodeNew(auto(own), 7).Node, impl.Quiet-1)
	refusedNode(t, "not yet", impl.NodeSend(n, positionPgn, position), impl.ErrState)
	n = impl.NodeSend(ticking(t, n, 1), positionPgn, position).Node
	sameCans(t, "sent", n.Queue.Cans, []impl.Can{claiming(7, auto(own)), frameOf(7, positionPgn, filledWith(0, 8))})
	n = impl.NodeHear(n, claiming(7, auto(lesser))).Node
	sameCans(t, "it goes elsewhere, and only claims that", n.Queue.Cans, []impl.Can{claiming(8, auto(own))})
	refusedNode(t, "not any more", impl.NodeSend(n, positionPgn, position), impl.ErrState)
	n = impl.NodeSend(ticking(t, n, impl.Quiet), positionPgn, position).Node
	sameCans(t, "sent by the other one", n.Queue.Cans, []impl.Can{claiming(8, auto(own)), frameOf(8, positionPgn, filledWith(0, 8))})
	sameDevices(t, "who has the old one", n.Devices, []impl.Device{{Name: auto(lesser), Addr: 7, Age: impl.Quiet}})
	n = ticking(t, n, impl.MaxSilent)
	sameDevices(t, "is silent too long", n.Devices, nil)
	f := ticking(t, impl.NodeNew(fixed(own), 7).Node, impl.Quiet)
	f = impl.NodeHear(impl.NodeSend(f, positionPgn, position).Node, claiming(7, fixed(lesser))).Node
	sameCans(t, "it has lost, and tells that alone", f.Queue.Cans, []impl.Can{claiming(254, fixed(own))})
	refusedNode(t, "never again", impl.NodeSend(ticking(t, f, 2*impl.Quiet), positionPgn, position), impl.ErrState)
}

// hearsAsSaid is a Node that has heard a right Can, put together of the models of its parts.
func hearsAsSaid(n impl.Node, c impl.Can) impl.Node {
	pgn, src := c.Id>>8&131071, c.Id&255
	if pgn>>8 == 238 {
		name := impl.NameFrom(c.Data)
		if name.Code != impl.OK {
			return n
		}
		claim := likeAModel(n.Claim, src, name.Name)
		n.Devices = hearsLikeASet(n.Devices, src, name.Name)
		if claim.Claim.Addr != n.Claim.Addr {
			n.Queue.Cans = slices.DeleteFunc(slices.Clone(n.Queue.Cans), func(c impl.Can) bool { return c.Id&255 == n.Claim.Addr })
		}
		if claim.Send && len(n.Queue.Cans) < 16 {
			n.Queue.Cans = append(slices.Clone(n.Queue.Cans), claiming(claim.Claim.Addr, claim.Claim.Name))
		}
		n.Claim = claim.Claim
		return n
	}
	data := c.Data
	if pgn == logPgn && len(data) == 8 {
		out := hearsLikeAModel(n.Table, src, pgn, data)
		if out.Code == impl.OK {
			n.Table = out.Table
		}
		data = out.Data
	}
	for _, d := range defsAsSaid() {
		if d.Pgn == pgn && d.Size == int64(len(data)) {
			n.Got = pushed(n.Got, impl.Got{Src: src, Pgn: pgn, Data: data})
		}
	}
	return n
}

// heardAtRandom is a Can as others may send it: a claim, often of the Node's own address, a group's or a long group's frame.
func heardAtRandom(r *rand.Rand, n impl.Node) impl.Can {
	src := r.Int63n(256)
	switch r.Intn(8) {
	case 0:
		return claiming(src, impl.Name{Unique: r.Int63n(40), Auto: r.Intn(2) == 0})
	case 1:
		return claiming(n.Claim.Addr, impl.Name{Unique: r.Int63n(40), Auto: r.Intn(2) == 0})
	case 2:
		return frameOf(src, windPgn, bytesFrom(r.Intn(256), r.Intn(9)))
	case 3:
		return impl.Can{Id: idAsBits(impl.Id{Prio: r.Int63n(8), Pgn: 59904, Dest: r.Int63n(256), Src: src}), Data: "abc"}
	}
	src %= 5
	if at, there := standsAt(n.Table, src, logPgn); there && r.Intn(9) > 0 {
		s := n.Table[at]
		return frameOf(src, logPgn, string([]byte{byte(32*s.Seq + s.Next)})+bytesFrom(r.Intn(256), 7))
	}
	return frameOf(src, logPgn, string([]byte{byte(32 * r.Intn(8)), byte(12 + r.Intn(4))})+"abcdef")
}

// onlyAsItself fails if in a Node's Queue is what is not of its own Addr, or neither its claim nor sent by an address that it holds.
func onlyAsItself(t *testing.T, n impl.Node) {
	t.Helper()
	for _, c := range n.Queue.Cans {
		same(t, "its own Addr", c.Id&255, n.Claim.Addr)
		if c.Id>>16&511 == 238 {
			same(t, "its own claim", c, claiming(n.Claim.Addr, n.Claim.Name))
		} else {
			same(t, "it holds its Addr", n.Claim.State, impl.ClHeld)
		}
	}
}

// Nodes that send, hear, tick and give out at random: each answer is as said, and all that ever waits is of an address that the Node has.
func TestANodeSendsOnlyByAnAddressThatItHolds(t *testing.T) {
	r := rand.New(rand.NewSource(51))
	sends, moves, gots := 0, 0, 0
	for range 20 {
		n := impl.NodeNew(impl.Name{Unique: 20 + r.Int63n(20), Auto: r.Intn(8) > 0}, r.Int63n(252)).Node
		for range 1000 {
			if t.Failed() {
				return // all that follows would be wrong as well
			}
			onlyAsItself(t, n)
			ahead := copyOf(n)
			var next impl.Node
			switch r.Intn(8) {
			case 0:
				next = ticking(t, n, r.Intn(3)*r.Intn(200))
			case 1:
				next = n
				next.Queue = impl.QueueClear(n.Queue, []int64{n.Claim.Addr, 255}[r.Intn(2)])
			case 2, 3:
				d := defsAsSaid()[r.Intn(6)]
				l := somewhere(r, d)
				out := impl.NodeSend(n, d.Pgn, l)
				next = sendsAsSaid(t, n, d, l, out)
				sends += len(next.Queue.Cans) - len(n.Queue.Cans)
			default:
				c := heardAtRandom(r, n)
				next = impl.NodeHear(n, c).Node
				sameNode(t, "heard "+shown(c), next, hearsAsSaid(n, c))
			}
			sameNode(t, "what was handed in", n, ahead)
			same(t, "right", impl.NodeRight(next), true)
			if next.Claim.Addr != n.Claim.Addr {
				moves++
			}
			if len(next.Got) != len(n.Got) || len(n.Got) > 0 && next.Got[len(next.Got)-1] != n.Got[len(n.Got)-1] {
				gots++
			}
			n = next
		}
	}
	same(t, "much is sent, heard, and gone away from", sends > 1000 && moves > 300 && gots > 300, true)
}

// sendsAsSaid fails if an answer to what is sent is another one; it is the Node from which all goes on.
func sendsAsSaid(t *testing.T, n impl.Node, d impl.Def, l []impl.Value, out impl.NodeOut) impl.Node {
	t.Helper()
	cans := cansAsSaid(d, n.Claim.Addr, n.Seq, l)
	if n.Claim.State != 2 {
		refusedNode(t, "not held", out, impl.ErrState)
		return n
	}
	if len(n.Queue.Cans)+len(cans) > 16 {
		refusedNode(t, "no room", out, impl.ErrFull)
		return n
	}
	want := n
	want.Queue.Cans = slices.Concat(n.Queue.Cans, cans)
	if len(cans) > 1 {
		want.Seq = (n.Seq + 1) % 8
	}
	answersNode(t, "sent", out, want)
	return out.Node
}

// copyOf is a Node whose lists are new ones.
func copyOf(n impl.Node) impl.Node {
	n.Claim.Taken = slices.Clone(n.Claim.Taken)
	n.Queue.Cans = slices.Clone(n.Queue.Cans)
	n.Table = slices.Clone(n.Table)
	n.Devices = slices.Clone(n.Devices)
	n.Got = slices.Clone(n.Got)
	return n
}

// spacyNode is a Node whose lists have room behind them.
func spacyNode(n impl.Node) impl.Node {
	n.Claim.Taken = spacious(n.Claim.Taken)
	n.Queue.Cans = roomy(n.Queue.Cans)
	n.Table = ample(n.Table)
	n.Devices = spare(n.Devices, device(77, 77, 77))
	n.Got = spare(n.Got, impl.Got{Src: 77, Data: "behind"})
	return n
}

// withRoom is a Node with what stands in the room behind its lists.
func withRoom(n impl.Node) impl.Node {
	n.Claim.Taken = n.Claim.Taken[:cap(n.Claim.Taken)]
	n.Queue.Cans = n.Queue.Cans[:cap(n.Queue.Cans)]
	n.Table = n.Table[:cap(n.Table)]
	n.Devices = n.Devices[:cap(n.Devices)]
	n.Got = n.Got[:cap(n.Got)]
	return n
}

// ruinedNode turns all of a Node's lists, and the room behind them.
func ruinedNode(n impl.Node) {
	turned(n.Claim.Taken)
	overwritten(n.Queue.Cans)
	spoiled(n.Table)
	ruined(n.Devices, device(-9, -9, -9))
	ruined(n.Got, impl.Got{Src: -9, Data: "turned"})
}

// nodeAnswers are answers of each kind, of a Node that is handed in.
func nodeAnswers(n impl.Node) []impl.Node {
	heard := []impl.Can{
		claiming(7, auto(lesser)), claiming(7, auto(greater)), claiming(5, auto(lesser)), claiming(3, auto(lesser)),
		claiming(7, auto(own)), claiming(254, auto(lesser)), claiming(100, impl.Name{Unique: 20}), claiming(255, impl.Name{Unique: 10}),
		{Id: claiming(7, auto(own)).Id, Data: "abc"},
		frameOf(9, windPgn, "abcdefgh"), frameOf(9, windPgn, "abc"), frameOf(9, logPgn, "abc"),
		frameOf(20, logPgn, "\x42ghijklm"), frameOf(20, logPgn, "\x43ghijklm"), frameOf(25, logPgn, "\x40\x0eabcdef"),
		frameOf(30, logPgn, "\x40\x0eabcdef"), frameOf(25, logPgn, "\x40\x02abcdef"), frameOf(25, logPgn, "\x41ghijklm"),
		frameOf(40, logPgn, "\x42nopqrst"), {}, {Id: -1},
	}
	l := []impl.Node{impl.NodeTick(n).Node}
	for _, c := range heard {
		l = append(l, impl.NodeHear(n, c).Node)
	}
	for _, d := range defsAsSaid() {
		l = append(l, impl.NodeSend(n, d.Pgn, zerosOf(d)).Node, impl.NodeSend(n, d.Pgn, nil).Node)
	}
	return l
}

// sharingNodes are Nodes to be handed in: with much, with as much as may be, with nothing, in each State, and one that is not right.
func sharingNodes() []impl.Node {
	full := impl.Node{Claim: holds(auto(own), 7, span(0, 251)...), Queue: queueOf(ofSrc(9, impl.MaxQueue)...), Devices: fleet(impl.MaxDevices),
		Table: append(open(3), impl.Session{Src: 40, Pgn: logPgn, Seq: 2, Next: 2, Size: 14, Data: "abcdefghijklm"}), Got: received(impl.MaxGot), Seq: 7}
	l := []impl.Node{busy(), full, {Claim: holds(auto(own), 7)}, busyBut(func(n *impl.Node) { n.Seq = 8 })}
	for _, c := range withState() {
		l = append(l, claims(c))
	}
	return l
}

func TestNodesHandedInAreNotChanged(t *testing.T) {
	for _, given := range sharingNodes() {
		n := spacyNode(given)
		kept := copyOf(withRoom(n))
		want := nodeAnswers(copyOf(given))
		got := nodeAnswers(n)
		impl.NodeRight(n)
		sameNode(t, "changed", withRoom(n), kept)
		for _, answer := range nodeAnswers(n) {
			ruinedNode(answer)
			sameNode(t, "given out", withRoom(n), kept)
		}
		ruinedNode(n)
		for i := range got {
			sameNode(t, "what was answered stays", got[i], want[i])
			ruinedNode(got[i])
			for j := i + 1; j < len(got); j++ {
				sameNode(t, "shared with another answer", got[j], want[j])
			}
		}
	}
}

// What is handed in as an answer of before stays as well, and Values are left alone.
func TestNodesAnsweredStay(t *testing.T) {
	n := impl.NodeNew(auto(own), 7).Node
	again := impl.NodeNew(auto(own), 7).Node
	var ahead, kept []impl.Node
	for step := range 60 {
		ahead, kept = append(ahead, n), append(kept, copyOf(n))
		switch step % 6 {
		case 0:
			n = ticking(t, n, impl.Quiet)
		case 5:
			n = impl.NodeHear(n, claiming(n.Claim.Addr, impl.Name{Unique: int64(step)})).Node
		case 1:
			l := spare(zerosOf(rowAsSaid(logPgn)), noNumber(9))
			values := slices.Clone(l[:cap(l)])
			n = impl.NodeSend(n, logPgn, l).Node
			same(t, "the Values stay", slices.Equal(l[:cap(l)], values), true)
			ruined(l, number(-9))
		case 2, 3, 4:
			n = impl.NodeHear(n, frameOf(33, logPgn, cutAsSaid(4, "abcdefghijklmn")[step%6-2])).Node
		}
		same(t, "right", impl.NodeRight(n), true)
	}
	same(t, "it has heard", len(n.Got), impl.MaxGot)
	ruinedNode(n)
	for i := len(ahead) - 1; i >= 0; i-- {
		sameNode(t, "an answer of before", ahead[i], kept[i])
		ruinedNode(ahead[i])
	}
	sameNode(t, "another new one", again, impl.Node{Claim: waits(auto(own), 7), Queue: queueOf(claiming(7, auto(own)))})
}

// textsOf are all the Data that a Node has.
func textsOf(n impl.Node) []string {
	var l []string
	for _, c := range n.Queue.Cans {
		l = append(l, c.Data)
	}
	for _, s := range n.Table {
		l = append(l, s.Data)
	}
	for _, g := range n.Got {
		l = append(l, g.Data)
	}
	return l
}

func TestNodeDataIsNewMemory(t *testing.T) {
	text := strings.Clone(bytesFrom(0, 13*4+8*4+6*8) + "abcdefgh\x42nopqrst\x40\x0eabcdef")
	n := busyBut(func(n *impl.Node) { n.Got = received(4); n.Table = open(4) })
	n.Got = []impl.Got{gotOf(1, windPgn, 0), gotOf(2, windPgn, 0), gotOf(3, enginePgn, 0), gotOf(4, depthPgn, 0)}
	for i := range 4 {
		n.Table[i].Data = text[13*i : 13*i+13]
		n.Got[i].Data = text[52+8*i : 60+8*i]
		n.Queue.Cans[i].Data = text[84+6*i : 90+6*i]
	}
	n.Table[3].Size = 14
	same(t, "right", impl.NodeRight(n), true)
	short, last, begins := text[132:140], text[140:148], text[148:]
	answers := []impl.Node{
		impl.NodeTick(n).Node, impl.NodeSend(n, windPgn, zerosOf(rowAsSaid(windPgn))).Node, impl.NodeSend(n, logPgn, zerosOf(rowAsSaid(logPgn))).Node,
		impl.NodeHear(n, frameOf(9, windPgn, short)).Node, impl.NodeHear(n, frameOf(40, logPgn, last)).Node, impl.NodeHear(n, frameOf(30, logPgn, last)).Node,
		impl.NodeHear(n, frameOf(10, logPgn, begins)).Node, impl.NodeHear(n, claiming(7, auto(lesser))).Node, impl.NodeHear(n, impl.Can{}).Node,
	}
	for i, answer := range answers {
		texts := textsOf(answer)
		same(t, "how many", len(texts) >= 11, true)
		for _, data := range texts {
			if shares(text, data) {
				t.Errorf("answer %d shares memory with what was handed in: %q", i, data)
			}
		}
	}
	same(t, "a short one is Got", answers[3].Got[4].Data, short)
	same(t, "a long one is Got", answers[4].Got[4].Data, text[39:52]+last[1:2])
}
