package tests

import (
	"fmt"
	"math"
	"math/rand"
	"slices"
	"strings"
	"testing"

	"loop.example/g00628/impl"
)

// busOf is a Bus of these Nodes.
func busOf(l ...impl.Node) impl.Bus {
	return impl.Bus{Nodes: l}
}

// sameBus fails if a Bus is not the one that is asked for; an empty list and none are the same.
func sameBus(t *testing.T, what string, got impl.Bus, want impl.Bus) {
	t.Helper()
	same(t, what+", how many Nodes", len(got.Nodes), len(want.Nodes))
	for i := range min(len(got.Nodes), len(want.Nodes)) {
		sameNode(t, fmt.Sprint(what, ", Node ", i), got.Nodes[i], want.Nodes[i])
	}
}

// answersBus fails if an answer is not that one, or is OK with a Bus that is not right.
func answersBus(t *testing.T, what string, got impl.BusOut, want impl.BusOut) {
	t.Helper()
	same(t, what+", the Code", got.Code, want.Code)
	same(t, what+", From", got.From, want.From)
	sameBus(t, what, got.Bus, want.Bus)
	same(t, what+", right", impl.BusRight(got.Bus), true)
}

// sentBy is the answer of a slot in which the Node of that number has sent.
func sentBy(from int64, l ...impl.Node) impl.BusOut {
	return impl.BusOut{Bus: busOf(l...), From: from}
}

// refusedBus fails if an answer is not that code, and nothing beside it.
func refusedBus(t *testing.T, what string, got impl.BusOut, code int64) {
	t.Helper()
	answersBus(t, what, got, impl.BusOut{Code: code})
}

// crew are so many busy Nodes, each of a Name and an address of its own, which they hold, with nothing that waits.
func crew(n int) []impl.Node {
	var l []impl.Node
	for i := range int64(n) {
		node := busy()
		node.Claim = holds(auto(own+i), 40+i, 3, 9)
		node.Queue = impl.Queue{}
		l = append(l, node)
	}
	return l
}

// waitingAt are the Nodes of a crew, with these Cans in the Queue of one of them.
func waitingAt(l []impl.Node, at int, cans ...impl.Can) []impl.Node {
	l = slices.Clone(l)
	l[at].Queue = queueOf(cans...)
	return l
}

// wind is a Can of windPgn of which each byte is that one.
func wind(src int64, b byte) impl.Can {
	return frameOf(src, windPgn, filledWith(b, 8))
}

// hasGot is a Node that has got one more.
func hasGot(n impl.Node, src int64, pgn int64, data string) impl.Node {
	n.Got = pushed(n.Got, impl.Got{Src: src, Pgn: pgn, Data: data})
	return n
}

// slotAsSaid is what is answered of a right Bus: all that waits is gone through, Node by Node.
func slotAsSaid(b impl.Bus, drop []int64) impl.BusOut {
	from, place := -1, -1
	for i, n := range b.Nodes {
		for j, c := range n.Queue.Cans {
			if from < 0 || c.Id < b.Nodes[from].Queue.Cans[place].Id {
				from, place = i, j
			}
		}
	}
	if from < 0 {
		return impl.BusOut{Code: 6}
	}
	goes := b.Nodes[from].Queue.Cans[place]
	nodes := slices.Clone(b.Nodes)
	for i, n := range nodes {
		switch {
		case i == from:
			nodes[i].Queue.Cans = slices.Delete(slices.Clone(n.Queue.Cans), place, place+1)
		case i >= len(drop) || drop[i] < 1:
			nodes[i] = hearsAsSaid(n, goes)
		}
	}
	return sentBy(int64(from), nodes...)
}

// ticksAsSaid is a right Node a tick later.
func ticksAsSaid(n impl.Node) impl.Node {
	if n.Claim.State == 1 {
		n.Claim.Left--
		n.Claim.State = 2 - min(n.Claim.Left, 1)
	}
	table, devices := n.Table, n.Devices
	n.Table, n.Devices = nil, nil
	for _, s := range table {
		if s.Age < 750 {
			n.Table = append(n.Table, aged(s, s.Age+1))
		}
	}
	for _, d := range devices {
		if d.Age < 600 {
			n.Devices = append(n.Devices, older([]impl.Device{d}, 1)...)
		}
	}
	return n
}

// tickAsSaid is a right Bus a tick later.
func tickAsSaid(b impl.Bus) impl.Bus {
	nodes := slices.Clone(b.Nodes)
	for i, n := range nodes {
		nodes[i] = ticksAsSaid(n)
	}
	return busOf(nodes...)
}

// runAsSaid is a right Bus so many ticks later, with at most 64 slots in each.
func runAsSaid(b impl.Bus, ticks int64) impl.BusOut {
	for range ticks {
		b = tickAsSaid(b)
		for range 64 {
			out := slotAsSaid(b, nil)
			if out.Code != 0 {
				break
			}
			b = out.Bus
		}
	}
	return impl.BusOut{Bus: b}
}

// queued is how many Cans wait in all of a Bus.
func queued(b impl.Bus) int {
	count := 0
	for _, n := range b.Nodes {
		count += len(n.Queue.Cans)
	}
	return count
}

// wrongBuses are Buses of which one Node alone is not right, each beside so many others as may be, and some of too many Nodes.
func wrongBuses() []impl.Bus {
	var l []impl.Bus
	for i, wrong := range wrongNodes() {
		nodes := crew(1 + i%impl.MaxNodes)
		nodes[i/impl.MaxNodes%len(nodes)] = wrong
		l = append(l, busOf(nodes...))
	}
	for count := 1; count <= impl.MaxNodes; count++ {
		for place := range count {
			for _, turn := range []func(n *impl.Node){
				func(n *impl.Node) { n.Claim.Left = 1 },
				func(n *impl.Node) { n.Queue = queueOf(numbered(impl.MaxQueue + 1)...) },
				func(n *impl.Node) { n.Table = open(impl.MaxSessions + 1) },
				func(n *impl.Node) { n.Devices = fleet(impl.MaxDevices + 1) },
				func(n *impl.Node) { n.Got = received(impl.MaxGot + 1) },
				func(n *impl.Node) { n.Seq = 8 },
				func(n *impl.Node) { *n = impl.Node{} },
			} {
				nodes := crew(count)
				turn(&nodes[place])
				l = append(l, busOf(nodes...))
			}
		}
	}
	for _, count := range []int{impl.MaxNodes + 1, impl.MaxNodes + 2, 2 * impl.MaxNodes, 64} {
		l = append(l, busOf(crew(count)...))
	}
	return append(l,
		busOf(make([]impl.Node, impl.MaxNodes)...), busOf(make([]impl.Node, impl.MaxNodes+1)...),
		busOf(slices.Repeat(crew(1), impl.MaxList)...), busOf(slices.Repeat(crew(1), impl.MaxList+1)...))
}

func TestBusNumbersAsSaid(t *testing.T) {
	same(t, "MaxNodes", impl.MaxNodes, 4)
	same(t, "ErrForm, ErrSize and ErrNone", [3]int64{impl.ErrForm, impl.ErrSize, impl.ErrNone}, [3]int64{1, 2, 6})
}

func TestBusRight(t *testing.T) {
	same(t, "of none", impl.BusRight(impl.Bus{}), true)
	same(t, "of an empty list", impl.BusRight(impl.Bus{Nodes: []impl.Node{}}), true)
	for count := range impl.MaxNodes + 1 {
		same(t, "a crew", impl.BusRight(busOf(crew(count)...)), true)
		same(t, "all alike", impl.BusRight(busOf(slices.Repeat(crew(1), count)...)), true)
	}
	for i, n := range rightNodes() {
		nodes := crew(impl.MaxNodes)
		nodes[i%impl.MaxNodes] = n
		same(t, shown(n), impl.BusRight(busOf(n)), true)
		same(t, shown(n), impl.BusRight(busOf(nodes...)), true)
	}
	for _, b := range wrongBuses() {
		same(t, shown(b), impl.BusRight(b), false)
	}
}

// noTicks are numbers of ticks that no run has.
func noTicks() []int64 {
	return []int64{-1, 1201, -2, -1200, 1202, 2400, 1 << 32, 1<<32 + 1, math.MinInt64, math.MaxInt64}
}

func TestBusRefusesWhatIsNotRight(t *testing.T) {
	tooLong := make([]int64, impl.MaxList+1)
	for _, b := range wrongBuses() {
		refusedBus(t, "a slot", impl.BusSlot(b, nil), impl.ErrForm)
		refusedBus(t, "a slot, with a drop of MaxList", impl.BusSlot(b, tooLong[1:]), impl.ErrForm)
		refusedBus(t, "a slot, with a drop of more", impl.BusSlot(b, tooLong), impl.ErrSize)
		refusedBus(t, "a tick", impl.BusTick(b), impl.ErrForm)
		for _, ticks := range []int64{-1, 0, 1, 1200, 1201} {
			refusedBus(t, "a run", impl.BusRun(b, ticks), impl.ErrForm)
		}
	}
}

func TestBusSlotRefuses(t *testing.T) {
	for count := range impl.MaxNodes + 1 {
		b := busOf(crew(count)...)
		for _, size := range []int{0, 1, impl.MaxNodes, impl.MaxNodes + 1, impl.MaxList} {
			refusedBus(t, "nothing waits", impl.BusSlot(b, make([]int64, size)), impl.ErrNone)
			refusedBus(t, "nothing waits, all is dropped", impl.BusSlot(b, slices.Repeat([]int64{1}, size)), impl.ErrNone)
		}
		for _, size := range []int{impl.MaxList + 1, impl.MaxList + 2, 2 * impl.MaxList} {
			refusedBus(t, "a drop that is too long, nothing waits", impl.BusSlot(b, make([]int64, size)), impl.ErrSize)
			if count > 0 {
				refusedBus(t, "a drop that is too long", impl.BusSlot(busOf(waitingAt(crew(count), count-1, wind(40, 1))...), make([]int64, size)), impl.ErrSize)
			}
		}
	}
	b := busOf(waitingAt(crew(3), 1, wind(41, 1))...)
	want := slotAsSaid(b, nil)
	answersBus(t, "a drop of MaxList", impl.BusSlot(b, make([]int64, impl.MaxList)), want)
	refusedBus(t, "of a Bus that is not right, nothing waits", impl.BusSlot(busOf(impl.Node{}), nil), impl.ErrForm)
	refusedBus(t, "of too many Nodes, nothing waits", impl.BusSlot(busOf(crew(5)...), nil), impl.ErrForm)
}

func TestBusRunRefuses(t *testing.T) {
	for count := range impl.MaxNodes + 1 {
		b := busOf(crew(count)...)
		for _, ticks := range noTicks() {
			refusedBus(t, fmt.Sprint(ticks, " ticks"), impl.BusRun(b, ticks), impl.ErrForm)
		}
	}
	refusedBus(t, "something waits", impl.BusRun(busOf(waitingAt(crew(2), 1, wind(41, 1))...), 1201), impl.ErrForm)
}

// slotting is a case of what goes in a slot, and of what becomes of the Bus.
type slotting struct {
	what string
	b    impl.Bus
	drop []int64
	want impl.BusOut
}

// goesInSlots fails for each case of which the answer is another one.
func goesInSlots(t *testing.T, cases []slotting) {
	t.Helper()
	for _, x := range cases {
		answersBus(t, x.what, impl.BusSlot(x.b, x.drop), x.want)
		answersBus(t, x.what+", by the model", slotAsSaid(x.b, x.drop), x.want)
	}
}

func TestBusSlotSendsTheLeast(t *testing.T) {
	c := crew(4)
	a, b := filledWith(1, 8), filledWith(2, 8)
	one, two := wind(7, 1), wind(7, 2)
	depth := frameOf(7, depthPgn, a)
	// Wherever it goes, each other one gets it.
	all := func(from int, pgn int64, data string) []impl.Node {
		var l []impl.Node
		for i, n := range c {
			if i != from {
				n = hasGot(n, 7, pgn, data)
			}
			l = append(l, n)
		}
		return l
	}
	both := waitingAt(waitingAt(c, 1, one), 2, two)
	goesInSlots(t, []slotting{
		{"one Node alone", busOf(waitingAt(c[:1], 0, one)...), nil, sentBy(0, c[0])},
		{"one Node alone has something, the first one", busOf(waitingAt(c, 0, one)...), nil, sentBy(0, all(0, windPgn, a)...)},
		{"one Node alone has something, the last one", busOf(waitingAt(c, 3, one)...), nil, sentBy(3, all(3, windPgn, a)...)},
		{"of one and the same least Id", busOf(both...), nil, sentBy(1, waitingAt(all(1, windPgn, a), 2, two)...)},
		{"of one and the same least Id, the other way round", busOf(waitingAt(waitingAt(c, 1, two), 2, one)...), nil,
			sentBy(1, waitingAt(all(1, windPgn, b), 2, one)...)},
		{"all of one and the same Id", busOf(waitingAt(waitingAt(both, 0, two), 3, one)...), nil,
			sentBy(0, waitingAt(waitingAt(waitingAt(all(0, windPgn, b), 1, one), 2, two), 3, one)...)},
		{"the least behind others", busOf(waitingAt(waitingAt(c, 0, depth), 2, depth, one, two)...), nil,
			sentBy(2, waitingAt(waitingAt(all(2, windPgn, a), 0, depth), 2, depth, two)...)},
		{"two of the least in one Queue", busOf(waitingAt(c, 1, depth, two, one)...), nil,
			sentBy(1, waitingAt(all(1, windPgn, b), 1, depth, one)...)},
		{"the least is the last Node's", busOf(waitingAt(waitingAt(waitingAt(waitingAt(c, 0, depth), 1, depth, depth), 2, depth), 3, two)...), nil,
			sentBy(3, waitingAt(waitingAt(waitingAt(all(3, windPgn, b), 0, depth), 1, depth, depth), 2, depth)...)},
		{"a greater Pgn of a lesser Prio", busOf(waitingAt(waitingAt(c, 0, depth), 1, one)...), nil,
			sentBy(1, waitingAt(all(1, windPgn, a), 0, depth)...)},
	})
}

// A lesser address goes ahead of a greater one, all else alike, whatever the order of the Nodes.
func TestBusSlotOfUnlikeSrcs(t *testing.T) {
	c := crew(4)
	for _, srcs := range [][]int64{{1, 2, 3, 4}, {4, 3, 2, 1}, {2, 255, 0, 255}, {9, 9, 8, 9}} {
		nodes := slices.Clone(c)
		for i, src := range srcs {
			nodes[i].Queue = queueOf(wind(src, byte(i)))
		}
		from := slices.Index(srcs, slices.Min(srcs))
		out := impl.BusSlot(busOf(nodes...), nil)
		same(t, "From", out.From, int64(from))
		answersBus(t, "the least Src", out, slotAsSaid(busOf(nodes...), nil))
	}
}

func TestBusSlotDrops(t *testing.T) {
	c := crew(4)
	b := busOf(waitingAt(c, 1, wind(41, 7))...)
	drops := []struct {
		drop []int64
		gets []int
	}{
		{nil, []int{0, 2, 3}}, {[]int64{}, []int{0, 2, 3}}, {[]int64{0, 0, 0, 0}, []int{0, 2, 3}}, {[]int64{0}, []int{0, 2, 3}},
		{[]int64{1}, []int{2, 3}}, {[]int64{0, 1}, []int{0, 2, 3}}, {[]int64{0, 0, 1}, []int{0, 3}}, {[]int64{0, 0, 0, 1}, []int{0, 2}},
		{[]int64{1, 1, 1, 1}, nil}, {[]int64{1, 0, 1, 1}, nil}, {[]int64{1, 1, 1}, []int{3}}, {[]int64{5, -5, 0, math.MaxInt64}, []int{2}},
		{[]int64{-1, -1, -1, -1}, []int{0, 2, 3}}, {[]int64{math.MinInt64, 9, math.MinInt64}, []int{0, 2, 3}}, {[]int64{0, 0, 2, -2}, []int{0, 3}},
		{[]int64{0, 0, 0, 0, 1, 1, 1}, []int{0, 2, 3}}, {[]int64{0, 0, 0, 1, 1}, []int{0, 2}},
		{append(make([]int64, impl.MaxList-1), 1), []int{0, 2, 3}}, {slices.Repeat([]int64{1}, impl.MaxList), nil},
	}
	for _, x := range drops {
		want := slices.Clone(c)
		for _, i := range x.gets {
			want[i] = hasGot(c[i], 41, windPgn, filledWith(7, 8))
		}
		goesInSlots(t, []slotting{{fmt.Sprint("dropped ", x.drop), b, x.drop, sentBy(1, want...)}})
	}
	// Of who does not hear also what waits stays as it was.
	both := busOf(waitingAt(b.Nodes, 3, wind(43, 8), frameOf(43, depthPgn, as(8)))...)
	goesInSlots(t, []slotting{{"with something that waits", both, []int64{1, 0, 1, 1}, sentBy(1, waitingAt(c, 3, both.Nodes[3].Queue.Cans...)...)}})
}

// A claim that is dropped is answered by nobody, and one that is heard by who has its address.
func TestBusSlotOfAClaim(t *testing.T) {
	its, other := auto(own), auto(greater)
	has := impl.Node{Claim: holds(its, 7)}
	wants := impl.NodeNew(other, 7).Node
	begun := impl.Node{Claim: waits(other, 7)}
	mine, theirs := impl.Device{Name: its, Addr: 7}, impl.Device{Name: other, Addr: 7}
	keeps := impl.Node{Claim: holds(its, 7, 7), Queue: queueOf(claiming(7, its)), Devices: []impl.Device{theirs}}
	goes := impl.Node{Claim: waits(other, 8, 7), Queue: queueOf(claiming(8, other)), Devices: []impl.Device{mine}}
	kept := keeps
	kept.Queue = impl.Queue{}
	goesInSlots(t, []slotting{
		{"claimed", busOf(has, wants), nil, sentBy(1, keeps, begun)},
		{"dropped", busOf(has, wants), []int64{1}, sentBy(1, has, begun)},
		{"answered", busOf(keeps, begun), nil, sentBy(0, kept, goes)},
		{"the answer is dropped", busOf(keeps, begun), []int64{0, 1}, sentBy(0, kept, begun)},
	})
}

// atRandom is a Bus of Nodes with all kinds of things that wait, as they may hear, send or begin.
func atRandom(t *testing.T, r *rand.Rand) impl.Bus {
	t.Helper()
	var b impl.Bus
	for range r.Intn(impl.MaxNodes + 1) {
		n := impl.NodeNew(impl.Name{Unique: r.Int63n(40), Auto: r.Intn(4) > 0}, 30+r.Int63n(3)).Node
		if r.Intn(2) == 0 {
			n = ticking(t, n, r.Intn(400))
		}
		for range r.Intn(12) {
			d := defsAsSaid()[r.Intn(6)]
			if out := impl.NodeSend(n, d.Pgn, somewhere(r, d)); out.Code == impl.OK {
				n = out.Node
			}
		}
		for range r.Intn(12) {
			n.Queue.Cans = append(n.Queue.Cans, heardAtRandom(r, n))
		}
		n.Queue.Cans = n.Queue.Cans[:min(len(n.Queue.Cans), impl.MaxQueue)]
		b.Nodes = append(b.Nodes, n)
	}
	return b
}

// dropAtRandom is a drop, often of nothing, shorter or longer than the Nodes are many.
func dropAtRandom(r *rand.Rand) []int64 {
	var drop []int64
	for range r.Intn(6) {
		drop = append(drop, []int64{0, 0, 0, 1, -1, math.MaxInt64, math.MinInt64}[r.Intn(7)])
	}
	return drop
}

// leastOf is the least Id of all that wait.
func leastOf(b impl.Bus) int64 {
	least := int64(math.MaxInt64)
	for _, n := range b.Nodes {
		for _, c := range n.Queue.Cans {
			least = min(least, c.Id)
		}
	}
	return least
}

// gone is what one Queue has more than another one that is what is left of it.
func gone(ahead impl.Queue, left impl.Queue) impl.Can {
	for i, c := range ahead.Cans {
		if i >= len(left.Cans) || left.Cans[i] != c {
			return c
		}
	}
	return impl.Can{}
}

func TestInEachSlotGoesTheLeastOfAllThatWait(t *testing.T) {
	r := rand.New(rand.NewSource(60))
	slots, behind := 0, 0
	for range 300 {
		b := atRandom(t, r)
		for queued(b) > 0 {
			if t.Failed() {
				return // all that follows would be wrong as well
			}
			drop := dropAtRandom(r)
			kept := busOf(copiesOf(b.Nodes)...)
			out := impl.BusSlot(b, drop)
			answersBus(t, "a slot", out, slotAsSaid(kept, drop))
			answersBus(t, "the same again", impl.BusSlot(b, drop), out)
			sameBus(t, "what was handed in", b, kept)
			sender := b.Nodes[out.From]
			same(t, "one has gone", len(out.Bus.Nodes[out.From].Queue.Cans), len(sender.Queue.Cans)-1)
			same(t, "the least of all", gone(sender.Queue, out.Bus.Nodes[out.From].Queue).Id, leastOf(b))
			slots++
			if sender.Queue.Cans[0].Id != leastOf(b) {
				behind++
			}
			b = out.Bus
			if r.Intn(8) == 0 {
				answersBus(t, "a tick", impl.BusTick(b), impl.BusOut{Bus: tickAsSaid(b)})
				b = impl.BusTick(b).Bus
			}
		}
		refusedBus(t, "nothing waits any more", impl.BusSlot(b, nil), impl.ErrNone)
	}
	same(t, "there are many slots", slots > 3000 && behind > 500, true)
}

func TestBusTick(t *testing.T) {
	for count := range impl.MaxNodes + 1 {
		for _, nodes := range [][]impl.Node{crew(count), slices.Repeat([]impl.Node{busy()}, count)} {
			want := slices.Clone(nodes)
			for i, n := range nodes {
				want[i].Table = []impl.Session{aged(n.Table[0], 2), aged(n.Table[1], 3), aged(n.Table[2], 4)}
				want[i].Devices = older(n.Devices, 1)
			}
			answersBus(t, "a tick", impl.BusTick(busOf(nodes...)), impl.BusOut{Bus: busOf(want...)})
		}
	}
	waiting, last := impl.Node{Claim: waitsFor(2, auto(own), 7, 3)}, impl.Node{Claim: waitsFor(1, fixed(own), 8)}
	table := []impl.Session{aged(session(1, 2, 1, 9), 750), aged(session(1, 3, 1, 9), 749)}
	silent := impl.Node{Claim: lost(auto(own)), Devices: []impl.Device{device(1, 5, 599), device(2, 6, 600)}, Table: table}
	begun := impl.NodeNew(auto(greater), 7).Node
	later := impl.Node{Claim: waitsFor(249, auto(greater), 7), Queue: begun.Queue}
	answersBus(t, "who has waited long enough, and who is silent too long", impl.BusTick(busOf(waiting, last, silent, begun)),
		impl.BusOut{Bus: busOf(impl.Node{Claim: waitsFor(1, auto(own), 7, 3)}, impl.Node{Claim: holds(fixed(own), 8)},
			impl.Node{Claim: lost(auto(own)), Devices: []impl.Device{device(1, 5, 600)}, Table: []impl.Session{aged(session(1, 3, 1, 9), 750)}}, later)})
	for _, n := range rightNodes() {
		answersBus(t, "a tick", impl.BusTick(busOf(busy(), n)), impl.BusOut{Bus: tickAsSaid(busOf(busy(), n))})
	}
}

func TestBusRun(t *testing.T) {
	begun := busOf(impl.NodeNew(auto(own), 7).Node, impl.NodeNew(fixed(greater), 7).Node, impl.NodeNew(auto(greater), 7).Node)
	buses := []impl.Bus{{}, busOf(crew(1)...), busOf(crew(4)...), busOf(busy()), busOf(busy(), busy(), busy(), busy()), begun, busOf(begun.Nodes[2])}
	for _, b := range buses {
		answersBus(t, "no tick", impl.BusRun(b, 0), impl.BusOut{Bus: b})
		for _, ticks := range []int64{1, 2, 249, 250, 251, 600, 1199, 1200} {
			answersBus(t, fmt.Sprint(ticks, " ticks"), impl.BusRun(b, ticks), runAsSaid(b, ticks))
		}
	}
	silent := impl.BusRun(busOf(crew(2)...), 1200).Bus
	sameBus(t, "who is silent too long", silent, busOf(
		impl.Node{Claim: holds(auto(own), 40, 3, 9), Got: received(5), Seq: 5}, impl.Node{Claim: holds(auto(own+1), 41, 3, 9), Got: received(5), Seq: 5}))
}

// In a tick of a run Nodes tick ahead of the slots: what is heard in it is of no Age yet.
func TestBusRunTicksFirst(t *testing.T) {
	b := busOf(impl.NodeNew(auto(own), 7).Node, impl.NodeNew(auto(greater), 9).Node)
	cut := cutAsSaid(3, bytesFrom(1, 14))
	b.Nodes[0].Queue.Cans = append(b.Nodes[0].Queue.Cans, frameOf(7, logPgn, cut[0]))
	got := impl.BusRun(b, 1)
	answersBus(t, "a tick", got, impl.BusOut{Bus: busOf(
		impl.Node{Claim: waitsFor(249, auto(own), 7, 9), Devices: []impl.Device{{Name: auto(greater), Addr: 9}}},
		impl.Node{Claim: waitsFor(249, auto(greater), 9, 7), Devices: []impl.Device{{Name: auto(own), Addr: 7}}, Table: []impl.Session{begunAs(7, 3, bytesFrom(1, 6))}})})
}

// begunAs is a Session of a log of which the first frame is heard.
func begunAs(src int64, seq int64, data string) impl.Session {
	return impl.Session{Src: src, Pgn: logPgn, Seq: seq, Next: 1, Size: 14, Data: data}
}

// stuffed are four Nodes of which each Queue is full; so many of the first one's Cans are claims that the last one answers.
func stuffed(claims int) impl.Bus {
	nodes := crew(4)
	for i := range nodes {
		nodes[i].Queue = queueOf(slices.Repeat([]impl.Can{wind(40+int64(i), byte(i))}, impl.MaxQueue)...)
	}
	for i := range claims {
		nodes[0].Queue.Cans[i] = claiming(43, auto(greater+9))
	}
	return busOf(nodes...)
}

// Each claim that is answered is one Can more: 64 slots are just enough without one, and one is left for each.
func TestBusRunHas64SlotsATick(t *testing.T) {
	same(t, "just so many", queued(stuffed(0)), 64)
	for claims := range impl.MaxQueue + 1 {
		b := stuffed(claims)
		once, twice := impl.BusRun(b, 1), impl.BusRun(b, 2)
		same(t, "left of a tick", queued(once.Bus), claims)
		same(t, "left of two", queued(twice.Bus), 0)
		answersBus(t, "a tick", once, runAsSaid(b, 1))
		answersBus(t, "two", twice, runAsSaid(b, 2))
		if claims > 0 {
			sameCans(t, "the answers", once.Bus.Nodes[3].Queue.Cans, slices.Repeat([]impl.Can{claiming(43, auto(own+3))}, claims))
		}
	}
}

func TestBusRunsAsSaid(t *testing.T) {
	r := rand.New(rand.NewSource(61))
	for range 60 {
		b := atRandom(t, r)
		kept := busOf(copiesOf(b.Nodes)...)
		for _, ticks := range []int64{0, 1, 2, 5, 250 + r.Int63n(300)} {
			out := impl.BusRun(b, ticks)
			answersBus(t, fmt.Sprint(ticks, " ticks"), out, runAsSaid(b, ticks))
			answersBus(t, "the same again", impl.BusRun(b, ticks), out)
			sameBus(t, "what was handed in", b, kept)
		}
	}
}

// begins is a Bus of Nodes of those Names, Auto and begun all at once, each of which wants its address.
func begins(uniques []int64, wants ...int64) impl.Bus {
	var b impl.Bus
	for i, unique := range uniques {
		b.Nodes = append(b.Nodes, impl.NodeNew(auto(unique), wants[i%len(wants)]).Node)
	}
	return b
}

// orders are all orders of the numbers from 1 to n.
func orders(n int64) [][]int64 {
	if n == 0 {
		return [][]int64{nil}
	}
	var l [][]int64
	for _, order := range orders(n - 1) {
		for place := range len(order) + 1 {
			l = append(l, slices.Insert(slices.Clone(order), place, n))
		}
	}
	return l
}

// noTwoHoldOne fails if two Nodes hold one address.
func noTwoHoldOne(t *testing.T, what string, b impl.Bus) {
	t.Helper()
	var held []int64
	for _, n := range b.Nodes {
		if n.Claim.State == impl.ClHeld {
			same(t, what+", held by another one too", slices.Contains(held, n.Claim.Addr), false)
			held = append(held, n.Claim.Addr)
		}
	}
}

// watched is a Bus so many ticks later, in none of which two Nodes hold one address.
func watched(t *testing.T, b impl.Bus, ticks int64) impl.Bus {
	t.Helper()
	begun := b
	for tick := range ticks {
		b = impl.BusRun(b, 1).Bus
		noTwoHoldOne(t, fmt.Sprint("tick ", tick), b)
	}
	answersBus(t, "in one go", impl.BusRun(begun, ticks), impl.BusOut{Bus: b})
	return b
}

// Whatever the order of two, three and four of unlike Names that want one address: the least has it, and each next one the next.
func TestWhoWantsOneAddressHoldsItOrTheNext(t *testing.T) {
	for count := int64(2); count <= impl.MaxNodes; count++ {
		for _, order := range orders(count) {
			for _, want := range []int64{0, 7, 100, impl.MaxAddr - 3} {
				b := watched(t, begins(order, want), 1+impl.Quiet)
				for i, n := range b.Nodes {
					what := fmt.Sprint("of ", order, " that want ", want, ", the ", i)
					same(t, what+", its State", n.Claim.State, impl.ClHeld)
					same(t, what+", its Addr", n.Claim.Addr, want+order[i]-1)
					same(t, what+", whom it knows", int64(len(n.Devices)), count-1)
				}
			}
		}
	}
}

// Behind MaxAddr it goes on from 0: a claim of that goes ahead of all others.
func TestWhoWantsTheLastAddressHoldsItOrTheFirst(t *testing.T) {
	for _, order := range orders(2) {
		b := watched(t, begins(order, impl.MaxAddr), 2*impl.Quiet)
		for i, n := range b.Nodes {
			same(t, "its State", n.Claim.State, impl.ClHeld)
			same(t, "its Addr", n.Claim.Addr, []int64{impl.MaxAddr, 0}[order[i]-1])
		}
	}
	for count := int64(2); count <= impl.MaxNodes; count++ {
		for _, order := range orders(count) {
			b := watched(t, begins(order, impl.MaxAddr), 2*impl.Quiet)
			holdsAtLast(t, fmt.Sprint("of ", order), b, slices.Repeat([]int64{impl.MaxAddr}, len(order)))
		}
	}
}

func TestBusOfNodesThatWantOneAddressTickByTick(t *testing.T) {
	for _, order := range orders(2) {
		least, other := slices.Index(order, 1), slices.Index(order, 2)
		for ticks, state := range map[int64]int64{1: impl.ClWait, 249: impl.ClWait, 250: impl.ClHeld} {
			b := impl.BusRun(begins(order, 7), ticks).Bus
			same(t, "the least Name's State", b.Nodes[least].Claim.State, state)
			same(t, "the least Name's Addr", b.Nodes[least].Claim.Addr, 7)
			same(t, "the other one's State, which waits from the first slots on", b.Nodes[other].Claim.State, impl.ClWait)
			same(t, "the other one's Addr", b.Nodes[other].Claim.Addr, 8)
		}
		b := impl.BusRun(begins(order, 7), 251).Bus
		same(t, "the other one's State at last", b.Nodes[other].Claim.State, impl.ClHeld)
		same(t, "the other one's Addr", b.Nodes[other].Claim.Addr, 8)
	}
}

// holdsAtLast fails if not all hold, unlike ones, and the one of the least Name what it wanted.
func holdsAtLast(t *testing.T, what string, b impl.Bus, wants []int64) {
	t.Helper()
	least := 0
	for i, n := range b.Nodes {
		same(t, what+", it holds", n.Claim.State, impl.ClHeld)
		if numberAsBits(n.Claim.Name) < numberAsBits(b.Nodes[least].Claim.Name) {
			least = i
		}
	}
	noTwoHoldOne(t, what, b)
	same(t, what+", the least Name's", b.Nodes[least].Claim.Addr, wants[least])
}

// Nodes want the same address, or ones beside each other, at both ends of what there is, and begin at once or one after another.
func TestNodesHoldUnlikeAddressesAtLast(t *testing.T) {
	r := rand.New(rand.NewSource(62))
	for range 150 {
		if t.Failed() {
			return
		}
		var b impl.Bus
		var wants []int64
		names := r.Perm(9)
		for i := range 2 + r.Intn(impl.MaxNodes-1) {
			name := impl.Name{Unique: int64(names[i]), Instance: r.Int63n(3), Auto: true}
			wants = append(wants, (250+r.Int63n(4))%252)
			b.Nodes = append(b.Nodes, impl.NodeNew(name, wants[i]).Node)
			if r.Intn(3) == 0 {
				b = watched(t, b, r.Int63n(300))
			}
		}
		b = watched(t, b, 2*impl.Quiet)
		holdsAtLast(t, shown(wants), b, wants)
		sameClaims(t, impl.BusRun(b, 1200).Bus, b)
	}
}

// sameClaims fails if Nodes do not go on with the Claims that they had.
func sameClaims(t *testing.T, got impl.Bus, want impl.Bus) {
	t.Helper()
	for i := range want.Nodes {
		sameClaim(t, "it stays so", got.Nodes[i].Claim, want.Nodes[i].Claim)
	}
}

// Who comes with a lesser Name takes an address that is held, and who held it goes elsewhere ahead of holding again.
func TestWhoComesLaterWithALesserName(t *testing.T) {
	b := watched(t, begins([]int64{9, 8, 7}, 7), 300)
	b.Nodes = append(b.Nodes, impl.NodeNew(auto(1), 7).Node)
	noTwoHoldOne(t, "as it comes", b)
	once := impl.BusRun(b, 1).Bus
	same(t, "who held it does not", once.Nodes[2].Claim.State, impl.ClWait)
	b = watched(t, b, 300)
	holdsAtLast(t, "at last", b, []int64{7, 7, 7, 7})
	b = busOf(impl.NodeNew(fixed(own), 7).Node, impl.NodeNew(auto(greater), 7).Node, impl.NodeNew(fixed(greater), 7).Node)
	b = watched(t, b, 600)
	same(t, "who may not go elsewhere keeps it", b.Nodes[0].Claim.Addr, 7)
	same(t, "or is lost", b.Nodes[2].Claim.State, impl.ClLost)
	same(t, "and who may goes", b.Nodes[1].Claim.Addr, 8)
}

// settled are so many Nodes that hold unlike addresses, and have nothing that waits, and got nothing.
func settled(t *testing.T, count int) impl.Bus {
	t.Helper()
	b := impl.BusRun(begins([]int64{4, 2, 3, 1}[:count], 7), 300).Bus
	for _, n := range b.Nodes {
		same(t, "it holds, with nothing that waits", n.Claim.State == impl.ClHeld && len(n.Queue.Cans)+len(n.Got) == 0, true)
	}
	return b
}

// sendsOn is a Bus of which one Node sends these Values, all in its Queue yet.
func sendsOn(t *testing.T, b impl.Bus, from int, pgn int64, l []impl.Value) impl.Bus {
	t.Helper()
	nodes := slices.Clone(b.Nodes)
	out := impl.NodeSend(nodes[from], pgn, l)
	same(t, "it sends", out.Code, impl.OK)
	nodes[from] = out.Node
	return busOf(nodes...)
}

// gotBy fails if what a Node has Got is not this.
func gotBy(t *testing.T, what string, n impl.Node, want ...impl.Got) {
	t.Helper()
	if !slices.Equal(n.Got, want) {
		t.Errorf("%s: got %s, want %s", what, shown(n.Got), shown(want))
	}
}

// Each group, of each Node, is got by all others as it was written, and not by itself.
func TestARecordIsGotByAllOthers(t *testing.T) {
	r := rand.New(rand.NewSource(63))
	for count := 1; count <= impl.MaxNodes; count++ {
		b := settled(t, count)
		for from := range count {
			for _, d := range defsAsSaid() {
				l := somewhere(r, d)
				record := impl.Got{Src: b.Nodes[from].Claim.Addr, Pgn: d.Pgn, Data: encodedAsSaid(d, l)}
				after := impl.BusRun(sendsOn(t, b, from, d.Pgn, l), 1).Bus
				for i, n := range after.Nodes {
					if i == from {
						gotBy(t, "who sends", n)
						continue
					}
					gotBy(t, fmt.Sprint("of ", from, " by ", i), n, record)
					told := impl.Decode(n.Got[0].Pgn, n.Got[0].Data)
					same(t, "word for word", told.Code == impl.OK && slices.Equal(told.Values, l), true)
				}
				same(t, "nothing waits", queued(after), 0)
			}
		}
	}
}

// Records of all Nodes at once, long ones too, of which the frames go by turns.
func TestRecordsOfAllNodesAtOnce(t *testing.T) {
	r := rand.New(rand.NewSource(64))
	log := rowAsSaid(logPgn)
	for range 100 {
		b := settled(t, 4)
		var records []impl.Got
		for from := range b.Nodes {
			l := somewhere(r, log)
			b = sendsOn(t, b, from, logPgn, l)
			records = append(records, impl.Got{Src: b.Nodes[from].Claim.Addr, Pgn: logPgn, Data: encodedAsSaid(log, l)})
			short := somewhere(r, rowAsSaid(depthPgn))
			b = sendsOn(t, b, from, depthPgn, short)
			records = append(records, impl.Got{Src: b.Nodes[from].Claim.Addr, Pgn: depthPgn, Data: encodedAsSaid(rowAsSaid(depthPgn), short)})
		}
		// The depths go first, each kind by its address.
		slices.SortFunc(records, func(a impl.Got, b impl.Got) int { return int(1000*(a.Pgn-b.Pgn) + a.Src - b.Src) })
		for i, n := range impl.BusRun(b, 1).Bus.Nodes {
			gotBy(t, fmt.Sprint("by ", i), n, slices.DeleteFunc(slices.Clone(records), func(g impl.Got) bool { return g.Src == n.Claim.Addr })...)
		}
	}
}

// dropping is a Bus after so many slots, in each of which is dropped what that says.
func dropping(t *testing.T, b impl.Bus, drops ...[]int64) impl.Bus {
	t.Helper()
	for _, drop := range drops {
		out := impl.BusSlot(b, drop)
		same(t, "a slot's Code", out.Code, impl.OK)
		b = out.Bus
	}
	refusedBus(t, "nothing waits any more", impl.BusSlot(b, nil), impl.ErrNone)
	return b
}

// only is a drop for that one alone, in a list that may be longer than the Nodes are many.
func only(i int, size int) []int64 {
	drop := make([]int64, max(i+1, size))
	drop[i] = 1
	return drop
}

// Each frame of a long record in turn is dropped for each Node in turn: all others get it, and that one does not, but the next one again.
func TestALongRecordOfWhichAFrameIsLost(t *testing.T) {
	b := settled(t, 4)
	log := rowAsSaid(logPgn)
	r := rand.New(rand.NewSource(65))
	for from := range b.Nodes {
		for loses := range b.Nodes {
			for place := range 3 {
				l, next := somewhere(r, log), somewhere(r, log)
				src := b.Nodes[from].Claim.Addr
				record := impl.Got{Src: src, Pgn: logPgn, Data: encodedAsSaid(log, l)}
				again := impl.Got{Src: src, Pgn: logPgn, Data: encodedAsSaid(log, next)}
				drops := make([][]int64, 3)
				drops[place] = only(loses, place*3)
				once := dropping(t, sendsOn(t, b, from, logPgn, l), drops...)
				twice := dropping(t, sendsOn(t, once, from, logPgn, next), nil, nil, nil)
				for i := range b.Nodes {
					what := fmt.Sprint("of ", from, ", the frame ", place, " dropped for ", loses, ", by ", i)
					switch {
					case i == from:
						gotBy(t, what, twice.Nodes[i])
					case i == loses:
						gotBy(t, what, once.Nodes[i])
						gotBy(t, what+", the next one", twice.Nodes[i], again)
					default:
						gotBy(t, what, once.Nodes[i], record)
						gotBy(t, what+", both", twice.Nodes[i], record, again)
					}
				}
			}
		}
	}
}

// For each set of frames that each Node loses: who loses one gets no long record, and a short one is got by who hears it.
func TestRecordsOfWhichFramesAreLost(t *testing.T) {
	b := settled(t, 3)
	long, short := zerosOf(rowAsSaid(logPgn)), zerosOf(rowAsSaid(windPgn))
	src := b.Nodes[1].Claim.Addr
	for lost := range 1 << 6 {
		drops := make([][]int64, 3)
		for place := range drops {
			drops[place] = []int64{int64(lost >> place & 1), 1, int64(lost >> (3 + place) & 1)}
		}
		after := dropping(t, sendsOn(t, b, 1, logPgn, long), drops...)
		same(t, "the first one", len(after.Nodes[0].Got) == 1, lost&7 == 0)
		same(t, "the last one", len(after.Nodes[2].Got) == 1, lost>>3 == 0)
		gotBy(t, "who sends", after.Nodes[1])
		after = dropping(t, sendsOn(t, b, 1, windPgn, short), drops[0])
		same(t, "the first one, a short one", len(after.Nodes[0].Got) == 1, drops[0][0] == 0)
		same(t, "the last one, a short one", len(after.Nodes[2].Got) == 1, drops[0][2] == 0)
	}
	after := dropping(t, sendsOn(t, b, 1, logPgn, long), nil, nil, nil)
	gotBy(t, "nothing is lost", after.Nodes[0], impl.Got{Src: src, Pgn: logPgn, Data: encodedAsSaid(rowAsSaid(logPgn), long)})
}

// copiesOf are Nodes whose lists are new ones.
func copiesOf(l []impl.Node) []impl.Node {
	var copies []impl.Node
	for _, n := range l {
		copies = append(copies, copyOf(n))
	}
	return copies
}

// busAnswers are answers of each kind, of a Bus that is handed in; drop is one of four.
func busAnswers(b impl.Bus, drop []int64) []impl.Bus {
	return []impl.Bus{
		impl.BusSlot(b, nil).Bus, impl.BusSlot(b, drop).Bus, impl.BusSlot(b, []int64{1, 1, 1, 1}).Bus, impl.BusTick(b).Bus,
		impl.BusRun(b, 0).Bus, impl.BusRun(b, 1).Bus, impl.BusRun(b, 3).Bus, impl.BusRun(b, 1200).Bus, impl.BusRun(b, 1201).Bus,
	}
}

// sharingBuses are Buses to be handed in: with much and with little, and one that is not right.
func sharingBuses(t *testing.T) []impl.Bus {
	t.Helper()
	claim := claiming(7, auto(lesser))
	return []impl.Bus{
		busOf(crew(4)...), busOf(busy()), busOf(waitingAt(crew(4), 2, wind(42, 1))...), busOf(waitingAt([]impl.Node{busy(), busy(), busy()}, 1, claim)...),
		stuffed(1), begins([]int64{4, 2, 3, 1}, 7), sendsOn(t, settled(t, 4), 1, logPgn, zerosOf(rowAsSaid(logPgn))),
		busOf(sharingNodes()[:3]...), busOf(waitingAt(sharingNodes()[:3], 1, claim)...), busOf(busy(), impl.Node{}),
	}
}

// ruinedBus turns all of a Bus's lists, and the room behind them.
func ruinedBus(b impl.Bus) {
	for _, n := range b.Nodes {
		ruinedNode(n)
	}
	ruined(b.Nodes, impl.Node{Seq: -9})
}

func TestBusesHandedInAreNotChanged(t *testing.T) {
	for _, given := range sharingBuses(t) {
		var spacy []impl.Node
		for _, n := range given.Nodes {
			spacy = append(spacy, spacyNode(n))
		}
		b := busOf(spare(spacy, impl.Node{Seq: 77})...)
		drop := spare([]int64{1, 0, 0, 1}, 77)
		asHandedIn := func() impl.Bus {
			whole := slices.Clone(b.Nodes[:cap(b.Nodes)])
			for i := range whole[:len(b.Nodes)] {
				whole[i] = withRoom(whole[i])
			}
			return busOf(whole...)
		}
		kept := busOf(copiesOf(asHandedIn().Nodes)...)
		want := busAnswers(busOf(copiesOf(given.Nodes)...), []int64{1, 0, 0, 1})
		got := busAnswers(b, drop)
		impl.BusRight(b)
		for _, answer := range busAnswers(b, drop) {
			ruinedBus(answer)
		}
		sameBus(t, "changed, or given out", asHandedIn(), kept)
		same(t, "the drop stays", fmt.Sprint(drop[:cap(drop)]), fmt.Sprint([]int64{1, 0, 0, 1, 77, 77, 77, 77, 77, 77, 77, 77, 77}))
		ruinedBus(b)
		ruined(drop, -9)
		for i := range got {
			sameBus(t, "what was answered stays", got[i], want[i])
			ruinedBus(got[i])
			for j := i + 1; j < len(got); j++ {
				sameBus(t, "shared with another answer", got[j], want[j])
			}
		}
	}
}

// No two Nodes of one answer share a list, also where those that were handed in do.
func TestNodesOfOneAnswerShareNothing(t *testing.T) {
	alike := busOf(slices.Repeat([]impl.Node{busy()}, 4)...)
	for _, given := range append(sharingBuses(t), alike, busOf(slices.Repeat([]impl.Node{sharingNodes()[1]}, 3)...)) {
		for which, answer := range busAnswers(given, []int64{1, 0, 0, 1}) {
			kept := busOf(copiesOf(answer.Nodes)...)
			for i := range answer.Nodes {
				sameNode(t, fmt.Sprint("Node ", i, " of the answer ", which), answer.Nodes[i], kept.Nodes[i])
				ruinedNode(answer.Nodes[i])
			}
		}
	}
}

// Data of what is handed in, of what was handed back, and of two Nodes of one answer, all stand in memory of their own.
func TestBusDataIsNewMemory(t *testing.T) {
	text := strings.Clone("abcdefgh\x42nopqrst")
	last := impl.Session{Src: 40, Pgn: logPgn, Seq: 2, Next: 2, Size: 14, Data: strings.Clone("abcdefghijklm")}
	nodes := crew(4)
	for i := range nodes {
		nodes[i].Table = []impl.Session{last}
		nodes[i].Got = []impl.Got{{Src: 1, Pgn: windPgn, Data: text[:8]}}
	}
	nodes[0].Queue = queueOf(frameOf(40, windPgn, text[:8]), frameOf(40, logPgn, text[8:]))
	b := busOf(nodes...)
	for which, answer := range busAnswers(b, []int64{1, 0, 0, 1}) {
		var ahead []string
		for _, n := range answer.Nodes {
			for _, data := range textsOf(n) {
				same(t, fmt.Sprint("answer ", which, ", shared with what was handed in"), shares(text, data) || shares(last.Data, data), false)
				for _, other := range ahead {
					same(t, fmt.Sprint("answer ", which, ", shared with another text"), shares(other, data), false)
				}
				ahead = append(ahead, data)
			}
		}
		same(t, "there are texts", len(ahead) > 0, which < 8)
	}
}
