package tests

import (
	"math"
	"math/rand"
	"slices"
	"strings"
	"testing"

	"loop.example/g00628/impl"
)

// queueOf is a Queue of these Cans.
func queueOf(l ...impl.Can) impl.Queue {
	return impl.Queue{Cans: l}
}

// numbered are so many right Cans, each unlike the others.
func numbered(n int) []impl.Can {
	l := make([]impl.Can, n)
	for i := range l {
		l[i] = impl.Can{Id: int64(3 * i), Data: string(rune('a' + i%26))}
	}
	return l
}

// sameCans fails if a list is not the one that is asked for; an empty one and none are the same.
func sameCans(t *testing.T, what string, got []impl.Can, want []impl.Can) {
	t.Helper()
	if !slices.Equal(got, want) {
		t.Errorf("%s: got %s, want %s", what, shown(got), shown(want))
	}
}

// sameOut fails if an answer, with all of its fields, is not the one that is asked for.
func sameOut(t *testing.T, what string, got impl.QueueOut, want impl.QueueOut) {
	t.Helper()
	sameCans(t, what+", the Queue", got.Queue.Cans, want.Queue.Cans)
	same(t, what+", the Can", got.Can, want.Can)
	same(t, what+", the Code", got.Code, want.Code)
}

// refusedQueues are Queues that are not right.
func refusedQueues() []impl.Queue {
	full := numbered(impl.MaxQueue)
	full[impl.MaxQueue-1].Id = unusedId
	l := []impl.Queue{
		queueOf(numbered(impl.MaxQueue + 1)...), queueOf(numbered(2 * impl.MaxQueue)...), queueOf(numbered(impl.MaxList + 1)...),
		queueOf(full...),
		queueOf(impl.Can{Id: 5}, impl.Can{Id: -1}), queueOf(impl.Can{Id: -1}, impl.Can{Id: 5}),
		queueOf(impl.Can{Id: 5}, impl.Can{Id: 6, Data: as(9)}, impl.Can{Id: 7}),
	}
	for _, c := range wrongCans() {
		l = append(l, queueOf(c))
	}
	return l
}

func TestQueueRight(t *testing.T) {
	same(t, "none", impl.QueueRight(impl.Queue{}), true)
	same(t, "an empty list", impl.QueueRight(impl.Queue{Cans: []impl.Can{}}), true)
	for n := 0; n <= 2*impl.MaxQueue; n++ {
		same(t, "each count", impl.QueueRight(queueOf(numbered(n)...)), n <= impl.MaxQueue)
	}
	same(t, "more than MaxList", impl.QueueRight(queueOf(numbered(impl.MaxList+1)...)), false)
	same(t, "all alike", impl.QueueRight(queueOf(ofIds(5, 5, 5)...)), true)
	for _, c := range sampleCans() {
		same(t, shown(c), impl.QueueRight(queueOf(c)), true)
	}
	for _, q := range refusedQueues() {
		same(t, shown(q), impl.QueueRight(q), false)
	}
}

// Wherever in a Queue the one stands that is not right, the Queue is not.
func TestQueueRightLooksAtEach(t *testing.T) {
	for place := range impl.MaxQueue {
		l := numbered(impl.MaxQueue)
		l[place].Data = as(9)
		same(t, "too much Data", impl.QueueRight(queueOf(l...)), false)
		l = numbered(impl.MaxQueue)
		l[place].Id = greatestId + 1
		same(t, "no Id", impl.QueueRight(queueOf(l...)), false)
	}
}

func TestQueuePut(t *testing.T) {
	full := numbered(impl.MaxQueue)
	least := impl.Can{Id: 0, Data: "least"}
	cases := []struct {
		what string
		q    impl.Queue
		l    []impl.Can
		want []impl.Can
	}{
		{"none into none", impl.Queue{}, nil, nil},
		{"an empty list into an empty one", impl.Queue{Cans: []impl.Can{}}, []impl.Can{}, nil},
		{"none into some", queueOf(full[:3]...), nil, full[:3]},
		{"none into a full one", queueOf(full...), nil, full},
		{"one into none", impl.Queue{}, full[:1], full[:1]},
		{"one into one", queueOf(full[0]), full[1:2], full[:2]},
		{"behind the others, though it is less", queueOf(full[5], full[4]), []impl.Can{least, full[3]}, []impl.Can{full[5], full[4], least, full[3]}},
		{"one that is there", queueOf(full[0], full[1]), full[:1], []impl.Can{full[0], full[1], full[0]}},
		{"MaxQueue into none", impl.Queue{}, full, full},
		{"all but one into one", queueOf(full[0]), full[1:], full},
		{"just up to MaxQueue", queueOf(full[:10]...), full[10:], full},
		{"the last that may be", queueOf(full[:impl.MaxQueue-1]...), full[impl.MaxQueue-1:], full},
	}
	for _, c := range cases {
		sameOut(t, c.what, impl.QueuePut(c.q, c.l), impl.QueueOut{Queue: impl.Queue{Cans: c.want}})
	}
	for _, c := range sampleCans() {
		sameOut(t, "each Can", impl.QueuePut(queueOf(c), []impl.Can{c}), impl.QueueOut{Queue: queueOf(c, c)})
	}
}

// For each count that waits, and each that is put: all come in, or none.
func TestAllOfSeveralComeInOrNone(t *testing.T) {
	l := numbered(2*impl.MaxQueue + 2)
	for there := 0; there <= impl.MaxQueue; there++ {
		for more := 0; more <= impl.MaxQueue+2; more++ {
			want := impl.QueueOut{Code: impl.ErrFull}
			if there+more <= impl.MaxQueue {
				want = impl.QueueOut{Queue: queueOf(l[:there+more]...)}
			}
			sameOut(t, "each count", impl.QueuePut(queueOf(l[:there]...), l[there:there+more]), want)
		}
	}
}

func TestQueuePutRefuses(t *testing.T) {
	full := queueOf(numbered(impl.MaxQueue)...)
	some := queueOf(numbered(3)...)
	wrong := queueOf(impl.Can{Id: -1})
	over := queueOf(numbered(impl.MaxQueue + 1)...)
	longest := numbered(impl.MaxList)
	longestWrong := numbered(impl.MaxList)
	longestWrong[impl.MaxList-1].Id = -1
	tooLong := numbered(impl.MaxList + 1)
	tooLongWrong := numbered(impl.MaxList + 1)
	tooLongWrong[0].Id = -1
	cases := []struct {
		what string
		q    impl.Queue
		l    []impl.Can
		code int64
	}{
		{"one too many", full, ofIds(5), impl.ErrFull},
		{"one over MaxQueue", some, numbered(impl.MaxQueue - 2), impl.ErrFull},
		{"one more than MaxQueue, into none", impl.Queue{}, numbered(impl.MaxQueue + 1), impl.ErrFull},
		{"MaxQueue into a full one", full, numbered(impl.MaxQueue), impl.ErrFull},
		{"MaxList", impl.Queue{}, longest, impl.ErrFull},
		{"MaxList into a full one", full, longest, impl.ErrFull},
		{"MaxList, one of it not right", impl.Queue{}, longestWrong, impl.ErrForm},
		{"MaxList into one that is not right", wrong, longest, impl.ErrForm},
		{"one more than MaxList", impl.Queue{}, tooLong, impl.ErrSize},
		{"one more than MaxList, not right", impl.Queue{}, tooLongWrong, impl.ErrSize},
		{"one more than MaxList into a full one", full, tooLong, impl.ErrSize},
		{"one more than MaxList into one that is not right", wrong, tooLong, impl.ErrSize},
		{"both not right, and more than MaxList", over, tooLongWrong, impl.ErrSize},
		{"a Queue of more than MaxList, which is not handed in as a list", impl.Queue{Cans: tooLong}, ofIds(5), impl.ErrForm},
		{"into one that is not right", wrong, ofIds(5), impl.ErrForm},
		{"none into one that is not right", wrong, nil, impl.ErrForm},
		{"none into one of too many", over, nil, impl.ErrForm},
		{"one into one of too many", over, ofIds(5), impl.ErrForm},
		{"not right into some", some, ofIds(-1), impl.ErrForm},
		{"not right into none", impl.Queue{}, ofIds(-1), impl.ErrForm},
		{"the last one not right", some, ofIds(5, 6, greatestId+1), impl.ErrForm},
		{"not right into a full one", full, ofIds(-1), impl.ErrForm},
		{"too many, the last one not right", full, append(numbered(impl.MaxQueue), impl.Can{Data: as(9)}), impl.ErrForm},
		{"both not right", wrong, ofIds(-1), impl.ErrForm},
		{"too many into one that is not right", wrong, numbered(impl.MaxQueue), impl.ErrForm},
		{"both not right, and too many", over, append(numbered(impl.MaxQueue), impl.Can{Id: -1}), impl.ErrForm},
	}
	for _, c := range cases {
		sameOut(t, c.what, impl.QueuePut(c.q, c.l), impl.QueueOut{Code: c.code})
	}
	for _, c := range wrongCans() {
		sameOut(t, shown(c), impl.QueuePut(some, []impl.Can{{Id: 1}, c}), impl.QueueOut{Code: impl.ErrForm})
	}
	for _, q := range refusedQueues() {
		sameOut(t, shown(q), impl.QueuePut(q, ofIds(1)), impl.QueueOut{Code: impl.ErrForm})
	}
}

func TestQueueTake(t *testing.T) {
	a := impl.Can{Id: 9, Data: "a"}
	b := impl.Can{Id: 5, Data: "b"}
	c := impl.Can{Id: 5, Data: "c"}
	d := impl.Can{Id: 5}
	cases := []struct {
		what string
		q    impl.Queue
		can  impl.Can
		left impl.Queue
	}{
		{"one", queueOf(a), a, impl.Queue{}},
		{"one that is zero", queueOf(impl.Can{}), impl.Can{}, impl.Queue{}},
		{"the greatest", queueOf(impl.Can{Id: greatestId}), impl.Can{Id: greatestId}, impl.Queue{}},
		{"the least at the beginning", queueOf(b, a), b, queueOf(a)},
		{"the least at the end", queueOf(a, b), b, queueOf(a)},
		{"the least in the middle", queueOf(a, b, a), b, queueOf(a, a)},
		{"the least twice", queueOf(a, b, c), b, queueOf(a, c)},
		{"the least twice, the lesser Data behind", queueOf(a, c, a, b), c, queueOf(a, a, b)},
		{"the least three times", queueOf(c, b, a, d), c, queueOf(b, a, d)},
		{"the least twice, one just as the other", queueOf(a, b, c, b), b, queueOf(a, c, b)},
		{"all alike", queueOf(a, a, a), a, queueOf(a, a)},
	}
	for _, x := range cases {
		sameOut(t, x.what, impl.QueueTake(x.q), impl.QueueOut{Queue: x.left, Can: x.can})
	}
	full := numbered(impl.MaxQueue)
	sameOut(t, "a full one", impl.QueueTake(queueOf(full...)), impl.QueueOut{Queue: queueOf(full[1:]...), Can: full[0]})
	slices.Reverse(full)
	last := impl.MaxQueue - 1
	sameOut(t, "a full one, the least at its end", impl.QueueTake(queueOf(full...)), impl.QueueOut{Queue: queueOf(full[:last]...), Can: full[last]})
}

func TestQueueTakeRefuses(t *testing.T) {
	sameOut(t, "none", impl.QueueTake(impl.Queue{}), impl.QueueOut{Code: impl.ErrNone})
	sameOut(t, "an empty list", impl.QueueTake(impl.Queue{Cans: []impl.Can{}}), impl.QueueOut{Code: impl.ErrNone})
	for _, q := range refusedQueues() {
		sameOut(t, shown(q), impl.QueueTake(q), impl.QueueOut{Code: impl.ErrForm})
	}
}

// fromSrcs are Cans of these Srcs, to all and to one by turns, of unlike Prios and Data.
func fromSrcs(srcs ...int64) []impl.Can {
	var l []impl.Can
	for i, src := range srcs {
		x := impl.Id{Prio: int64(i % 8), Pgn: 129025, Dest: impl.ToAll, Src: src}
		if i%2 == 1 {
			x.Pgn, x.Dest = 256, (src+1)%256
		}
		l = append(l, impl.Can{Id: idAsBits(x), Data: string(rune('a' + i))})
	}
	return l
}

func TestQueueClear(t *testing.T) {
	l := fromSrcs(7, 0, 7, 8, 255, 7)
	cases := []struct {
		what string
		src  int64
		want []impl.Can
	}{
		{"there once", 8, []impl.Can{l[0], l[1], l[2], l[4], l[5]}},
		{"there three times", 7, []impl.Can{l[1], l[3], l[4]}},
		{"the least", 0, []impl.Can{l[0], l[2], l[3], l[4], l[5]}},
		{"the greatest", 255, []impl.Can{l[0], l[1], l[2], l[3], l[5]}},
		{"not there", 6, l},
		{"not there as Src, but as Dest", 1, l},
		{"below 0", -1, l},
		{"over 255", 256, l},
		{"there, but 256 more", 256 + 7, l},
		{"there, but 256 less", 7 - 256, l},
		{"an Id that is there", l[0].Id, l},
		{"the least number", math.MinInt64, l},
		{"the greatest number", math.MaxInt64, l},
	}
	for _, c := range cases {
		sameCans(t, c.what, impl.QueueClear(queueOf(l...), c.src).Cans, c.want)
	}
	all := fromSrcs(7, 7, 7)
	sameCans(t, "all of that Src", impl.QueueClear(queueOf(all...), 7).Cans, nil)
	full := fromSrcs(slices.Repeat([]int64{3, 4}, impl.MaxQueue/2)...)
	same(t, "a full one", len(impl.QueueClear(queueOf(full...), 3).Cans), impl.MaxQueue/2)
	for _, src := range []int64{-1, 0, 7, 255, 256} {
		sameCans(t, "none", impl.QueueClear(impl.Queue{}, src).Cans, nil)
		for _, q := range refusedQueues() {
			sameCans(t, "of one that is not right", impl.QueueClear(q, src).Cans, nil)
		}
	}
}

// Puts and takes by turns at random: what goes out is what stands first in a list sorted by the numbers, of one number as it came.
func TestWhatWaitsGoesOutByItsNumbers(t *testing.T) {
	r := rand.New(rand.NewSource(7))
	var q impl.Queue
	var sorted []impl.Can
	count := 0
	for range 20000 {
		if t.Failed() {
			return // all that follows would be wrong as well
		}
		if r.Intn(3) == 0 {
			l := make([]impl.Can, r.Intn(6))
			for i := range l {
				l[i] = impl.Can{Id: r.Int63n(4), Data: impl.PutNum(int64(count))}
				count++
			}
			out := impl.QueuePut(q, l)
			if len(sorted)+len(l) > impl.MaxQueue {
				sameOut(t, "none come in", out, impl.QueueOut{Code: impl.ErrFull})
				continue
			}
			sameOut(t, "all come in", out, impl.QueueOut{Queue: queueOf(slices.Concat(q.Cans, l)...)})
			q = out.Queue
			sorted = append(sorted, l...)
			slices.SortStableFunc(sorted, func(a impl.Can, b impl.Can) int { return int(a.Id - b.Id) })
			continue
		}
		out := impl.QueueTake(q)
		if len(sorted) == 0 {
			sameOut(t, "nothing waits", out, impl.QueueOut{Code: impl.ErrNone})
			continue
		}
		same(t, "Code", out.Code, impl.OK)
		same(t, "the next one", out.Can, sorted[0])
		same(t, "one less", len(out.Queue.Cans), len(sorted)-1)
		q = out.Queue
		sorted = sorted[1:]
	}
}

// roomy is a list with room behind it, into which a careless append would write.
func roomy(l []impl.Can) []impl.Can {
	whole := make([]impl.Can, len(l)+20)
	for i := range whole {
		whole[i] = impl.Can{Id: 77, Data: "behind"}
	}
	copy(whole, l)
	return whole[:len(l)]
}

// allOf is a list with what stands in the room behind it.
func allOf(l []impl.Can) []impl.Can {
	return slices.Clone(l[:cap(l)])
}

// overwritten turns all of a list, and the room behind it.
func overwritten(l []impl.Can) {
	for i := range l[:cap(l)] {
		l[:cap(l)][i] = impl.Can{Id: -9, Data: "turned"}
	}
}

func TestQueuesHandedInAreNotChanged(t *testing.T) {
	waits := roomy(fromSrcs(9, 7, 8, 7))
	more := roomy(fromSrcs(1, 7, 2))
	q := impl.Queue{Cans: waits}
	keptWaits, keptMore := allOf(waits), allOf(more)
	answers := []struct {
		what string
		give func() []impl.Can
	}{
		{"QueuePut", func() []impl.Can { return impl.QueuePut(q, more).Queue.Cans }},
		{"QueuePut of none", func() []impl.Can { return impl.QueuePut(q, more[:0]).Queue.Cans }},
		{"QueuePut into none", func() []impl.Can { return impl.QueuePut(impl.Queue{Cans: waits[:0]}, more).Queue.Cans }},
		{"QueuePut of itself", func() []impl.Can { return impl.QueuePut(q, waits).Queue.Cans }},
		{"QueueTake", func() []impl.Can { return impl.QueueTake(q).Queue.Cans }},
		{"QueueTake of the first", func() []impl.Can { return impl.QueueTake(impl.Queue{Cans: waits[:1]}).Queue.Cans }},
		{"QueueClear", func() []impl.Can { return impl.QueueClear(q, 7).Cans }},
		{"QueueClear of none", func() []impl.Can { return impl.QueueClear(q, 50).Cans }},
		{"QueueClear of the last", func() []impl.Can { return impl.QueueClear(impl.Queue{Cans: waits[:2]}, 7).Cans }},
	}
	for _, a := range answers {
		got := a.give()
		sameCans(t, a.what+" changed the Queue", allOf(waits), keptWaits)
		sameCans(t, a.what+" changed the list", allOf(more), keptMore)
		overwritten(got)
		sameCans(t, a.what+" gives out the Queue's memory", allOf(waits), keptWaits)
		sameCans(t, a.what+" gives out the list's memory", allOf(more), keptMore)
	}
}

// What is handed in may be turned later on: what was answered stays.
func TestQueuesAnsweredStay(t *testing.T) {
	l := fromSrcs(9, 7, 8)
	want := slices.Clone(l)
	waits, more := roomy(l[:2]), roomy(l[2:])
	put := impl.QueuePut(impl.Queue{Cans: waits}, more).Queue
	cleared := impl.QueueClear(impl.Queue{Cans: waits}, 50)
	taken := impl.QueueTake(impl.Queue{Cans: waits})
	overwritten(waits)
	overwritten(more)
	sameCans(t, "put", put.Cans, want)
	sameCans(t, "cleared", cleared.Cans, want[:2])
	sameOut(t, "taken", taken, impl.QueueOut{Queue: queueOf(want[1]), Can: want[0]})
}

func TestQueueDataIsNewMemory(t *testing.T) {
	text := strings.Clone("abcdefghijklmnopqrstuvwx")
	l := []impl.Can{{Id: 1, Data: text[:8]}, {Id: 2, Data: text[8:16]}, {Id: 3, Data: text[16:]}}
	var answers []impl.Can
	answers = append(answers, impl.QueuePut(queueOf(l[:1]...), l[1:]).Queue.Cans...)
	answers = append(answers, impl.QueueTake(queueOf(l...)).Queue.Cans...)
	answers = append(answers, impl.QueueTake(queueOf(l...)).Can)
	answers = append(answers, impl.QueueClear(queueOf(l...), 1).Cans...)
	same(t, "how many", len(answers), 8)
	for _, c := range answers {
		if shares(text, c.Data) {
			t.Error("an answer shares memory with what was handed in: " + c.Data)
		}
	}
}
