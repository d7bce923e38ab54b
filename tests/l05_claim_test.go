package tests

import (
	"math"
	"math/rand"
	"slices"
	"testing"

	"loop.example/g00628/impl"
)

// The names of the tests below, the least first; each of them may be Auto or not, as auto and fixed make them.
const (
	lesser  = 3
	own     = 5
	greater = 9
)

// auto is a Name that may go elsewhere.
func auto(unique int64) impl.Name {
	return impl.Name{Unique: unique, Maker: 7, Auto: true}
}

// fixed is a Name that may not go elsewhere.
func fixed(unique int64) impl.Name {
	return impl.Name{Unique: unique, Maker: 7}
}

// waits is a Claim that has begun to wait.
func waits(n impl.Name, addr int64, taken ...int64) impl.Claim {
	return impl.Claim{Name: n, Addr: addr, State: impl.ClWait, Left: impl.Quiet, Taken: taken}
}

// waitsFor is a Claim that has yet to wait so long.
func waitsFor(left int64, n impl.Name, addr int64, taken ...int64) impl.Claim {
	return impl.Claim{Name: n, Addr: addr, State: impl.ClWait, Left: left, Taken: taken}
}

// holds is a Claim that holds its address.
func holds(n impl.Name, addr int64, taken ...int64) impl.Claim {
	return impl.Claim{Name: n, Addr: addr, State: impl.ClHeld, Taken: taken}
}

// lost is a Claim of no address.
func lost(n impl.Name, taken ...int64) impl.Claim {
	return impl.Claim{Name: n, Addr: impl.NoAddr, State: impl.ClLost, Taken: taken}
}

// span are the addresses from one to another, both of them among these.
func span(from int64, to int64) []int64 {
	var l []int64
	for addr := from; addr <= to; addr++ {
		l = append(l, addr)
	}
	return l
}

// allBut are all addresses without these.
func allBut(free ...int64) []int64 {
	return slices.DeleteFunc(span(0, impl.MaxAddr), func(addr int64) bool { return slices.Contains(free, addr) })
}

// edges are numbers at the edges of what an address, a src or a Left may be, and far away.
func edges() []int64 {
	return []int64{math.MinInt64, -256, -254, -1, 0, 1, 2, 100, 248, 249, 250, 251, 252, 253, 254, 255, 256, 257, 507, 1 << 32, math.MaxInt64}
}

// sameClaim fails if a Claim is not the one that is asked for; no Taken and an empty one are the same.
func sameClaim(t *testing.T, what string, got impl.Claim, want impl.Claim) {
	t.Helper()
	same(t, what+", the Name", got.Name, want.Name)
	same(t, what+", Addr", got.Addr, want.Addr)
	same(t, what+", State", got.State, want.State)
	same(t, what+", Left", got.Left, want.Left)
	if !slices.Equal(got.Taken, want.Taken) {
		t.Errorf("%s, Taken: got %v, want %v", what, got.Taken, want.Taken)
	}
}

// sameClaimOut fails if an answer, with all of its fields, is not the one that is asked for.
func sameClaimOut(t *testing.T, what string, got impl.ClaimOut, want impl.ClaimOut) {
	t.Helper()
	sameClaim(t, what, got.Claim, want.Claim)
	same(t, what+", Send", got.Send, want.Send)
	same(t, what+", the Code", got.Code, want.Code)
}

// refusedClaim fails if an answer is not ErrForm, and nothing beside it.
func refusedClaim(t *testing.T, what string, got impl.ClaimOut) {
	t.Helper()
	sameClaimOut(t, what, got, impl.ClaimOut{Code: impl.ErrForm})
}

// rightTaken are lists that Taken may be.
func rightTaken() [][]int64 {
	return [][]int64{
		nil, {}, {0}, {impl.MaxAddr}, {0, impl.MaxAddr}, {7}, {6, 7, 8}, {0, 1, 2, 250, 251},
		allBut(100), span(0, impl.MaxAddr), span(0, impl.MaxAddr-1), span(1, impl.MaxAddr),
	}
}

// wrongTaken are lists that Taken may not be.
func wrongTaken() [][]int64 {
	all := span(0, impl.MaxAddr)
	return [][]int64{
		{-1}, {impl.MaxAddr + 1}, {impl.NoAddr}, {255}, {math.MinInt64}, {math.MaxInt64}, {-1, 0}, {0, impl.MaxAddr + 1},
		{5, 5}, {0, 0}, {impl.MaxAddr, impl.MaxAddr}, {1, 5, 5, 9}, {5, 4}, {1, 0}, {1, 9, 5, 12}, {impl.MaxAddr, 0}, {3, 2, 1},
		span(-1, impl.MaxAddr), span(0, impl.MaxAddr+1), span(-1, impl.MaxAddr-1), span(1, impl.MaxAddr+1),
		slices.Concat(all, []int64{impl.MaxAddr}), slices.Concat([]int64{0}, all), slices.Concat(all[:100], []int64{99}, all[100:]),
		make([]int64, 252), make([]int64, impl.MaxList+1), span(0, impl.MaxList),
	}
}

// rightClaims are Claims of each State, at the edges of what they hold, with each list that Taken may be.
func rightClaims() []impl.Claim {
	var l []impl.Claim
	for _, n := range []impl.Name{auto(own), fixed(own), {}, greatestName()} {
		for _, taken := range rightTaken() {
			l = append(l, lost(n, taken...))
			for _, addr := range []int64{0, 1, 7, impl.MaxAddr - 1, impl.MaxAddr} {
				l = append(l, holds(n, addr, taken...))
				for _, left := range []int64{1, 2, impl.Quiet - 1, impl.Quiet} {
					l = append(l, waitsFor(left, n, addr, taken...))
				}
			}
		}
	}
	return l
}

// stateMayBe tells, State by State, which Addr and Left go with it.
func stateMayBe(state int64, addr int64, left int64) bool {
	some := addr >= 0 && addr <= 251
	return state == 1 && some && left >= 1 && left <= 250 ||
		state == 2 && some && left == 0 ||
		state == 3 && addr == 254 && left == 0
}

// wrongClaims are Claims that are not right.
func wrongClaims() []impl.Claim {
	l := []impl.Claim{{}, {Name: auto(own)}}
	for _, state := range []int64{math.MinInt64, -1, 0, 1, 2, 3, 4, 5, 1 << 32, math.MaxInt64} {
		for _, addr := range edges() {
			for _, left := range edges() {
				if !stateMayBe(state, addr, left) {
					l = append(l, impl.Claim{Name: auto(own), Addr: addr, State: state, Left: left})
				}
			}
		}
	}
	for _, taken := range wrongTaken() {
		l = append(l, waits(auto(own), 7, taken...), holds(fixed(own), 7, taken...), lost(auto(own), taken...))
	}
	for _, n := range wrongNames() {
		l = append(l, waits(n, 7), holds(n, 7, 8), lost(n, 7))
	}
	return l
}

func TestClaimNumbersAsSaid(t *testing.T) {
	got := []int64{impl.Quiet, impl.MaxAddr, impl.NoAddr, impl.ClWait, impl.ClHeld, impl.ClLost, impl.ClaimPgn}
	if !slices.Equal(got, []int64{250, 251, 254, 1, 2, 3, 60928}) {
		t.Errorf("got %v", got)
	}
}

func TestClaimRight(t *testing.T) {
	for _, c := range rightClaims() {
		same(t, shown(c), impl.ClaimRight(c), true)
	}
	for _, c := range wrongClaims() {
		same(t, shown(c), impl.ClaimRight(c), false)
	}
	for state := int64(-1); state <= 5; state++ {
		for _, addr := range edges() {
			for _, left := range edges() {
				c := impl.Claim{Name: fixed(own), Addr: addr, State: state, Left: left}
				same(t, shown(c), impl.ClaimRight(c), stateMayBe(state, addr, left))
			}
		}
	}
}

// Wherever in Taken the one stands that may not be, the Claim is not right.
func TestClaimRightLooksAtEachTaken(t *testing.T) {
	for place := range impl.MaxAddr + 1 {
		for _, wrong := range []int64{-1, impl.MaxAddr + 1} {
			taken := span(0, impl.MaxAddr)
			taken[place] = wrong
			same(t, "no address", impl.ClaimRight(holds(auto(own), 7, taken...)), false)
		}
		if place > 0 {
			taken := span(0, impl.MaxAddr)
			taken[place] = taken[place-1]
			same(t, "two alike", impl.ClaimRight(holds(auto(own), 7, taken...)), false)
			taken = span(0, impl.MaxAddr)
			taken[place-1], taken[place] = taken[place], taken[place-1]
			same(t, "not rising", impl.ClaimRight(holds(auto(own), 7, taken...)), false)
			same(t, "without one", impl.ClaimRight(holds(auto(own), 7, allBut(int64(place))...)), true)
		}
	}
}

func TestClaimNew(t *testing.T) {
	for _, n := range sampleNames()[:100] {
		for want := int64(-3); want <= 260; want++ {
			if want < 0 || want > impl.MaxAddr {
				refusedClaim(t, "a wanted address that may not be", impl.ClaimNew(n, want))
				continue
			}
			sameClaimOut(t, "new", impl.ClaimNew(n, want), impl.ClaimOut{Claim: waits(n, want), Send: true})
		}
	}
	for _, want := range []int64{-1, impl.MaxAddr + 1, impl.NoAddr, impl.ToAll, math.MinInt64, math.MaxInt64, 1 << 32} {
		refusedClaim(t, "a wanted address that may not be", impl.ClaimNew(auto(own), want))
	}
	for _, n := range wrongNames() {
		refusedClaim(t, "a Name that is not right", impl.ClaimNew(n, 7))
		refusedClaim(t, "neither may be", impl.ClaimNew(n, -1))
	}
}

func TestClaimCan(t *testing.T) {
	same(t, "as said", impl.ClaimCan(waits(impl.Name{Unique: 1}, 7)), impl.Can{Id: 6*67108864 + 256*(60928+255) + 7, Data: "\x01\x00\x00\x00\x00\x00\x00\x00"})
	same(t, "of a lost one", impl.ClaimCan(lost(impl.Name{})).Id, 6*67108864+256*(60928+255)+254)
	for _, c := range rightClaims() {
		can := impl.ClaimCan(c)
		same(t, "right", impl.CanRight(can), true)
		same(t, "its Id", impl.IdOf(can.Id), impl.IdOut{Id: impl.Id{Prio: 6, Pgn: impl.ClaimPgn, Dest: impl.ToAll, Src: c.Addr}})
		same(t, "its Name", impl.NameFrom(can.Data), impl.NameOut{Name: c.Name})
	}
	for _, c := range wrongClaims() {
		same(t, shown(c), impl.ClaimCan(c), impl.Can{})
	}
}

// hearing is a case of what is heard, and of what becomes of the Claim.
type hearing struct {
	what string
	c    impl.Claim
	src  int64
	n    impl.Name
	want impl.Claim
	send bool
}

// heard fails for each case of which the answer is another one.
func heard(t *testing.T, cases []hearing) {
	t.Helper()
	for _, x := range cases {
		sameClaimOut(t, x.what, impl.ClaimHear(x.c, x.src, x.n), impl.ClaimOut{Claim: x.want, Send: x.send})
	}
}

func TestClaimHearOfAnotherAddress(t *testing.T) {
	n := auto(lesser)
	heard(t, []hearing{
		{"into none", waits(auto(own), 7), 9, n, waits(auto(own), 7, 9), false},
		{"ahead of others", holds(auto(own), 7, 9), 3, n, holds(auto(own), 7, 3, 9), false},
		{"between others", holds(fixed(own), 7, 3, 9), 5, n, holds(fixed(own), 7, 3, 5, 9), false},
		{"behind others", waitsFor(1, auto(own), 7, 3, 9), 11, n, waitsFor(1, auto(own), 7, 3, 9, 11), false},
		{"taken already", holds(auto(own), 7, 3, 9), 9, n, holds(auto(own), 7, 3, 9), false},
		{"taken already, the first", waits(auto(own), 7, 3, 9), 3, n, waits(auto(own), 7, 3, 9), false},
		{"0", holds(auto(own), 7), 0, n, holds(auto(own), 7, 0), false},
		{"0, ahead of others", holds(auto(own), 7, 1), 0, n, holds(auto(own), 7, 0, 1), false},
		{"0, taken already", holds(auto(own), 7, 0), 0, n, holds(auto(own), 7, 0), false},
		{"MaxAddr", holds(auto(own), 7, 250), impl.MaxAddr, n, holds(auto(own), 7, 250, 251), false},
		{"above MaxAddr", holds(auto(own), 7, 3), impl.MaxAddr + 1, n, holds(auto(own), 7, 3), false},
		{"253", waits(auto(own), 7, 3), 253, n, waits(auto(own), 7, 3), false},
		{"NoAddr", holds(auto(own), 7, 3), impl.NoAddr, n, holds(auto(own), 7, 3), false},
		{"255", holds(auto(own), 7), 255, n, holds(auto(own), 7), false},
		{"all taken", holds(auto(own), 7, span(0, 251)...), 9, n, holds(auto(own), 7, span(0, 251)...), false},
		{"all taken but this one", holds(auto(own), 7, allBut(9)...), 9, n, holds(auto(own), 7, span(0, 251)...), false},
		{"of a greater name", waitsFor(30, fixed(own), 7), 9, auto(greater), waitsFor(30, fixed(own), 7, 9), false},
		{"lost", lost(auto(own), 3), 9, n, lost(auto(own), 3, 9), false},
		{"lost, and taken already", lost(fixed(own), 3), 3, auto(greater), lost(fixed(own), 3), false},
		{"lost, and NoAddr, of a lesser name", lost(auto(own), 3), impl.NoAddr, n, lost(auto(own), 3), false},
		{"lost, and NoAddr, of a greater name", lost(auto(own), 3), impl.NoAddr, auto(greater), lost(auto(own), 3), false},
		{"lost, and 255", lost(auto(own)), 255, n, lost(auto(own)), false},
		{"lost, and MaxAddr", lost(auto(own)), impl.MaxAddr, n, lost(auto(own), 251), false},
		{"lost, all taken", lost(auto(own), span(0, 251)...), 0, n, lost(auto(own), span(0, 251)...), false},
	})
}

func TestClaimHearOfItsOwnName(t *testing.T) {
	for _, c := range rightClaims() {
		for _, src := range []int64{0, 1, 7, 9, 250, 251, 252, 254, 255, c.Addr} {
			sameClaimOut(t, "its own Name", impl.ClaimHear(c, src, c.Name), impl.ClaimOut{Claim: c})
		}
	}
}

// A Name that is unlike in one part alone is another one's.
func TestClaimHearOfANameThatIsNearlyItsOwn(t *testing.T) {
	between := impl.Name{Unique: 1000000, Maker: 1000, Instance: 100, Function: 150, Class: 50, System: 6, Industry: 4}
	for _, p := range nameParts() {
		less, more := p.with(between, *p.of(&between)-1), p.with(between, *p.of(&between)+1)
		heard(t, []hearing{
			{p.what + " more", holds(between, 7), 7, more, holds(between, 7, 7), true},
			{p.what + " less", holds(between, 7), 7, less, lost(between, 7), true},
			{p.what + " more, elsewhere", holds(between, 7), 8, more, holds(between, 7, 8), false},
		})
	}
	heard(t, []hearing{
		{"Auto alone", holds(fixed(own), 7), 7, auto(own), holds(fixed(own), 7, 7), true},
		{"not Auto alone", holds(auto(own), 7), 7, fixed(own), waits(auto(own), 8, 7), true},
	})
}

func TestClaimHearOfAGreaterName(t *testing.T) {
	all := span(0, impl.MaxAddr)
	heard(t, []hearing{
		{"waits", waits(auto(own), 7), 7, auto(greater), waits(auto(own), 7, 7), true},
		{"waits not long any more", waitsFor(1, auto(own), 7, 3), 7, auto(greater), waitsFor(1, auto(own), 7, 3, 7), true},
		{"holds", holds(auto(own), 7, 3, 9), 7, auto(greater), holds(auto(own), 7, 3, 7, 9), true},
		{"holds, and is not Auto", holds(fixed(own), 7), 7, fixed(greater), holds(fixed(own), 7, 7), true},
		{"taken already", holds(auto(own), 7, 7), 7, auto(greater), holds(auto(own), 7, 7), true},
		{"at 0", waitsFor(20, fixed(own), 0), 0, auto(greater), waitsFor(20, fixed(own), 0, 0), true},
		{"at MaxAddr", holds(auto(own), 251, 3), 251, auto(greater), holds(auto(own), 251, 3, 251), true},
		{"all taken", holds(auto(own), 7, all...), 7, auto(greater), holds(auto(own), 7, all...), true},
		{"all taken but its own", holds(auto(own), 7, allBut(7)...), 7, auto(greater), holds(auto(own), 7, all...), true},
	})
}

func TestClaimHearOfALesserName(t *testing.T) {
	all := span(0, impl.MaxAddr)
	n := auto(lesser)
	heard(t, []hearing{
		{"waits", waitsFor(30, auto(own), 7), 7, n, waits(auto(own), 8, 7), true},
		{"waits not long any more", waitsFor(1, auto(own), 7), 7, n, waits(auto(own), 8, 7), true},
		{"holds", holds(auto(own), 7), 7, n, waits(auto(own), 8, 7), true},
		{"of one that is not Auto", holds(auto(own), 7), 7, fixed(greater), waits(auto(own), 8, 7), true},
		{"taken already", holds(auto(own), 7, 7), 7, n, waits(auto(own), 8, 7), true},
		{"the next ones taken", holds(auto(own), 7, 8, 9, 10), 7, n, waits(auto(own), 11, 7, 8, 9, 10), true},
		{"the next one free, but not those behind", holds(auto(own), 7, 3, 9, 10), 7, n, waits(auto(own), 8, 3, 7, 9, 10), true},
		{"only lesser ones taken", holds(auto(own), 7, 0, 5, 6), 7, n, waits(auto(own), 8, 0, 5, 6, 7), true},
		{"from 0", holds(auto(own), 0), 0, n, waits(auto(own), 1, 0), true},
		{"from the last but one", holds(auto(own), 250), 250, n, waits(auto(own), 251, 250), true},
		{"from MaxAddr", holds(auto(own), 251), 251, n, waits(auto(own), 0, 251), true},
		{"from MaxAddr, the first ones taken", holds(auto(own), 251, 0, 1), 251, n, waits(auto(own), 2, 0, 1, 251), true},
		{"from 0 on again", holds(auto(own), 7, span(8, 251)...), 7, n, waits(auto(own), 0, span(7, 251)...), true},
		{"from 0 on again, up to just ahead", holds(auto(own), 7, allBut(6, 7)...), 7, n, waits(auto(own), 6, allBut(6)...), true},
		{"one free ahead, one behind", holds(auto(own), 100, allBut(99, 101)...), 100, n, waits(auto(own), 101, allBut(99, 101)...), true},
		{"MaxAddr alone is free", holds(auto(own), 7, allBut(251)...), 7, n, waits(auto(own), 251, allBut(251)...), true},
		{"0 alone is free", holds(auto(own), 7, allBut(0)...), 7, n, waits(auto(own), 0, allBut(0)...), true},
		{"all taken", holds(auto(own), 7, all...), 7, n, lost(auto(own), all...), true},
		{"all taken, from 0", waits(auto(own), 0, all...), 0, n, lost(auto(own), all...), true},
		{"all taken, from MaxAddr", waits(auto(own), 251, all...), 251, n, lost(auto(own), all...), true},
		{"all taken with its own", waitsFor(9, auto(own), 7, allBut(7)...), 7, n, lost(auto(own), all...), true},
		{"not Auto, waits", waitsFor(30, fixed(own), 7, 3), 7, fixed(lesser), lost(fixed(own), 3, 7), true},
		{"not Auto, holds", holds(fixed(own), 7), 7, fixed(lesser), lost(fixed(own), 7), true},
		{"not Auto, taken already", holds(fixed(own), 7, 7, 8), 7, fixed(lesser), lost(fixed(own), 7, 8), true},
		{"not Auto, at 0", holds(fixed(own), 0), 0, fixed(lesser), lost(fixed(own), 0), true},
		{"not Auto, at MaxAddr", holds(fixed(own), 251), 251, fixed(lesser), lost(fixed(own), 251), true},
		{"not Auto, all taken", holds(fixed(own), 7, all...), 7, fixed(lesser), lost(fixed(own), all...), true},
	})
}

// From each address to each one that alone is free.
func TestTheOneFreeAddressIsFound(t *testing.T) {
	for addr := int64(0); addr <= impl.MaxAddr; addr++ {
		for free := int64(0); free <= impl.MaxAddr; free++ {
			want := waits(auto(own), free, allBut(free)...)
			if free == addr {
				want = lost(auto(own), span(0, impl.MaxAddr)...)
			}
			got := impl.ClaimHear(holds(auto(own), addr, allBut(free)...), addr, auto(lesser))
			sameClaimOut(t, "one is free", got, impl.ClaimOut{Claim: want, Send: true})
		}
		got := impl.ClaimHear(holds(auto(own), addr), addr, auto(lesser))
		sameClaimOut(t, "all are free", got, impl.ClaimOut{Claim: waits(auto(own), (addr+1)%252, addr), Send: true})
	}
}

func TestClaimHearRefuses(t *testing.T) {
	c := holds(auto(own), 7)
	for _, src := range []int64{-1, 256, -7, 7 + 256, math.MinInt64, math.MaxInt64, 1 << 32} {
		refusedClaim(t, "no src", impl.ClaimHear(c, src, auto(lesser)))
		refusedClaim(t, "no src, of its own Name", impl.ClaimHear(c, src, auto(own)))
		refusedClaim(t, "no src, and lost", impl.ClaimHear(lost(auto(own)), src, auto(greater)))
	}
	for _, n := range wrongNames() {
		refusedClaim(t, "a Name that is not right", impl.ClaimHear(c, 7, n))
		refusedClaim(t, "a Name that is not right, elsewhere", impl.ClaimHear(c, 9, n))
		refusedClaim(t, "the same Name, not right", impl.ClaimHear(holds(n, 7), 7, n))
		refusedClaim(t, "nothing may be", impl.ClaimHear(impl.Claim{}, -1, n))
	}
	for _, wrong := range wrongClaims() {
		refusedClaim(t, "a Claim that is not right", impl.ClaimHear(wrong, 7, auto(lesser)))
		refusedClaim(t, "a Claim that is not right, and its own Name", impl.ClaimHear(wrong, 7, wrong.Name))
		refusedClaim(t, "a Claim that is not right, and a src above MaxAddr", impl.ClaimHear(wrong, 255, auto(greater)))
	}
}

func TestClaimTick(t *testing.T) {
	for _, c := range rightClaims() {
		want := c
		if c.State == impl.ClWait {
			want.Left = c.Left - 1
		}
		if c.State == impl.ClWait && c.Left == 1 {
			want.State = impl.ClHeld
		}
		sameClaimOut(t, "a tick", impl.ClaimTick(c), impl.ClaimOut{Claim: want})
	}
	cases := []struct {
		what string
		c    impl.Claim
		want impl.Claim
	}{
		{"just begun", waits(auto(own), 7, 3), waitsFor(249, auto(own), 7, 3)},
		{"two are left", waitsFor(2, auto(own), 7), waitsFor(1, auto(own), 7)},
		{"one is left", waitsFor(1, auto(own), 7, 3, 9), holds(auto(own), 7, 3, 9)},
		{"one is left, at 0", waitsFor(1, fixed(own), 0), holds(fixed(own), 0)},
		{"one is left, and others have claimed it", waitsFor(1, auto(own), 7, 7), holds(auto(own), 7, 7)},
		{"holds", holds(auto(own), 7, 3), holds(auto(own), 7, 3)},
		{"lost", lost(auto(own), 3), lost(auto(own), 3)},
	}
	for _, x := range cases {
		sameClaimOut(t, x.what, impl.ClaimTick(x.c), impl.ClaimOut{Claim: x.want})
	}
	for _, c := range wrongClaims() {
		refusedClaim(t, shown(c), impl.ClaimTick(c))
	}
}

// ticked is a Claim so many ticks later.
func ticked(t *testing.T, c impl.Claim, ticks int) impl.Claim {
	t.Helper()
	for range ticks {
		out := impl.ClaimTick(c)
		same(t, "the tick's Code", out.Code, impl.OK)
		same(t, "the tick's Send", out.Send, false)
		c = out.Claim
	}
	return c
}

func TestWhoHasWaitedLongEnoughHolds(t *testing.T) {
	for _, want := range []int64{0, 7, impl.MaxAddr} {
		c := impl.ClaimNew(auto(own), want).Claim
		sameClaim(t, "not long enough", ticked(t, c, impl.Quiet-1), waitsFor(1, auto(own), want))
		sameClaim(t, "long enough", ticked(t, c, impl.Quiet), holds(auto(own), want))
		sameClaim(t, "longer", ticked(t, c, 2*impl.Quiet), holds(auto(own), want))
	}
	c := ticked(t, impl.ClaimNew(auto(own), 7).Claim, 200)
	c = impl.ClaimHear(c, 7, auto(greater)).Claim
	sameClaim(t, "who keeps it waits no longer", ticked(t, c, 50), holds(auto(own), 7, 7))
	c = impl.ClaimHear(c, 7, auto(lesser)).Claim
	sameClaim(t, "who goes waits anew", ticked(t, c, impl.Quiet-1), waitsFor(1, auto(own), 8, 7))
	sameClaim(t, "and holds the other one then", ticked(t, c, impl.Quiet), holds(auto(own), 8, 7))
	c = impl.ClaimHear(c, 8, fixed(lesser)).Claim
	sameClaim(t, "who goes twice", ticked(t, c, impl.Quiet), holds(auto(own), 9, 7, 8))
	sameClaim(t, "who has lost stays so", ticked(t, lost(fixed(own), 7), 2*impl.Quiet), lost(fixed(own), 7))
}

// told hands each what the other one sends, till both are silent.
func told(t *testing.T, a impl.ClaimOut, b impl.ClaimOut) (impl.Claim, impl.Claim) {
	t.Helper()
	for range 600 {
		if a.Send {
			a.Send = false
			keepsSending := b.Send
			b = impl.ClaimHear(b.Claim, a.Claim.Addr, a.Claim.Name)
			b.Send = b.Send || keepsSending
		} else if b.Send {
			a, b = b, a
		} else {
			break
		}
		same(t, "Code", b.Code, impl.OK)
	}
	same(t, "both are silent", a.Send || b.Send, false)
	if impl.NameLess(b.Claim.Name, a.Claim.Name) {
		return b.Claim, a.Claim
	}
	return a.Claim, b.Claim
}

// Of two who claim one address the lesser keeps it, whoever began, and however long each has waited or held.
func TestOfTwoTheLesserNameKeepsTheAddress(t *testing.T) {
	names := []impl.Name{auto(lesser), auto(own), fixed(lesser), fixed(own), {}, greatestName()}
	for _, a := range names {
		for _, b := range names {
			if a == b {
				continue
			}
			for _, addr := range []int64{0, 7, impl.MaxAddr} {
				for _, ticks := range []int{0, 1, impl.Quiet - 1, impl.Quiet, impl.Quiet + 1} {
					there := impl.ClaimOut{Claim: ticked(t, impl.ClaimNew(a, addr).Claim, ticks)}
					keeps, goes := told(t, there, impl.ClaimNew(b, addr))
					same(t, "keeps it", keeps.Addr, addr)
					same(t, "has its address", keeps.State != impl.ClLost, true)
					if !goes.Name.Auto {
						sameClaim(t, "may not go elsewhere", goes, lost(goes.Name, addr))
						continue
					}
					sameClaim(t, "goes to the next", goes, waits(goes.Name, (addr+1)%252, addr))
				}
			}
		}
	}
}

// likeAModel is what becomes of a Claim, with Taken as a flag for each address.
func likeAModel(c impl.Claim, src int64, n impl.Name) impl.ClaimOut {
	if n == c.Name {
		return impl.ClaimOut{Claim: c}
	}
	var taken [252]bool
	for _, addr := range c.Taken {
		taken[addr] = true
	}
	if src <= 251 {
		taken[src] = true
	}
	c.Taken = nil
	for addr, is := range taken {
		if is {
			c.Taken = append(c.Taken, int64(addr))
		}
	}
	if c.State == 3 || src != c.Addr {
		return impl.ClaimOut{Claim: c}
	}
	if numberAsBits(c.Name) < numberAsBits(n) {
		return impl.ClaimOut{Claim: c, Send: true}
	}
	for addr := c.Addr + 1; c.Name.Auto && addr <= c.Addr+251; addr++ {
		if !taken[addr%252] {
			c.Addr, c.State, c.Left = addr%252, 1, 250
			return impl.ClaimOut{Claim: c, Send: true}
		}
	}
	c.Addr, c.State, c.Left = 254, 3, 0
	return impl.ClaimOut{Claim: c, Send: true}
}

// Claims that hear and tick at random, often of their own address, till they have lost or all addresses are Taken.
func TestClaimsHearAsSaid(t *testing.T) {
	r := rand.New(rand.NewSource(10))
	for range 60 {
		c := impl.ClaimNew(impl.Name{Unique: r.Int63n(20), Auto: r.Intn(4) > 0}, r.Int63n(252)).Claim
		for range 600 {
			if t.Failed() {
				return // all that follows would be wrong as well
			}
			if r.Intn(8) == 0 {
				c = ticked(t, c, 1+r.Intn(300))
			}
			src := r.Int63n(256)
			if r.Intn(2) == 0 {
				src = c.Addr
			}
			n := impl.Name{Unique: r.Int63n(20), Auto: r.Intn(4) > 0}
			got := impl.ClaimHear(c, src, n)
			sameClaimOut(t, "heard", got, likeAModel(c, src, n))
			same(t, "right", impl.ClaimRight(got.Claim), true)
			c = got.Claim
		}
	}
}

// spacious is a list with room behind it, into which a careless insert would write.
func spacious(l []int64) []int64 {
	whole := slices.Repeat([]int64{77}, len(l)+20)
	copy(whole, l)
	return whole[:len(l)]
}

// turned overwrites all of a list, and the room behind it.
func turned(l []int64) {
	for i := range l[:cap(l)] {
		l[:cap(l)][i] = -9
	}
}

func TestClaimsHandedInAreNotChanged(t *testing.T) {
	for _, taken := range [][]int64{nil, {3}, {3, 9}, {3, 7, 9}, allBut(100), span(0, impl.MaxAddr)} {
		for _, c := range []impl.Claim{waitsFor(1, auto(own), 7), waits(fixed(own), 7), holds(auto(own), 7), lost(auto(own))} {
			c.Taken = spacious(taken)
			kept := slices.Clone(c.Taken[:cap(c.Taken)])
			answers := []struct {
				what string
				give func() []int64
			}{
				{"ClaimTick", func() []int64 { return impl.ClaimTick(c).Claim.Taken }},
				{"ClaimHear of its own Name", func() []int64 { return impl.ClaimHear(c, 7, c.Name).Claim.Taken }},
				{"ClaimHear of a lesser Name", func() []int64 { return impl.ClaimHear(c, 7, auto(lesser)).Claim.Taken }},
				{"ClaimHear of a greater Name", func() []int64 { return impl.ClaimHear(c, 7, auto(greater)).Claim.Taken }},
				{"ClaimHear of the first address", func() []int64 { return impl.ClaimHear(c, 0, auto(greater)).Claim.Taken }},
				{"ClaimHear of the last address", func() []int64 { return impl.ClaimHear(c, impl.MaxAddr, auto(greater)).Claim.Taken }},
				{"ClaimHear of no address", func() []int64 { return impl.ClaimHear(c, 255, auto(greater)).Claim.Taken }},
				{"ClaimCan", func() []int64 { impl.ClaimCan(c); return nil }},
				{"ClaimRight", func() []int64 { impl.ClaimRight(c); return nil }},
			}
			for _, a := range answers {
				got := a.give()
				same(t, a.what+" changed Taken", slices.Equal(c.Taken[:cap(c.Taken)], kept), true)
				turned(got)
				same(t, a.what+" gives out Taken's memory", slices.Equal(c.Taken[:cap(c.Taken)], kept), true)
			}
		}
	}
}

// What is handed in may be turned later on: what was answered stays.
func TestClaimsAnsweredStay(t *testing.T) {
	c := holds(auto(own), 7, spacious([]int64{3, 9})...)
	ticks := impl.ClaimTick(c)
	itself := impl.ClaimHear(c, 7, auto(own))
	again := impl.ClaimHear(c, 9, auto(greater))
	more := impl.ClaimHear(c, 12, auto(greater))
	goes := impl.ClaimHear(c, 7, auto(lesser))
	turned(c.Taken)
	sameClaimOut(t, "ticked", ticks, impl.ClaimOut{Claim: holds(auto(own), 7, 3, 9)})
	sameClaimOut(t, "of itself", itself, impl.ClaimOut{Claim: holds(auto(own), 7, 3, 9)})
	sameClaimOut(t, "of one that is Taken", again, impl.ClaimOut{Claim: holds(auto(own), 7, 3, 9)})
	sameClaimOut(t, "of one more", more, impl.ClaimOut{Claim: holds(auto(own), 7, 3, 9, 12)})
	sameClaimOut(t, "gone", goes, impl.ClaimOut{Claim: waits(auto(own), 8, 3, 7, 9), Send: true})
}
