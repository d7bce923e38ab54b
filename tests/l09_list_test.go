package tests

import (
	"math"
	"math/rand"
	"slices"
	"testing"

	"loop.example/g00628/impl"
)

// device is one of that Name, with all else of it 0.
func device(unique int64, addr int64, age int64) impl.Device {
	return impl.Device{Name: impl.Name{Unique: unique}, Addr: addr, Age: age}
}

// fleet are so many Devices of the Uniques 10, 20 and so on, of Addrs that fall from 100 on, each a tick older.
func fleet(n int) []impl.Device {
	var l []impl.Device
	for i := int64(1); i <= int64(n); i++ {
		l = append(l, device(10*i, 101-i, i))
	}
	return l
}

// someoneElse is a right Name that none of a fleet has.
func someoneElse() impl.Name {
	return impl.Name{Unique: 35}
}

// sameDevices fails if a list is not the one that is asked for; an empty one and none are the same.
func sameDevices(t *testing.T, what string, got []impl.Device, want []impl.Device) {
	t.Helper()
	if !slices.Equal(got, want) {
		t.Errorf("%s: got %s, want %s", what, shown(got), shown(want))
	}
}

// nameAsSaid says whether each part of a Name is in its range.
func nameAsSaid(n impl.Name) bool {
	return !slices.ContainsFunc(nameParts(), func(p namePart) bool {
		return *p.of(&n) < 0 || *p.of(&n) > p.greatest
	})
}

// devicesAsSaid says whether Devices are right: their Names' numbers in a row, their Addrs as a set.
func devicesAsSaid(l []impl.Device) bool {
	addrs := map[int64]bool{}
	var numbers []uint64
	for _, d := range l {
		if !nameAsSaid(d.Name) || d.Addr < 0 || d.Addr > 251 || d.Age < 0 || d.Age > 600 {
			return false
		}
		addrs[d.Addr] = true
		numbers = append(numbers, numberAsBits(d.Name))
	}
	return len(l) <= 8 && len(addrs) == len(l) && slices.IsSorted(numbers) && len(slices.Compact(numbers)) == len(l)
}

// rightFleets are Devices at the edges of what may be there.
func rightFleets() [][]impl.Device {
	l := [][]impl.Device{nil, {}}
	for n := 1; n <= impl.MaxDevices; n++ {
		l = append(l, fleet(n))
	}
	for _, addr := range []int64{0, 1, impl.MaxAddr - 1, impl.MaxAddr} {
		for _, age := range []int64{0, 1, impl.MaxSilent - 1, impl.MaxSilent} {
			l = append(l, []impl.Device{device(5, addr, age)})
		}
	}
	between := impl.Name{Unique: 1000000, Maker: 1000, Instance: 100, Function: 150, Class: 50, System: 6, Industry: 4}
	for _, p := range nameParts() {
		l = append(l, []impl.Device{{Name: between, Addr: 9}, {Name: p.with(between, *p.of(&between)+1), Addr: 3}})
	}
	for _, n := range sampleNames()[:50] {
		l = append(l, []impl.Device{{Name: n, Addr: 7}})
	}
	return append(l,
		[]impl.Device{device(1, impl.MaxAddr, 0), device(2, 0, impl.MaxSilent)},
		[]impl.Device{{Addr: 0}, {Name: greatestName(), Addr: impl.MaxAddr}},
		[]impl.Device{{Name: fixed(9), Addr: 2}, {Name: auto(3), Addr: 1}},
		[]impl.Device{{Name: fixed(3), Addr: 2}, {Name: auto(3), Addr: 1}})
}

// spoiledFleet are Devices of which one is turned.
func spoiledFleet(n int, place int, turn func(d *impl.Device)) []impl.Device {
	l := fleet(n)
	turn(&l[place])
	return l
}

// wrongFleets are Devices that are not right, most of them of one fault alone, at each place.
func wrongFleets() [][]impl.Device {
	l := [][]impl.Device{fleet(impl.MaxDevices + 1), fleet(impl.MaxDevices + 2), fleet(100), make([]impl.Device, impl.MaxList)}
	for _, n := range []int{1, 2, 5, impl.MaxDevices} {
		for place := range n {
			for _, addr := range []int64{-1, impl.MaxAddr + 1, 253, impl.NoAddr, 255, 256, -256, 1 << 32, math.MinInt64, math.MaxInt64} {
				l = append(l, spoiledFleet(n, place, func(d *impl.Device) { d.Addr = addr }))
			}
			for _, age := range []int64{-1, impl.MaxSilent + 1, impl.MaxTime, -600, 1 << 32, math.MinInt64, math.MaxInt64} {
				l = append(l, spoiledFleet(n, place, func(d *impl.Device) { d.Age = age }))
			}
			for _, p := range nameParts() {
				l = append(l, spoiledFleet(n, place, func(d *impl.Device) { *p.of(&d.Name) = -1 }))
				l = append(l, spoiledFleet(n, place, func(d *impl.Device) { *p.of(&d.Name) = p.greatest + 1 }))
			}
			for other := range place {
				alike := fleet(n)[other]
				l = append(l, spoiledFleet(n, place, func(d *impl.Device) { d.Addr = alike.Addr }))
				l = append(l, spoiledFleet(n, place, func(d *impl.Device) { d.Name = alike.Name }))
				swapped := fleet(n)
				swapped[other], swapped[place] = swapped[place], swapped[other]
				l = append(l, swapped)
			}
		}
	}
	return append(l,
		[]impl.Device{device(5, 7, 0), device(5, 7, 0)},
		[]impl.Device{{Name: auto(3), Addr: 1}, {Name: fixed(9), Addr: 2}},
		[]impl.Device{{Name: auto(3), Addr: 1}, {Name: fixed(3), Addr: 2}},
		[]impl.Device{{Name: greatestName(), Addr: 1}, {Addr: 2}})
}

func TestListNumbersAsSaid(t *testing.T) {
	got := []int64{impl.MaxDevices, impl.MaxSilent, impl.MaxRanks, impl.MaxTime, impl.MaxList}
	if !slices.Equal(got, []int64{8, 600, 5, 1000000, 400}) {
		t.Errorf("got %v", got)
	}
}

func TestDevicesRight(t *testing.T) {
	for _, l := range rightFleets() {
		same(t, "as said: "+shown(l), devicesAsSaid(l), true)
		same(t, shown(l), impl.DevicesRight(l), true)
	}
	for _, l := range wrongFleets() {
		same(t, "as said: "+shown(l), devicesAsSaid(l), false)
		same(t, shown(l), impl.DevicesRight(l), false)
	}
	same(t, "none", impl.DevicesRight(nil), true)
	same(t, "MaxDevices", impl.DevicesRight(fleet(8)), true)
	same(t, "one more", impl.DevicesRight(fleet(9)), false)
	same(t, "MaxList", impl.DevicesRight(fleet(impl.MaxList)), false)
	same(t, "more than MaxList", impl.DevicesRight(fleet(impl.MaxList+1)), false)
	for _, n := range wrongNames() {
		same(t, shown(n), impl.DevicesRight([]impl.Device{{Name: n, Addr: 7}}), false)
	}
}

// Devices of a few Names and Addrs at random: many of them are right, and many not.
func TestDevicesRightAsSaid(t *testing.T) {
	r := rand.New(rand.NewSource(40))
	right := 0
	for range 20000 {
		var l []impl.Device
		for range r.Intn(4) {
			l = append(l, impl.Device{Name: impl.Name{Unique: r.Int63n(4), Auto: r.Intn(2) == 0}, Addr: r.Int63n(6), Age: 595 + r.Int63n(7)})
		}
		want := devicesAsSaid(l)
		same(t, shown(l), impl.DevicesRight(l), want)
		if want && len(l) > 1 {
			right++
		}
	}
	same(t, "many are right", right > 500, true)
}

// arrival is a case of a claim that is heard, and of who is there then.
type arrival struct {
	what string
	l    []impl.Device
	addr int64
	n    impl.Name
	want []impl.Device
}

// arrive fails for each case of which the answer is another one.
func arrive(t *testing.T, cases []arrival) {
	t.Helper()
	for _, x := range cases {
		sameDevices(t, x.what, impl.DeviceHear(x.l, x.addr, x.n), x.want)
	}
}

func TestDeviceHear(t *testing.T) {
	a, b, c := device(10, 7, 3), device(20, 5, 600), device(30, 9, 0)
	all := []impl.Device{a, b, c}
	named := func(unique int64) impl.Name { return impl.Name{Unique: unique} }
	arrive(t, []arrival{
		{"into none", nil, 7, named(10), []impl.Device{device(10, 7, 0)}},
		{"into an empty list", []impl.Device{}, 0, named(0), []impl.Device{{}}},
		{"ahead of all", all, 1, named(5), []impl.Device{device(5, 1, 0), a, b, c}},
		{"between", all, 1, named(15), []impl.Device{a, device(15, 1, 0), b, c}},
		{"behind all", all, 1, named(35), []impl.Device{a, b, c, device(35, 1, 0)}},
		{"behind all, as it is Auto", all, 1, auto(5), []impl.Device{a, b, c, {Name: auto(5), Addr: 1}}},
		{"one that is Auto, and not", all, 1, impl.Name{Unique: 20, Auto: true}, []impl.Device{a, b, c, {Name: impl.Name{Unique: 20, Auto: true}, Addr: 1}}},
		{"the first one again", all, 7, named(10), []impl.Device{device(10, 7, 0), b, c}},
		{"one that was silent long again", all, 5, named(20), []impl.Device{a, device(20, 5, 0), c}},
		{"the last one again", all, 9, named(30), []impl.Device{a, b, device(30, 9, 0)}},
		{"the first one goes elsewhere", all, 8, named(10), []impl.Device{device(10, 8, 0), b, c}},
		{"one between goes elsewhere", all, 0, named(20), []impl.Device{a, device(20, 0, 0), c}},
		{"the last one goes elsewhere", all, impl.MaxAddr, named(30), []impl.Device{a, b, device(30, 251, 0)}},
		{"a lesser Name has another one's Addr", all, 5, named(1), []impl.Device{device(1, 5, 0), a, c}},
		{"a greater Name has another one's Addr", all, 7, named(99), []impl.Device{b, c, device(99, 7, 0)}},
		{"a Name between has the last one's Addr", all, 9, named(25), []impl.Device{a, b, device(25, 9, 0)}},
		{"both at once, the first one's Addr", all, 7, named(30), []impl.Device{b, device(30, 7, 0)}},
		{"both at once, the last one's Addr", all, 9, named(10), []impl.Device{device(10, 9, 0), b}},
		{"both at once, of two", []impl.Device{a, b}, 5, named(10), []impl.Device{device(10, 5, 0)}},
		{"none is left but it", []impl.Device{a}, 7, named(99), []impl.Device{device(99, 7, 0)}},
		{"no address of a Name that is there", all, impl.NoAddr, named(20), []impl.Device{a, c}},
		{"no address of a Name that is alone", []impl.Device{a}, impl.NoAddr, named(10), nil},
		{"no address of a Name that is not there", all, impl.NoAddr, named(25), all},
		{"no address, and nobody is there", nil, impl.NoAddr, named(25), nil},
		{"252 of a Name that is there", all, 252, named(10), []impl.Device{b, c}},
		{"253 of a Name that is there", all, 253, named(30), []impl.Device{a, b}},
		{"255 of a Name that is there", all, 255, named(30), []impl.Device{a, b}},
		{"252 of a Name that is not there", all, 252, named(1), all},
		{"255 of a Name that is not there", all, 255, named(1), all},
		{"MaxAddr of a Name that is not there", all, 251, named(1), []impl.Device{device(1, 251, 0), a, b, c}},
		{"256", all, 256, named(10), all},
		{"-1", all, -1, named(10), all},
	})
}

func TestDeviceHearWhereMaxDevicesAre(t *testing.T) {
	l := fleet(impl.MaxDevices)
	named := func(unique int64) impl.Name { return impl.Name{Unique: unique} }
	without := func(places ...int) []impl.Device {
		var kept []impl.Device
		for i, d := range l {
			if !slices.Contains(places, i) {
				kept = append(kept, d)
			}
		}
		return kept
	}
	arrive(t, []arrival{
		{"there is no room", l, 1, named(5), l},
		{"nor behind them", l, 1, named(99), l},
		{"nor for no address", l, impl.NoAddr, named(5), l},
		{"there is room of one fewer", l[:7], 1, named(99), append(fleet(7), device(99, 1, 0))},
		{"one of them goes elsewhere", l, 1, named(10), append([]impl.Device{device(10, 1, 0)}, without(0)...)},
		{"one of them again", l, 93, named(80), append(without(7), device(80, 93, 0))},
		{"one more has the Addr of one of them", l, 100, named(99), append(without(0), device(99, 100, 0))},
		{"a lesser one has the Addr of one of them", l, 93, named(1), append([]impl.Device{device(1, 93, 0)}, without(7)...)},
		{"both at once", l, 100, named(80), append(without(0, 7), device(80, 100, 0))},
		{"one of them has no address", l, impl.NoAddr, named(80), without(7)},
	})
}

func TestDeviceHearOfWhatMayNotBe(t *testing.T) {
	l := fleet(3)
	for _, wrong := range wrongFleets() {
		for _, n := range []impl.Name{someoneElse(), {Unique: 10}, {Unique: -1}} {
			for _, addr := range []int64{100, 1, 0, impl.NoAddr, 255, -1, 256} {
				sameDevices(t, "Devices that are not right stay", impl.DeviceHear(wrong, addr, n), wrong)
			}
		}
	}
	for _, n := range wrongNames() {
		sameDevices(t, shown(n), impl.DeviceHear(l, 100, n), l)
		sameDevices(t, shown(n), impl.DeviceHear(l, impl.NoAddr, n), l)
		sameDevices(t, "into none", impl.DeviceHear(nil, 1, n), nil)
	}
	for _, addr := range []int64{-1, 256, 257, 355, 356, -156, 1<<32 + 100, math.MinInt64, math.MaxInt64} {
		sameDevices(t, shown(addr), impl.DeviceHear(l, addr, impl.Name{Unique: 10}), l)
		sameDevices(t, shown(addr), impl.DeviceHear(l, addr, someoneElse()), l)
		sameDevices(t, "into none", impl.DeviceHear(nil, addr, someoneElse()), nil)
	}
	sameDevices(t, "MaxList", impl.DeviceHear(fleet(impl.MaxList), 1, someoneElse()), fleet(impl.MaxList))
	for _, n := range []int{impl.MaxList + 1, impl.MaxList + 2, 3 * impl.MaxList} {
		sameDevices(t, "more than MaxList", impl.DeviceHear(fleet(n), 1, someoneElse()), nil)
		sameDevices(t, "that and no Name", impl.DeviceHear(fleet(n), 1, impl.Name{Unique: -1}), nil)
		sameDevices(t, "that and no addr", impl.DeviceHear(fleet(n), -1, someoneElse()), nil)
	}
}

// Of each addr that may be heard: of one that is there, of one that is not.
func TestDeviceHearOfEachAddr(t *testing.T) {
	l := []impl.Device{device(10, 0, 1), device(20, 251, 2), device(30, 100, 3)}
	for addr := int64(-20); addr <= 300; addr++ {
		for _, unique := range []int64{5, 10, 15, 20, 25, 30, 35} {
			n := impl.Name{Unique: unique}
			sameDevices(t, shown([]int64{addr, unique}), impl.DeviceHear(l, addr, n), hearsLikeASet(l, addr, n))
		}
	}
}

// hearsLikeASet is who is there once something right is heard, sorted anew.
func hearsLikeASet(l []impl.Device, addr int64, n impl.Name) []impl.Device {
	if addr < 0 || addr > 255 {
		return l
	}
	byNumber := map[uint64]impl.Device{}
	for _, d := range l {
		if d.Addr != addr {
			byNumber[numberAsBits(d.Name)] = d
		}
	}
	delete(byNumber, numberAsBits(n))
	if addr < 252 && len(byNumber) < 8 {
		byNumber[numberAsBits(n)] = impl.Device{Name: n, Addr: addr}
	}
	var numbers []uint64
	for number := range byNumber {
		numbers = append(numbers, number)
	}
	slices.Sort(numbers)
	var kept []impl.Device
	for _, number := range numbers {
		kept = append(kept, byNumber[number])
	}
	return kept
}

// Who claims last has the address, and nobody else, whatever was heard ahead of that, and however long it was silent.
func TestWhoClaimsLastHasTheAddress(t *testing.T) {
	r := rand.New(rand.NewSource(41))
	full, had := 0, 0
	for range 200 {
		var l []impl.Device
		for range 200 {
			if t.Failed() {
				return // all that follows would be wrong as well
			}
			for range r.Intn(30) / 29 * r.Intn(400) {
				l = impl.DeviceTick(l)
			}
			n := impl.Name{Unique: r.Int63n(6), Maker: r.Int63n(2), Auto: r.Intn(2) == 0}
			addr := 240 + r.Int63n(16)
			want := hearsLikeASet(l, addr, n)
			l = impl.DeviceHear(l, addr, n)
			sameDevices(t, "heard", l, want)
			same(t, "right", impl.DevicesRight(l), true)
			switch got := impl.AddrOf(l, n); {
			case addr > impl.MaxAddr:
				same(t, "it has none", got, -1)
			case got == -1:
				same(t, "without room alone", len(l), impl.MaxDevices)
				full++
			default:
				same(t, "it has the address", got, addr)
				had++
			}
			for _, d := range l {
				same(t, "nobody else", d.Addr == addr && d.Name != n, false)
			}
		}
	}
	same(t, "many had it", had > 10000, true)
	same(t, "many had no room", full > 100, true)
}

func TestDeviceTick(t *testing.T) {
	a, b, c := device(10, 7, 3), device(20, 5, 599), device(30, 9, 600)
	cases := []struct {
		what string
		l    []impl.Device
		want []impl.Device
	}{
		{"none", nil, nil},
		{"an empty list", []impl.Device{}, nil},
		{"of Age 0", []impl.Device{device(10, 7, 0)}, []impl.Device{device(10, 7, 1)}},
		{"one below MaxSilent", []impl.Device{b}, []impl.Device{device(20, 5, 600)}},
		{"MaxSilent", []impl.Device{c}, nil},
		{"the last one goes", []impl.Device{a, b, c}, []impl.Device{device(10, 7, 4), device(20, 5, 600)}},
		{"the first one goes", []impl.Device{device(1, 2, 600), a, b}, []impl.Device{device(10, 7, 4), device(20, 5, 600)}},
		{"one between goes", []impl.Device{a, device(15, 2, 600), b}, []impl.Device{device(10, 7, 4), device(20, 5, 600)}},
		{"all go", []impl.Device{device(1, 2, 600), device(2, 3, 600), c}, nil},
		{"more than MaxList", make([]impl.Device, impl.MaxList+1), nil},
	}
	for _, x := range cases {
		sameDevices(t, x.what, impl.DeviceTick(x.l), x.want)
	}
	for _, l := range rightFleets() {
		var want []impl.Device
		for _, d := range l {
			if d.Age++; d.Age <= 600 {
				want = append(want, d)
			}
		}
		sameDevices(t, shown(l), impl.DeviceTick(l), want)
		same(t, "right still", impl.DevicesRight(impl.DeviceTick(l)), true)
	}
	for _, l := range wrongFleets() {
		sameDevices(t, shown(l), impl.DeviceTick(l), nil)
	}
}

// A Device is there for MaxSilent ticks, and goes with the next one, if it is not heard.
func TestADeviceThatIsSilentGoes(t *testing.T) {
	n := impl.Name{Unique: 10}
	l := impl.DeviceHear(nil, 7, n)
	for age := int64(1); age <= impl.MaxSilent; age++ {
		l = impl.DeviceTick(l)
		sameDevices(t, "older", l, []impl.Device{device(10, 7, age)})
	}
	sameDevices(t, "too old", impl.DeviceTick(l), nil)
	same(t, "it has no Addr then", impl.AddrOf(impl.DeviceTick(l), n), -1)
	l = impl.DeviceHear(l, 7, n)
	sameDevices(t, "heard just in time", l, []impl.Device{device(10, 7, 0)})
}

func TestAddrOf(t *testing.T) {
	for _, l := range rightFleets() {
		for _, d := range l {
			same(t, "one that is there", impl.AddrOf(l, d.Name), d.Addr)
		}
		same(t, "one that is not", impl.AddrOf(l, impl.Name{Unique: 777}), -1)
		for _, n := range wrongNames()[:20] {
			same(t, "no Name", impl.AddrOf(l, n), -1)
		}
	}
	l := fleet(5)
	nearly := l[2].Name
	for _, p := range nameParts() {
		same(t, "unlike in one part: "+p.what, impl.AddrOf(l, p.with(nearly, *p.of(&nearly)+1)), -1)
	}
	nearly.Auto = true
	same(t, "unlike in Auto alone", impl.AddrOf(l, nearly), -1)
	for _, wrong := range wrongFleets() {
		for _, d := range wrong {
			same(t, "of Devices that are not right", impl.AddrOf(wrong, d.Name), -1)
		}
	}
	same(t, "MaxList", impl.AddrOf(fleet(impl.MaxList), impl.Name{Unique: 10}), -1)
	same(t, "more than MaxList", impl.AddrOf(fleet(impl.MaxList+1), impl.Name{Unique: 10}), -1)
	same(t, "more than MaxList, all zero", impl.AddrOf(make([]impl.Device, impl.MaxList+1), impl.Name{}), -1)
}

// spare is a list with room behind it, into which a careless append would write.
func spare[T any](l []T, behind T) []T {
	whole := make([]T, len(l)+9)
	for i := range whole {
		whole[i] = behind
	}
	copy(whole, l)
	return whole[:len(l)]
}

// ruined turns all of a list, and the room behind it.
func ruined[T any](l []T, other T) {
	for i := range l[:cap(l)] {
		l[:cap(l)][i] = other
	}
}

// deviceAnswers are answers of each kind that are Devices, of a list that is handed in.
func deviceAnswers(l []impl.Device) [][]impl.Device {
	return [][]impl.Device{
		impl.DeviceTick(l),
		impl.DeviceHear(l, 1, impl.Name{Unique: 5}),
		impl.DeviceHear(l, 1, someoneElse()),
		impl.DeviceHear(l, 1, impl.Name{Unique: 999}),
		impl.DeviceHear(l, 1, impl.Name{Unique: 10}),
		impl.DeviceHear(l, 100, impl.Name{Unique: 10}),
		impl.DeviceHear(l, 99, impl.Name{Unique: 10}),
		impl.DeviceHear(l, 100, impl.Name{Unique: 30}),
		impl.DeviceHear(l, 98, impl.Name{Unique: 999}),
		impl.DeviceHear(l, impl.NoAddr, impl.Name{Unique: 10}),
		impl.DeviceHear(l, impl.NoAddr, impl.Name{Unique: 30}),
		impl.DeviceHear(l, impl.NoAddr, someoneElse()),
		impl.DeviceHear(l, -1, someoneElse()),
		impl.DeviceHear(l, 256, impl.Name{Unique: 10}),
		impl.DeviceHear(l, 1, impl.Name{Unique: -1}),
	}
}

func TestDevicesHandedInAreNotChanged(t *testing.T) {
	wrong := fleet(5)
	wrong[1].Addr = wrong[0].Addr
	for _, given := range [][]impl.Device{fleet(1), fleet(3), fleet(impl.MaxDevices), fleet(impl.MaxDevices + 1), wrong} {
		l := spare(given, device(77, 77, 77))
		kept := slices.Clone(l[:cap(l)])
		want := deviceAnswers(slices.Clone(given))
		got := deviceAnswers(l)
		impl.DevicesRight(l)
		impl.AddrOf(l, impl.Name{Unique: 10})
		sameDevices(t, "changed", l[:cap(l)], kept)
		for _, answer := range deviceAnswers(l) {
			ruined(answer, device(-9, -9, -9))
			sameDevices(t, "given out", l[:cap(l)], kept)
		}
		ruined(l, device(-9, -9, -9))
		for i := range got {
			sameDevices(t, "what was answered stays", got[i], want[i])
			ruined(got[i], device(-8, -8, -8))
			for j := i + 1; j < len(got); j++ {
				sameDevices(t, "shared with another answer", got[j], want[j])
			}
		}
	}
}

// heardOf is what is heard of one Src.
func heardOf(src int64, n int64, age int64) impl.Heard {
	return impl.Heard{Src: src, N: n, Age: age}
}

// picker is one of these Ranks.
func picker(ranks []int64, l ...impl.Heard) impl.Picker {
	return impl.Picker{Ranks: ranks, Heard: l}
}

// samePicker fails if a Picker is not the one that is asked for; an empty list and none are the same.
func samePicker(t *testing.T, what string, got impl.Picker, want impl.Picker) {
	t.Helper()
	if !slices.Equal(got.Ranks, want.Ranks) {
		t.Errorf("%s, Ranks: got %v, want %v", what, got.Ranks, want.Ranks)
	}
	if !slices.Equal(got.Heard, want.Heard) {
		t.Errorf("%s, Heard: got %v, want %v", what, got.Heard, want.Heard)
	}
}

// pickerAsSaid says whether a Picker is right: each list held against itself, place by place.
func pickerAsSaid(p impl.Picker) bool {
	for i, a := range p.Ranks {
		if a < 0 || a > 251 || slices.Index(p.Ranks, a) != i {
			return false
		}
	}
	for i, h := range p.Heard {
		if slices.Index(p.Ranks, h.Src) < 0 || i > 0 && h.Src <= p.Heard[i-1].Src {
			return false
		}
		if h.N != int64(int32(h.N)) || h.Age < 0 || h.Age > 1000000 {
			return false
		}
	}
	return len(p.Ranks) <= 5
}

// rightPickers are Pickers at the edges of what they may hold.
func rightPickers() []impl.Picker {
	five := []int64{9, 251, 0, 40, 3}
	l := []impl.Picker{
		{}, picker([]int64{}), picker([]int64{0}), picker([]int64{251}), picker([]int64{0, 251}), picker([]int64{251, 0}),
		picker([]int64{1, 2, 3, 4, 5}), picker([]int64{5, 4, 3, 2, 1}), picker(five),
		picker(five, heardOf(0, 1, 2), heardOf(3, 4, 5), heardOf(9, 6, 7), heardOf(40, 8, 9), heardOf(251, 10, 11)),
		picker(five, heardOf(251, -5, 0)), picker(five, heardOf(0, 0, 0)), picker(five, heardOf(3, 1, 1), heardOf(251, 1, 1)),
	}
	for _, n := range []int64{-2147483648, -2147483647, -1, 0, 1, 2147483646, 2147483647} {
		for _, age := range []int64{0, 1, 999999, 1000000} {
			l = append(l, picker([]int64{7, 5}, heardOf(5, n, age)), picker([]int64{7, 5}, heardOf(5, 0, 0), heardOf(7, n, age)))
		}
	}
	return l
}

// wrongPickers are Pickers that are not right, most of them of one fault alone.
func wrongPickers() []impl.Picker {
	long := slices.Repeat([]impl.Heard{heardOf(5, 1, 1)}, impl.MaxList+1)
	l := []impl.Picker{
		picker([]int64{1, 2, 3, 4, 5, 6}), picker([]int64{5, 5}), picker([]int64{5, 6, 5}), picker([]int64{1, 2, 3, 4, 4}),
		picker([]int64{1, 2, 3, 4, 1}), picker([]int64{-1}), picker([]int64{252}), picker([]int64{5, 252}), picker([]int64{-1, 5}),
		picker([]int64{254}), picker([]int64{255}), picker([]int64{256}), picker([]int64{math.MinInt64}), picker([]int64{1, math.MaxInt64}),
		picker(make([]int64, 6)), picker(span(0, impl.MaxList)), picker(span(0, impl.MaxAddr)), picker([]int64{-1, -1}),
		picker(nil, heardOf(5, 1, 1)), picker([]int64{7}, heardOf(5, 1, 1)), picker([]int64{7}, heardOf(7, 1, 1), heardOf(8, 1, 1)),
		picker([]int64{5, 7}, heardOf(6, 1, 1)), picker([]int64{5, 7}, heardOf(5, 1, 1), heardOf(6, 1, 1), heardOf(7, 1, 1)),
		picker([]int64{5, 7}, heardOf(5, 1, 1), heardOf(5, 1, 1)), picker([]int64{5, 7}, heardOf(5, 1, 1), heardOf(5, 2, 2), heardOf(7, 1, 1)),
		picker([]int64{5, 7}, heardOf(7, 1, 1), heardOf(5, 1, 1)), picker([]int64{7, 5}, heardOf(7, 1, 1), heardOf(5, 1, 1)),
		picker([]int64{7, 5}, heardOf(5, 1, 1), heardOf(7, 1, 1), heardOf(7, 1, 1)), picker([]int64{5}, long...), picker(span(0, impl.MaxList), long...),
		picker([]int64{-1}, heardOf(-1, 1, 1)), picker([]int64{252}, heardOf(252, 1, 1)), picker([]int64{5, 5}, heardOf(5, 1, 1)),
	}
	for _, n := range []int64{-2147483649, 2147483648, 1 << 32, -1 << 32, math.MinInt64, math.MaxInt64} {
		l = append(l, picker([]int64{7, 5}, heardOf(5, n, 1)), picker([]int64{7, 5}, heardOf(5, 1, 1), heardOf(7, n, 1)))
	}
	for _, age := range []int64{-1, 1000001, 1 << 32, math.MinInt64, math.MaxInt64} {
		l = append(l, picker([]int64{7, 5}, heardOf(5, 1, age)), picker([]int64{7, 5}, heardOf(5, 1, 1), heardOf(7, 1, age)))
	}
	return l
}

func TestPickerRight(t *testing.T) {
	for _, p := range rightPickers() {
		same(t, "as said: "+shown(p), pickerAsSaid(p), true)
		same(t, shown(p), impl.PickerRight(p), true)
	}
	for _, p := range wrongPickers() {
		same(t, "as said: "+shown(p), pickerAsSaid(p), false)
		same(t, shown(p), impl.PickerRight(p), false)
	}
}

// Pickers of a few numbers at random: many of them are right, and many not.
func TestPickerRightAsSaid(t *testing.T) {
	r := rand.New(rand.NewSource(42))
	right := 0
	for range 50000 {
		var p impl.Picker
		for range r.Intn(7) {
			p.Ranks = append(p.Ranks, 245+r.Int63n(9))
		}
		for range r.Intn(4) {
			p.Heard = append(p.Heard, heardOf(245+r.Int63n(9), math.MaxInt32-20+r.Int63n(22), impl.MaxTime-20+r.Int63n(22)))
		}
		want := pickerAsSaid(p)
		same(t, shown(p), impl.PickerRight(p), want)
		if want && len(p.Heard) > 0 {
			right++
		}
	}
	same(t, "many are right", right > 500, true)
}

func TestPickHear(t *testing.T) {
	ranks := []int64{9, 251, 0, 40}
	three := []impl.Heard{heardOf(0, 1, 2), heardOf(9, 6, 7), heardOf(40, 8, 9)}
	cases := []struct {
		what string
		p    impl.Picker
		src  int64
		n    int64
		want impl.Picker
	}{
		{"the first one heard", picker(ranks), 9, 5, picker(ranks, heardOf(9, 5, 0))},
		{"of 0", picker(ranks), 0, 0, picker(ranks, heardOf(0, 0, 0))},
		{"of MaxAddr", picker(ranks), 251, -7, picker(ranks, heardOf(251, -7, 0))},
		{"one more ahead", picker(ranks, three[1:]...), 0, 5, picker(ranks, heardOf(0, 5, 0), three[1], three[2])},
		{"one more between", picker(ranks, three[0], three[2]), 9, 5, picker(ranks, three[0], heardOf(9, 5, 0), three[2])},
		{"one more behind", picker(ranks, three...), 251, 5, picker(ranks, three[0], three[1], three[2], heardOf(251, 5, 0))},
		{"the first of three again", picker(ranks, three...), 0, 5, picker(ranks, heardOf(0, 5, 0), three[1], three[2])},
		{"the second of three again", picker(ranks, three...), 9, 5, picker(ranks, three[0], heardOf(9, 5, 0), three[2])},
		{"the last of three again", picker(ranks, three...), 40, 5, picker(ranks, three[0], three[1], heardOf(40, 5, 0))},
		{"the same again", picker(ranks, heardOf(9, 5, 3)), 9, 5, picker(ranks, heardOf(9, 5, 0))},
		{"after MaxTime", picker(ranks, heardOf(9, 5, 1000000)), 9, 6, picker(ranks, heardOf(9, 6, 0))},
		{"the least n", picker(ranks), 9, -2147483648, picker(ranks, heardOf(9, -2147483648, 0))},
		{"the greatest n", picker(ranks), 9, 2147483647, picker(ranks, heardOf(9, 2147483647, 0))},
		{"below the least n", picker(ranks, three...), 9, -2147483649, picker(ranks, three...)},
		{"above the greatest n", picker(ranks, three...), 9, 2147483648, picker(ranks, three...)},
		{"below the least n, not heard yet", picker(ranks), 9, -2147483649, picker(ranks)},
		{"above the greatest n, not heard yet", picker(ranks), 9, 2147483648, picker(ranks)},
		{"n far away", picker(ranks, three...), 9, 1<<32 + 5, picker(ranks, three...)},
		{"not one of Ranks", picker(ranks, three...), 41, 5, picker(ranks, three...)},
		{"not one of Ranks, between", picker(ranks, three...), 8, 5, picker(ranks, three...)},
		{"not one of Ranks, above MaxAddr", picker(ranks, three...), 252, 5, picker(ranks, three...)},
		{"not one of Ranks, below 0", picker(ranks, three...), -1, 5, picker(ranks, three...)},
		{"nor may n be", picker(ranks, three...), -1, 1 << 40, picker(ranks, three...)},
		{"of no Ranks", picker(nil), 9, 5, picker(nil)},
		{"as many as Ranks", picker([]int64{9}), 9, 5, picker([]int64{9}, heardOf(9, 5, 0))},
	}
	for _, x := range cases {
		samePicker(t, x.what, impl.PickHear(x.p, x.src, x.n), x.want)
	}
	for _, p := range wrongPickers() {
		for _, src := range []int64{5, 7, 0, 1, 6, -1, 252} {
			for _, n := range []int64{3, math.MinInt64} {
				samePicker(t, "as it is", impl.PickHear(p, src, n), p)
			}
		}
	}
	for _, p := range rightPickers() {
		for _, src := range []int64{0, 3, 5, 7, 9, 40, 100, 251, 252} {
			same(t, "right still", impl.PickerRight(impl.PickHear(p, src, 3)), true)
		}
	}
}

func TestPickTick(t *testing.T) {
	ranks := []int64{9, 251, 0, 40}
	cases := []struct {
		what string
		p    impl.Picker
		want impl.Picker
	}{
		{"the zero one", impl.Picker{}, impl.Picker{}},
		{"nothing heard", picker(ranks), picker(ranks)},
		{"of Age 0", picker(ranks, heardOf(9, 5, 0)), picker(ranks, heardOf(9, 5, 1))},
		{"one below MaxTime", picker(ranks, heardOf(9, 5, 999999)), picker(ranks, heardOf(9, 5, 1000000))},
		{"MaxTime", picker(ranks, heardOf(9, 5, 1000000)), picker(ranks, heardOf(9, 5, 1000000))},
		{"several", picker(ranks, heardOf(0, 1, 1000000), heardOf(9, 2, 4), heardOf(40, 3, 999998), heardOf(251, 4, 1000000)),
			picker(ranks, heardOf(0, 1, 1000000), heardOf(9, 2, 5), heardOf(40, 3, 999999), heardOf(251, 4, 1000000))},
	}
	for _, x := range cases {
		samePicker(t, x.what, impl.PickTick(x.p), x.want)
	}
	for _, p := range rightPickers() {
		same(t, "right still", impl.PickerRight(impl.PickTick(p)), true)
	}
	for _, p := range wrongPickers() {
		samePicker(t, shown(p), impl.PickTick(p), impl.Picker{})
	}
}

func TestPick(t *testing.T) {
	ranks := []int64{9, 251, 0}
	all := picker(ranks, heardOf(0, 10, 5), heardOf(9, 20, 30), heardOf(251, 30, 12))
	none := impl.PickOut{Code: impl.ErrNone}
	wrong := impl.PickOut{Code: impl.ErrForm}
	cases := []struct {
		what   string
		p      impl.Picker
		window int64
		want   impl.PickOut
	}{
		{"the first of Ranks", all, 100, impl.PickOut{Src: 9, N: 20}},
		{"the first one just in the window", all, 30, impl.PickOut{Src: 9, N: 20}},
		{"the first one just out of it", all, 29, impl.PickOut{Src: 251, N: 30}},
		{"the second one just in the window", all, 12, impl.PickOut{Src: 251, N: 30}},
		{"the second one just out of it", all, 11, impl.PickOut{Src: 0, N: 10}},
		{"the last one just in the window", all, 5, impl.PickOut{Src: 0, N: 10}},
		{"all out of it", all, 4, none},
		{"all out of 0", all, 0, none},
		{"in a window of 0", picker(ranks, heardOf(251, 7, 0)), 0, impl.PickOut{Src: 251, N: 7}},
		{"out of a window of 0", picker(ranks, heardOf(251, 7, 1)), 0, none},
		{"in MaxTime", picker(ranks, heardOf(251, 7, 1000000)), 1000000, impl.PickOut{Src: 251, N: 7}},
		{"one out of MaxTime less 1", picker(ranks, heardOf(251, 7, 1000000)), 999999, none},
		{"the first one is not heard", picker(ranks, heardOf(0, 7, 3), heardOf(251, 8, 3)), 9, impl.PickOut{Src: 251, N: 8}},
		{"the last one alone is heard", picker(ranks, heardOf(0, 7, 3)), 9, impl.PickOut{N: 7}},
		{"by Ranks, not by Ages", picker([]int64{2, 1}, heardOf(1, 7, 0), heardOf(2, 8, 9)), 9, impl.PickOut{Src: 2, N: 8}},
		{"by Ranks, not by Srcs", picker([]int64{2, 1}, heardOf(1, 7, 3), heardOf(2, 8, 3)), 9, impl.PickOut{Src: 2, N: 8}},
		{"the least N", picker(ranks, heardOf(9, -2147483648, 3)), 9, impl.PickOut{Src: 9, N: -2147483648}},
		{"the greatest N", picker(ranks, heardOf(9, 2147483647, 3)), 9, impl.PickOut{Src: 9, N: 2147483647}},
		{"all zero", picker([]int64{0}, heardOf(0, 0, 0)), 0, impl.PickOut{}},
		{"none is heard", picker(ranks), 9, none},
		{"none is heard, in MaxTime", picker(ranks), 1000000, none},
		{"no Ranks", impl.Picker{}, 9, none},
		{"below 0", all, -1, wrong},
		{"above MaxTime", all, 1000001, wrong},
		{"far below", all, math.MinInt64, wrong},
		{"far above", all, math.MaxInt64, wrong},
		{"none is heard, and below 0", picker(ranks), -1, wrong},
		{"no Ranks, and above MaxTime", impl.Picker{}, 1000001, wrong},
	}
	for _, x := range cases {
		same(t, x.what, impl.Pick(x.p, x.window), x.want)
	}
	for _, p := range wrongPickers() {
		for _, window := range []int64{-1, 0, 1, 9, 1000000, 1000001} {
			same(t, shown(p), impl.Pick(p, window), wrong)
		}
	}
}

// What is heard goes on being believed till it is too old, and then the next one of Ranks is.
func TestOneThatIsSilentIsBelievedNoMore(t *testing.T) {
	p := impl.PickHear(impl.PickHear(picker([]int64{7, 3}), 7, 70), 3, 30)
	for tick := range 20 {
		want := impl.PickOut{Src: 7, N: 70}
		if tick > 10 {
			want = impl.PickOut{Src: 3, N: 30 + int64(tick)}
		}
		p = impl.PickHear(p, 3, 30+int64(tick))
		same(t, shown(tick), impl.Pick(p, 10), want)
		p = impl.PickTick(p)
	}
	same(t, "and again, once it is heard", impl.Pick(impl.PickHear(p, 7, 71), 10), impl.PickOut{Src: 7, N: 71})
}

// Pickers that hear and tick at random, beside a model that has what was heard last, and when, by Src.
func TestTheFirstThatIsHeardLatelyIsTaken(t *testing.T) {
	r := rand.New(rand.NewSource(43))
	for range 300 {
		var ranks []int64
		for _, i := range r.Perm(8)[:r.Intn(6)] {
			ranks = append(ranks, int64(31*i))
		}
		p, now := picker(ranks), int64(0)
		last, when := map[int64]int64{}, map[int64]int64{}
		for range 100 {
			src, n := int64(31*r.Intn(9)), int64(r.Uint64())>>r.Intn(64)
			p = impl.PickHear(p, src, n)
			if slices.Contains(ranks, src) && n == int64(int32(n)) {
				last[src], when[src] = n, now
			}
			for range r.Intn(4) {
				p = impl.PickTick(p)
				now++
			}
			same(t, "right", impl.PickerRight(p), true)
			same(t, "one of each that was heard", len(p.Heard), len(last))
			window := r.Int63n(20)
			want := impl.PickOut{Code: impl.ErrNone}
			for _, src := range slices.Backward(ranks) {
				if at, is := when[src]; is && now-at <= window {
					want = impl.PickOut{Src: src, N: last[src]}
				}
			}
			same(t, "picked", impl.Pick(p, window), want)
		}
	}
}

// pickerAnswers are answers of each kind that are Pickers, of one that is handed in.
func pickerAnswers(p impl.Picker) []impl.Picker {
	return []impl.Picker{
		impl.PickTick(p), impl.PickHear(p, 0, 5), impl.PickHear(p, 9, 5), impl.PickHear(p, 40, 5), impl.PickHear(p, 251, 5),
		impl.PickHear(p, 77, 5), impl.PickHear(p, 9, 1<<40), impl.PickHear(p, -1, 5),
	}
}

func TestPickersHandedInAreNotChanged(t *testing.T) {
	ranks := []int64{9, 251, 0, 40}
	for _, given := range []impl.Picker{
		picker(ranks), picker(ranks, heardOf(9, 5, 3)), picker(ranks, heardOf(0, 1, 1), heardOf(9, 5, 3), heardOf(40, 4, 4)),
		picker(ranks, heardOf(0, 1, 1), heardOf(9, 5, 3), heardOf(40, 4, 4), heardOf(251, 6, 6)),
		picker(ranks, heardOf(9, 5, 3), heardOf(0, 1, 1)), picker(span(0, 30), heardOf(9, 5, 3)),
	} {
		p := picker(spare(given.Ranks, 77), spare(given.Heard, heardOf(77, 77, 77))...)
		whole := func() impl.Picker { return picker(p.Ranks[:cap(p.Ranks)], p.Heard[:cap(p.Heard)]...) }
		kept := picker(slices.Clone(whole().Ranks), slices.Clone(whole().Heard)...)
		want := pickerAnswers(picker(slices.Clone(given.Ranks), slices.Clone(given.Heard)...))
		got := pickerAnswers(p)
		impl.PickerRight(p)
		impl.Pick(p, 9)
		impl.Pick(p, -1)
		samePicker(t, "changed", whole(), kept)
		for _, answer := range pickerAnswers(p) {
			ruined(answer.Ranks, -9)
			ruined(answer.Heard, heardOf(-9, -9, -9))
			samePicker(t, "given out", whole(), kept)
		}
		ruined(p.Ranks, -9)
		ruined(p.Heard, heardOf(-9, -9, -9))
		for i := range got {
			samePicker(t, "what was answered stays", got[i], want[i])
			ruined(got[i].Ranks, -8)
			ruined(got[i].Heard, heardOf(-8, -8, -8))
			for j := i + 1; j < len(got); j++ {
				samePicker(t, "shared with another answer", got[j], want[j])
			}
		}
	}
}
