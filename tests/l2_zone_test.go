package tests

import (
	"math"
	"slices"
	"strconv"
	"strings"
	"testing"

	"loop.example/g00541/impl"
)

// ruleGoodDevice is what the document says of a good device, told zone by zone.
func ruleGoodDevice(d impl.Device) bool {
	if len(d.Zones) == 0 || len(d.Zones) > 6 {
		return false
	}
	open := 0
	for _, z := range d.Zones {
		if len(z.Data) > 60 || z.Sure < 0 || len(z.Data) < z.Sure {
			return false
		}
		if len(z.Data) == 60 && !z.Full {
			return false
		}
		if z.Data != "" && !z.Full {
			open++
		}
	}
	return open < 4
}

// ruleAppend is what the document says of AppendZone.
func ruleAppend(d impl.Device, k int, s string) (impl.Device, int, bool) {
	if !ruleGoodDevice(d) || k < 0 || k >= len(d.Zones) || d.Zones[k].Full || s == "" || len(s) > 20 {
		return impl.Device{}, 0, false
	}
	l := slices.Clone(d.Zones)
	at := len(l[k].Data)
	l[k].Data += s
	l[k].Full = len(l[k].Data) == 60
	if next := (impl.Device{Zones: l}); len(l[k].Data) <= 60 && ruleGoodDevice(next) {
		return next, at, true
	}
	return impl.Device{}, 0, false
}

// ruleChange is what the document says of a change to one zone: d with z as its zone k, where may holds.
func ruleChange(d impl.Device, k int, z impl.Zone, may bool) (impl.Device, bool) {
	if !may {
		return impl.Device{}, false
	}
	l := slices.Clone(d.Zones)
	l[k] = z
	return impl.Device{Zones: l}, true
}

func ruleReset(d impl.Device, k int) (impl.Device, bool) {
	return ruleChange(d, k, impl.Zone{}, ruleGoodDevice(d) && k >= 0 && k < len(d.Zones))
}

func ruleFinish(d impl.Device, k int) (impl.Device, bool) {
	if !ruleGoodDevice(d) || k < 0 || k >= len(d.Zones) {
		return impl.Device{}, false
	}
	z := d.Zones[k]
	return ruleChange(d, k, impl.Zone{Data: z.Data, Sure: z.Sure, Full: true}, z.Data != "" && !z.Full)
}

func ruleFlush(d impl.Device) (impl.Device, bool) {
	if !ruleGoodDevice(d) {
		return impl.Device{}, false
	}
	l := slices.Clone(d.Zones)
	for i, z := range l {
		l[i].Sure = len(z.Data)
	}
	return impl.Device{Zones: l}, true
}

func ruleCrash(d impl.Device, keep []int) (impl.Device, bool) {
	if !ruleGoodDevice(d) || len(keep) != len(d.Zones) {
		return impl.Device{}, false
	}
	var l []impl.Zone
	for i, z := range d.Zones {
		if keep[i] < z.Sure || keep[i] > len(z.Data) {
			return impl.Device{}, false
		}
		l = append(l, impl.Zone{Data: z.Data[:keep[i]], Sure: keep[i], Full: z.Full && len(z.Data) == keep[i]})
	}
	if next := (impl.Device{Zones: l}); ruleGoodDevice(next) {
		return next, true
	}
	return impl.Device{}, false
}

func wantDevice(t *testing.T, what string, got impl.Device, ok bool, want impl.Device, wantOk bool) {
	t.Helper()
	if !slices.Equal(got.Zones, want.Zones) || ok != wantOk {
		t.Errorf("%s: got %q %v, want %q %v", what, zoneTexts(got), ok, zoneTexts(want), wantOk)
	}
}

func zoneTexts(d impl.Device) []string {
	var l []string
	for _, z := range d.Zones {
		l = append(l, z.Data+"|"+strconv.Itoa(z.Sure)+"|"+strconv.FormatBool(z.Full))
	}
	return l
}

func longs(d impl.Device) []int {
	var l []int
	for _, z := range d.Zones {
		l = append(l, len(z.Data))
	}
	return l
}

func sures(d impl.Device) []int {
	var l []int
	for _, z := range d.Zones {
		l = append(l, z.Sure)
	}
	return l
}

func openOf(d impl.Device) []int {
	var l []int
	for i, z := range d.Zones {
		if len(z.Data) > 0 && !z.Full {
			l = append(l, i)
		}
	}
	return l
}

// edgeDevices are good ones that lie at what the chapter names.
func edgeDevices() []impl.Device {
	z := func(long int, sure int, full bool) impl.Zone {
		return impl.Zone{Data: mixedText(long, uint32(long+7*sure)), Sure: sure, Full: full}
	}
	empty := impl.Zone{}
	return []impl.Device{
		{Zones: []impl.Zone{empty}},
		{Zones: []impl.Zone{z(1, 0, false)}},
		{Zones: []impl.Zone{z(1, 1, false)}},
		{Zones: []impl.Zone{z(59, 0, false)}},
		{Zones: []impl.Zone{z(59, 59, false)}},
		{Zones: []impl.Zone{z(60, 0, true)}},
		{Zones: []impl.Zone{z(60, 60, true)}},
		{Zones: []impl.Zone{z(5, 2, true)}},
		{Zones: []impl.Zone{z(0, 0, true)}},
		{Zones: []impl.Zone{z(40, 10, false), z(41, 10, false)}},
		{Zones: []impl.Zone{empty, z(7, 3, false), empty, z(9, 9, false), z(60, 13, true), z(20, 0, false)}},
		{Zones: []impl.Zone{z(60, 0, true), z(60, 59, true), z(60, 60, true), z(3, 0, true), z(2, 2, true), z(60, 1, true)}},
		{Zones: []impl.Zone{empty, empty, empty, empty, empty, empty}},
		{Zones: []impl.Zone{z(2, 0, false), z(3, 1, false), z(4, 4, false), empty}},
		{Zones: []impl.Zone{z(2, 0, true), z(3, 1, false), z(4, 4, false), z(4, 0, false)}},
	}
}

// badDevices are not good, each for one reason.
func badDevices() []impl.Device {
	z := func(long int, sure int, full bool) impl.Zone {
		return impl.Zone{Data: mixedText(long, 5), Sure: sure, Full: full}
	}
	l := []impl.Device{
		{},
		{Zones: []impl.Zone{}},
		{Zones: make([]impl.Zone, 7)},
		{Zones: make([]impl.Zone, 1000)},
		{Zones: []impl.Zone{z(61, 0, true)}},
		{Zones: []impl.Zone{z(61, 0, false)}},
		{Zones: []impl.Zone{z(400, 60, true)}},
		{Zones: []impl.Zone{z(60, 0, false)}},
		{Zones: []impl.Zone{z(60, 60, false)}},
		{Zones: []impl.Zone{{}, z(60, 3, false)}},
		{Zones: []impl.Zone{z(0, 1, false)}},
		{Zones: []impl.Zone{z(0, 1, true)}},
		{Zones: []impl.Zone{z(3, 4, false)}},
		{Zones: []impl.Zone{z(3, 4, true)}},
		{Zones: []impl.Zone{z(60, 61, true)}},
		{Zones: []impl.Zone{z(1, 0, false), z(1, 1, false), z(59, 0, false), z(2, 0, false)}},
		{Zones: []impl.Zone{z(1, 0, false), {}, z(1, 1, false), z(59, 0, false), {}, z(2, 0, false)}},
		{Zones: []impl.Zone{z(1, 0, false), z(1, 0, false), z(1, 0, false), z(1, 0, false), z(1, 0, false), z(1, 0, false)}},
	}
	for _, sure := range wrongNumbers {
		l = append(l, impl.Device{Zones: []impl.Zone{z(0, sure, false)}},
			impl.Device{Zones: []impl.Zone{{}, z(5, sure, false)}},
			impl.Device{Zones: []impl.Zone{z(60, sure, true)}})
	}
	return l
}

// walkDevices goes from new devices on by steps of all kinds, holds each step against the rule, and shows each device met.
func walkDevices(t *testing.T, walks int, steps int, show func(d impl.Device)) {
	t.Helper()
	for walk := range walks {
		n := &numbers{seed: uint64(walk)}
		d, ok := impl.NewDevice(1 + walk%6)
		if !ok {
			t.Fatal("no device")
		}
		for range steps {
			d = stepDevice(t, n, d)
			if t.Failed() {
				t.Fatalf("at walk %d", walk)
			}
			show(d)
		}
	}
}

// stepDevice does one step of a kind that n picks; appends are the most, so that zones fill up.
func stepDevice(t *testing.T, n *numbers, d impl.Device) impl.Device {
	t.Helper()
	k := n.below(len(d.Zones)+2) - 1
	var next, want impl.Device
	var ok, wantOk bool
	switch n.below(12) {
	default:
		s := mixedText(n.below(23), uint32(n.below(1000)))
		got, at, is := impl.AppendZone(d, k, s)
		should, wantAt, shouldOk := ruleAppend(d, k, s)
		wantNumber(t, "where an append begins", at, is, wantAt, shouldOk)
		next, ok, want, wantOk = got, is, should, shouldOk
	case 0:
		next, ok = impl.FlushDevice(d)
		want, wantOk = ruleFlush(d)
	case 1:
		next, ok = impl.FinishZone(d, k)
		want, wantOk = ruleFinish(d, k)
	case 2:
		next, ok = impl.ResetZone(d, k)
		want, wantOk = ruleReset(d, k)
	case 3:
		keep := longs(d)
		for i, z := range d.Zones {
			keep[i] -= n.below(len(z.Data) - z.Sure + 1)
		}
		next, ok = impl.CrashDevice(d, keep)
		want, wantOk = ruleCrash(d, keep)
	}
	wantDevice(t, "a step", next, ok, want, wantOk)
	if !ok {
		return d
	}
	return next
}

// wantCrashed holds what promise 2 says of a crash that was answered.
func wantCrashed(t *testing.T, d impl.Device, keep []int, c impl.Device) {
	t.Helper()
	if len(c.Zones) != len(d.Zones) || !impl.GoodDevice(c) {
		t.Fatalf("crash of %q by %v: %q", zoneTexts(d), keep, zoneTexts(c))
	}
	for i, z := range c.Zones {
		was := d.Zones[i]
		if !strings.HasPrefix(was.Data, z.Data) || len(z.Data) != keep[i] || len(z.Data) < was.Sure || z.Sure != keep[i] {
			t.Fatalf("zone %d of the crash of %q by %v: %q", i, zoneTexts(d), keep, zoneTexts(c))
		}
		if z.Full != (was.Full && keep[i] == len(was.Data)) {
			t.Fatalf("zone %d of the crash of %q by %v: Full is %v", i, zoneTexts(d), keep, z.Full)
		}
	}
}

func crash(t *testing.T, d impl.Device, keep []int) {
	t.Helper()
	c, ok := impl.CrashDevice(d, keep)
	want, wantOk := ruleCrash(d, keep)
	wantDevice(t, "a crash", c, ok, want, wantOk)
	if ok {
		wantCrashed(t, d, keep, c)
	}
}

// crashEveryKeep crashes with every keep of each zone, while the others keep all, or only what is Sure.
func crashEveryKeep(t *testing.T, d impl.Device) {
	t.Helper()
	for i, z := range d.Zones {
		for keep := z.Sure; keep <= len(z.Data); keep++ {
			for _, others := range [][]int{longs(d), sures(d)} {
				others[i] = keep
				crash(t, d, others)
			}
		}
	}
}

func TestZoneConstants(t *testing.T) {
	if impl.MaxZones != 6 || impl.ZoneSize != 60 || impl.MaxOpen != 3 {
		t.Error(impl.MaxZones, impl.ZoneSize, impl.MaxOpen)
	}
}

func TestNewDevice(t *testing.T) {
	for zones := 1; zones <= 6; zones++ {
		d, ok := impl.NewDevice(zones)
		wantDevice(t, "NewDevice "+strconv.Itoa(zones), d, ok, impl.Device{Zones: make([]impl.Zone, zones)}, true)
		if !impl.GoodDevice(d) {
			t.Error(zones, "is not good")
		}
	}
	for _, zones := range append([]int{0, 7, 8, 60}, wrongNumbers...) {
		d, ok := impl.NewDevice(zones)
		wantDevice(t, "NewDevice "+strconv.Itoa(zones), d, ok, impl.Device{}, false)
	}
}

func TestGoodDevice(t *testing.T) {
	for _, d := range edgeDevices() {
		if !impl.GoodDevice(d) || !ruleGoodDevice(d) {
			t.Errorf("%q is good", zoneTexts(d))
		}
	}
	for _, d := range badDevices() {
		if impl.GoodDevice(d) || ruleGoodDevice(d) {
			t.Errorf("%q is not good", zoneTexts(d))
		}
	}
}

// Promise 2, of devices made by steps of all kinds in any order.
func TestCrashKeepsABeginning(t *testing.T) {
	walkDevices(t, 60, 60, func(d impl.Device) {
		if !impl.GoodDevice(d) {
			t.Fatalf("not good: %q", zoneTexts(d))
		}
		crashEveryKeep(t, d)
	})
	for _, d := range edgeDevices() {
		crashEveryKeep(t, d)
	}
}

// Promise 2, of every two keeps that there are at once.
func TestCrashOfEveryTwoKeeps(t *testing.T) {
	d, _ := impl.NewDevice(2)
	n := &numbers{seed: 99}
	for range 40 {
		d = stepDevice(t, n, d)
		for a := d.Zones[0].Sure; a <= len(d.Zones[0].Data); a++ {
			for b := d.Zones[1].Sure; b <= len(d.Zones[1].Data); b++ {
				crash(t, d, []int{a, b})
			}
		}
	}
}

// A crash that takes all that may go, and one that takes nothing, are the same when all is flushed.
func TestFlushedStaysWhole(t *testing.T) {
	walkDevices(t, 24, 50, func(d impl.Device) {
		f, ok := impl.FlushDevice(d)
		if !ok || !slices.Equal(sures(f), longs(d)) {
			t.Fatalf("flush of %q: %q", zoneTexts(d), zoneTexts(f))
		}
		c, ok := impl.CrashDevice(f, longs(d))
		wantDevice(t, "a crash behind a flush", c, ok, f, true)
		for i := range f.Zones {
			keep := longs(f)
			keep[i]--
			c, ok = impl.CrashDevice(f, keep)
			wantDevice(t, "what was flushed does not go", c, ok, impl.Device{}, false)
		}
		again, ok := impl.FlushDevice(f)
		wantDevice(t, "a flush behind a flush", again, ok, f, true)
	})
}

func TestCrashKeepsWrong(t *testing.T) {
	for _, d := range edgeDevices() {
		for i, z := range d.Zones {
			for _, keep := range append([]int{z.Sure - 1, len(z.Data) + 1, 61, 1000}, wrongNumbers...) {
				for _, l := range [][]int{longs(d), sures(d)} {
					l[i] = keep
					c, ok := impl.CrashDevice(d, l)
					wantDevice(t, "a keep that is not there", c, ok, impl.Device{}, false)
				}
			}
		}
		all := longs(d)
		for _, keep := range [][]int{nil, {}, all[:len(all)-1], append(slices.Clone(all), 0), make([]int, 1000)} {
			c, ok := impl.CrashDevice(d, keep)
			wantDevice(t, "not a keep for each zone", c, ok, impl.Device{}, false)
		}
	}
	for _, d := range badDevices() {
		for _, keep := range [][]int{nil, make([]int, len(d.Zones)), longs(d), sures(d)} {
			c, ok := impl.CrashDevice(d, keep)
			wantDevice(t, "a crash of what is not good", c, ok, impl.Device{}, false)
		}
	}
}

// Full zones that lose their ends are open ones again: three may be, a fourth may not.
func TestCrashOfFullZonesOpensThem(t *testing.T) {
	full := impl.Zone{Data: mixedText(60, 1), Sure: 2, Full: true}
	done := impl.Zone{Data: "abcd", Full: true}
	d := impl.Device{Zones: []impl.Zone{full, done, full, done}}
	c, ok := impl.CrashDevice(d, []int{59, 4, 2, 3})
	want := impl.Device{Zones: []impl.Zone{{Data: full.Data[:59], Sure: 59}, {Data: "abcd", Sure: 4, Full: true}, {Data: full.Data[:2], Sure: 2}, {Data: "abc", Sure: 3}}}
	wantDevice(t, "three are open", c, ok, want, true)
	c, ok = impl.CrashDevice(d, []int{59, 3, 2, 3})
	wantDevice(t, "four are open", c, ok, impl.Device{}, false)
	c, ok = impl.CrashDevice(d, []int{59, 0, 2, 3})
	want.Zones[1] = impl.Zone{}
	wantDevice(t, "one has nothing more", c, ok, want, true)
	c, ok = impl.CrashDevice(d, []int{60, 4, 60, 4})
	want = impl.Device{Zones: slices.Clone(d.Zones)}
	for i, z := range want.Zones {
		want.Zones[i].Sure = len(z.Data)
	}
	wantDevice(t, "all stay Full", c, ok, want, true)
}

func TestAppendsOfEveryLength(t *testing.T) {
	for at := 0; at <= 60; at++ {
		z := impl.Zone{Data: mixedText(at, 3), Sure: at / 2, Full: at == 60}
		d := impl.Device{Zones: []impl.Zone{{Data: "x"}, z}}
		for _, long := range []int{0, 1, 2, 19, 20, 21, 22, 59 - at, 60 - at, 61 - at, 100} {
			if long < 0 {
				continue
			}
			s := mixedText(long, 8)
			got, begin, ok := impl.AppendZone(d, 1, s)
			want, wantBegin, wantOk := ruleAppend(d, 1, s)
			wantNumber(t, "where "+strconv.Itoa(long)+" behind "+strconv.Itoa(at)+" begin", begin, ok, wantBegin, wantOk)
			wantDevice(t, strconv.Itoa(long)+" behind "+strconv.Itoa(at), got, ok, want, wantOk)
		}
	}
}

// zoneOf makes a device of one zone, by appends of the lengths given.
func zoneOf(t *testing.T, parts ...int) impl.Device {
	t.Helper()
	d, ok := impl.NewDevice(1)
	for _, long := range parts {
		if d, _, ok = impl.AppendZone(d, 0, strings.Repeat("a", long)); !ok {
			t.Fatal("no append of", long)
		}
	}
	return d
}

func TestAppendThatJustFills(t *testing.T) {
	d := zoneOf(t, 20, 20, 19)
	if d.Zones[0].Full {
		t.Error("full with 59 bytes")
	}
	got, at, ok := impl.AppendZone(d, 0, "bc")
	wantNumber(t, "a byte too long", at, ok, 0, false)
	wantDevice(t, "a byte too long", got, ok, impl.Device{}, false)
	got, at, ok = impl.AppendZone(d, 0, "b")
	wantNumber(t, "just fills", at, ok, 59, true)
	wantDevice(t, "just fills", got, ok, impl.Device{Zones: []impl.Zone{{Data: strings.Repeat("a", 59) + "b", Full: true}}}, true)
	if open, ok := impl.OpenZones(got); len(open) != 0 || !ok {
		t.Error("a full zone is open", open, ok)
	}
	got, at, ok = impl.AppendZone(got, 0, "c")
	wantNumber(t, "behind a full zone", at, ok, 0, false)
	wantDevice(t, "behind a full zone", got, ok, impl.Device{}, false)
	d = zoneOf(t, 20, 20, 20)
	if !d.Zones[0].Full {
		t.Error("not full with 60 bytes")
	}
	f, ok := impl.FinishZone(zoneOf(t, 3), 0)
	if !ok {
		t.Fatal("not finished")
	}
	got, at, ok = impl.AppendZone(f, 0, "c")
	wantNumber(t, "behind a finished zone", at, ok, 0, false)
	wantDevice(t, "behind a finished zone", got, ok, impl.Device{}, false)
}

func TestAppendLengths(t *testing.T) {
	for _, c := range []struct {
		long int
		ok   bool
	}{{0, false}, {1, true}, {2, true}, {19, true}, {20, true}, {21, false}, {60, false}, {5000, false}} {
		d, _ := impl.NewDevice(6)
		s := mixedText(c.long, 4)
		want := impl.Device{}
		if c.ok {
			want.Zones = make([]impl.Zone, 6)
			want.Zones[5].Data = s
		}
		got, at, ok := impl.AppendZone(d, 5, s)
		wantNumber(t, "append of "+strconv.Itoa(c.long), at, ok, 0, c.ok)
		wantDevice(t, "append of "+strconv.Itoa(c.long), got, ok, want, c.ok)
	}
}

func TestAppendKeepsWhatIsSure(t *testing.T) {
	d := impl.Device{Zones: []impl.Zone{{Data: "abc", Sure: 2}, {Data: "d", Sure: 1, Full: true}}}
	got, at, ok := impl.AppendZone(d, 0, "ef")
	wantNumber(t, "behind abc", at, ok, 3, true)
	wantDevice(t, "behind abc", got, ok, impl.Device{Zones: []impl.Zone{{Data: "abcef", Sure: 2}, {Data: "d", Sure: 1, Full: true}}}, true)
}

func TestFourthOpenZone(t *testing.T) {
	d, _ := impl.NewDevice(6)
	for _, k := range []int{4, 0, 2} {
		var ok bool
		if d, _, ok = impl.AppendZone(d, k, "ab"); !ok {
			t.Fatal("zone", k)
		}
	}
	if open, ok := impl.OpenZones(d); !ok || !slices.Equal(open, []int{0, 2, 4}) {
		t.Error(open, ok)
	}
	for _, k := range []int{1, 3, 5} {
		got, at, ok := impl.AppendZone(d, k, "c")
		wantNumber(t, "a fourth one", at, ok, 0, false)
		wantDevice(t, "a fourth one", got, ok, impl.Device{}, false)
	}
	if _, at, ok := impl.AppendZone(d, 2, "c"); at != 2 || !ok {
		t.Error("an open one takes more", at, ok)
	}
	for _, change := range []func(impl.Device, int) (impl.Device, bool){impl.FinishZone, impl.ResetZone} {
		e, _ := change(d, 0)
		got, at, ok := impl.AppendZone(e, 1, "c")
		wantNumber(t, "one fewer is open", at, ok, 0, true)
		if open, _ := impl.OpenZones(got); !slices.Equal(open, []int{1, 2, 4}) {
			t.Error(open)
		}
	}
}

func TestFinishZone(t *testing.T) {
	for name, c := range map[string]struct {
		zone impl.Zone
		ok   bool
	}{
		"empty":           {impl.Zone{}, false},
		"open":            {impl.Zone{Data: "abc", Sure: 1}, true},
		"open with 1":     {impl.Zone{Data: "a"}, true},
		"open with 59":    {impl.Zone{Data: mixedText(59, 2), Sure: 59}, true},
		"full of 60":      {impl.Zone{Data: mixedText(60, 2), Sure: 4, Full: true}, false},
		"finished":        {impl.Zone{Data: "abc", Sure: 1, Full: true}, false},
		"empty, but Full": {impl.Zone{Full: true}, false},
	} {
		d := impl.Device{Zones: []impl.Zone{{Data: "q", Sure: 1}, c.zone}}
		want := impl.Device{}
		if c.ok {
			want.Zones = []impl.Zone{{Data: "q", Sure: 1}, {Data: c.zone.Data, Sure: c.zone.Sure, Full: true}}
		}
		got, ok := impl.FinishZone(d, 1)
		wantDevice(t, "FinishZone of one that is "+name, got, ok, want, c.ok)
	}
}

func TestResetZone(t *testing.T) {
	for _, d := range edgeDevices() {
		for k := range d.Zones {
			want := impl.Device{Zones: slices.Clone(d.Zones)}
			want.Zones[k] = impl.Zone{}
			got, ok := impl.ResetZone(d, k)
			wantDevice(t, "ResetZone "+strconv.Itoa(k), got, ok, want, true)
		}
	}
	d := zoneOf(t, 20, 20, 20)
	d, _ = impl.FlushDevice(d)
	d, ok := impl.ResetZone(d, 0)
	wantDevice(t, "a full zone", d, ok, impl.Device{Zones: make([]impl.Zone, 1)}, true)
	d, at, ok := impl.AppendZone(d, 0, "new")
	wantNumber(t, "from the beginning on", at, ok, 0, true)
	wantDevice(t, "from the beginning on", d, ok, impl.Device{Zones: []impl.Zone{{Data: "new"}}}, true)
}

// What is appended is read where AppendZone told, and what lies ahead stays.
func TestReadWhatWasAppended(t *testing.T) {
	for walk := range 40 {
		n := &numbers{seed: uint64(walk)}
		d, _ := impl.NewDevice(6)
		had := make([]string, 6)
		for range 60 {
			k, s := n.below(6), mixedText(1+n.below(20), uint32(n.below(500)))
			next, at, ok := impl.AppendZone(d, k, s)
			if !ok {
				had[k] = ""
				d, _ = impl.ResetZone(d, k)
				continue
			}
			if at != len(had[k]) {
				t.Fatalf("begins at %d, not %d", at, len(had[k]))
			}
			had[k] += s
			d = next
			got, ok := impl.ReadZone(d, k, at, len(s))
			wantText(t, "what was appended", got, ok, s, true)
			for i := range had {
				got, ok = impl.ReadZone(d, i, 0, len(had[i]))
				wantText(t, "all of a zone", got, ok, had[i], true)
			}
		}
	}
}

func TestReadZone(t *testing.T) {
	for _, d := range edgeDevices() {
		for k, z := range d.Zones {
			for from := 0; from <= len(z.Data); from++ {
				for long := 0; from+long <= len(z.Data); long++ {
					if got, ok := impl.ReadZone(d, k, from, long); got != z.Data[from:from+long] || !ok {
						t.Fatalf("%d from %d of %d: %q %v", long, from, len(z.Data), got, ok)
					}
				}
				got, ok := impl.ReadZone(d, k, from, len(z.Data)-from+1)
				wantText(t, "one beyond the end", got, ok, "", false)
			}
			got, ok := impl.ReadZone(d, k, len(z.Data)+1, 0)
			wantText(t, "from beyond the end", got, ok, "", false)
		}
	}
}

func TestReadZoneWrong(t *testing.T) {
	d := impl.Device{Zones: []impl.Zone{{Data: "abcde"}, {}}}
	for _, wrong := range wrongNumbers {
		for _, c := range [][3]int{{0, wrong, 0}, {0, 0, wrong}, {0, wrong, wrong}, {0, wrong, 1}, {0, 1, wrong}, {0, 5, wrong}, {0, wrong, 5},
			{0, wrong, -wrong}, {0, wrong, 5 - wrong}, {0, 2 - wrong, wrong}, {1, wrong, 0}, {1, 0, wrong}, {wrong, 0, 0}, {wrong, 0, 1}} {
			got, ok := impl.ReadZone(d, c[0], c[1], c[2])
			wantText(t, "ReadZone by "+strconv.Itoa(c[0])+" "+strconv.Itoa(c[1])+" "+strconv.Itoa(c[2]), got, ok, "", false)
		}
	}
	for _, k := range []int{2, 3, 6, 60} {
		got, ok := impl.ReadZone(d, k, 0, 0)
		wantText(t, "no such zone", got, ok, "", false)
	}
}

func TestOpenZones(t *testing.T) {
	walkDevices(t, 30, 50, func(d impl.Device) {
		if open, ok := impl.OpenZones(d); !ok || !slices.Equal(open, openOf(d)) {
			t.Fatalf("%q: %v %v", zoneTexts(d), open, ok)
		}
	})
	for _, d := range edgeDevices() {
		if open, ok := impl.OpenZones(d); !ok || !slices.Equal(open, openOf(d)) {
			t.Errorf("%q: %v %v", zoneTexts(d), open, ok)
		}
	}
}

func TestZonesThatAreNotThere(t *testing.T) {
	for _, d := range edgeDevices() {
		for _, k := range append([]int{len(d.Zones), len(d.Zones) + 1, 60}, wrongNumbers...) {
			got, at, ok := impl.AppendZone(d, k, "a")
			wantNumber(t, "AppendZone "+strconv.Itoa(k), at, ok, 0, false)
			wantDevice(t, "AppendZone "+strconv.Itoa(k), got, ok, impl.Device{}, false)
			got, ok = impl.ResetZone(d, k)
			wantDevice(t, "ResetZone "+strconv.Itoa(k), got, ok, impl.Device{}, false)
			got, ok = impl.FinishZone(d, k)
			wantDevice(t, "FinishZone "+strconv.Itoa(k), got, ok, impl.Device{}, false)
			s, ok := impl.ReadZone(d, k, 0, 0)
			wantText(t, "ReadZone "+strconv.Itoa(k), s, ok, "", false)
		}
	}
}

func TestDevicesThatAreNotGood(t *testing.T) {
	for _, d := range badDevices() {
		what := " of " + strings.Join(zoneTexts(d), " ")
		for _, k := range []int{0, 1, len(d.Zones) - 1, len(d.Zones), -1, math.MaxInt, math.MinInt} {
			got, at, ok := impl.AppendZone(d, k, "a")
			wantNumber(t, "AppendZone"+what, at, ok, 0, false)
			wantDevice(t, "AppendZone"+what, got, ok, impl.Device{}, false)
			got, ok = impl.ResetZone(d, k)
			wantDevice(t, "ResetZone"+what, got, ok, impl.Device{}, false)
			got, ok = impl.FinishZone(d, k)
			wantDevice(t, "FinishZone"+what, got, ok, impl.Device{}, false)
			s, ok := impl.ReadZone(d, k, 0, 0)
			wantText(t, "ReadZone"+what, s, ok, "", false)
		}
		got, ok := impl.FlushDevice(d)
		wantDevice(t, "FlushDevice"+what, got, ok, impl.Device{}, false)
		if open, ok := impl.OpenZones(d); len(open) != 0 || ok {
			t.Error("OpenZones"+what, open, ok)
		}
	}
}

// shownDevice is a device whose texts lie over bytes that can be looked at, with zones behind its list's length.
func shownDevice(d impl.Device) (impl.Device, [][]byte, []impl.Zone) {
	all := make([]impl.Zone, 0, len(d.Zones)+2)
	var bytes [][]byte
	for _, z := range append(slices.Clone(d.Zones), impl.Zone{Data: "behind", Sure: -3}, impl.Zone{Data: "it", Sure: 99, Full: true}) {
		b := []byte(z.Data)
		bytes = append(bytes, b)
		all = append(all, impl.Zone{Data: overBytes(b), Sure: z.Sure, Full: z.Full})
	}
	return impl.Device{Zones: all[:len(d.Zones)]}, bytes, all
}

// deviceAnswers has every device and text that the functions answer of a device.
func deviceAnswers(d impl.Device, s string, keeps ...[]int) ([]impl.Device, []string) {
	var devices []impl.Device
	var texts []string
	add := func(a impl.Device, ok bool) { devices = append(devices, a) }
	for k := range d.Zones {
		a, _, ok := impl.AppendZone(d, k, s)
		add(a, ok)
		add(impl.FinishZone(d, k))
		add(impl.ResetZone(d, k))
		for _, long := range []int{0, 1, len(d.Zones[k].Data)} {
			text, _ := impl.ReadZone(d, k, 0, long)
			texts = append(texts, text)
		}
	}
	add(impl.FlushDevice(d))
	for _, keep := range keeps {
		add(impl.CrashDevice(d, keep))
	}
	impl.OpenZones(d)
	impl.GoodDevice(d)
	return devices, texts
}

func TestZoneFunctionsLeaveArgumentsAlone(t *testing.T) {
	for _, from := range append(edgeDevices(), badDevices()[3:]...) {
		d, bytes, all := shownDevice(from)
		was := slices.Clone(zoneTexts(impl.Device{Zones: all}))
		whole, least := longs(d), sures(d)
		half := slices.Clone(whole)
		for i := range half {
			half[i] = (whole[i] + least[i] + 1) / 2
		}
		s := []byte("text")
		devices, texts := deviceAnswers(d, overBytes(s), whole, least, half)
		for _, a := range devices {
			for i, z := range a.Zones {
				texts = append(texts, z.Data)
				a.Zones[i] = impl.Zone{Data: "written over", Sure: 12, Full: true}
			}
		}
		if !slices.Equal(zoneTexts(impl.Device{Zones: all}), was) || string(s) != "text" || !slices.Equal(whole, longs(d)) || !slices.Equal(least, sures(d)) {
			t.Errorf("an argument was changed: %q", was)
		}
		for _, text := range texts {
			for _, b := range append(bytes, s) {
				if shares(text, b) {
					t.Errorf("an answer of %q shares an argument's memory", was)
				}
			}
		}
	}
}

// Zones of one answer are apart, even where the argument's were one text.
func TestAnsweredZonesAreApart(t *testing.T) {
	b := []byte("the same")
	z := impl.Zone{Data: overBytes(b), Sure: 2}
	d := impl.Device{Zones: []impl.Zone{z, z, z}}
	devices, _ := deviceAnswers(d, z.Data, []int{8, 8, 8}, []int{2, 8, 3})
	for _, a := range devices {
		for i, one := range a.Zones {
			for _, other := range a.Zones[:i] {
				if len(one.Data) > 0 && shares(other.Data, bytesUnder(one.Data)) {
					t.Errorf("two zones of %q share memory", zoneTexts(a))
				}
			}
		}
	}
}

func TestZoneFunctionsAnswerAlikeTwice(t *testing.T) {
	for _, d := range edgeDevices() {
		first, texts := deviceAnswers(d, "abc", longs(d), sures(d))
		again, textsAgain := deviceAnswers(d, "abc", longs(d), sures(d))
		for i := range first {
			wantDevice(t, "again", again[i], true, first[i], true)
		}
		if !slices.Equal(texts, textsAgain) {
			t.Error("texts read again are others")
		}
	}
}
