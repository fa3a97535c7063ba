package tests

import (
	"math"
	"slices"
	"strconv"
	"testing"

	"loop.example/g00541/impl"
)

// ruleGoodMap is what the document says of a good map, stretch by stretch. Each number is looked at by itself first, so that no sum is beyond what an int has.
func ruleGoodMap(m []impl.Stretch) bool {
	for i, x := range m {
		if x.At < 0 || x.At > 15 || x.Long < 1 || x.Long > 16 || x.At+x.Long > 16 {
			return false
		}
		if x.Place < 0 || x.Place > 10000 || x.Place+x.Long-1 > 10000 {
			return false
		}
		if i == 0 {
			continue
		}
		ahead := m[i-1]
		if x.At < ahead.At+ahead.Long || x.At == ahead.At+ahead.Long && x.Place == ahead.Place+ahead.Long {
			return false
		}
	}
	return true
}

// rulePlaces is the place of each block of a good map, looked for in all its stretches.
func rulePlaces(m []impl.Stretch) []int {
	l := make([]int, 16)
	for b := range l {
		l[b] = -1
		for _, x := range m {
			if b >= x.At && b < x.At+x.Long {
				l[b] = x.Place + b - x.At
			}
		}
	}
	return l
}

// startsStretch tells whether a block has a place that doesn't go on from the block ahead.
func startsStretch(places []int, b int) bool {
	return places[b] != -1 && (b == 0 || places[b-1] == -1 || places[b-1]+1 != places[b])
}

// ruleMap has a stretch from each start up to where there is no place or the next start.
func ruleMap(places []int) []impl.Stretch {
	var m []impl.Stretch
	for b, place := range places {
		if !startsStretch(places, b) {
			continue
		}
		end := b + 1
		for end < 16 && places[end] != -1 && !startsStretch(places, end) {
			end++
		}
		m = append(m, impl.Stretch{At: b, Long: end - b, Place: place})
	}
	return m
}

func ruleGoodPlaces(places []int) bool {
	for _, place := range places {
		if place < -1 || place > 10000 {
			return false
		}
	}
	return len(places) == 16
}

// fewestStretches is how many a map of these places needs: one for each block that doesn't go on.
func fewestStretches(places []int) int {
	many := 0
	for b := range places {
		if startsStretch(places, b) {
			many++
		}
	}
	return many
}

func noPlaces() []int {
	return slices.Repeat([]int{-1}, 16)
}

// placesFrom is a list of 16 places that begins so; no other block has one.
func placesFrom(first ...int) []int {
	return append(first, noPlaces()[len(first):]...)
}

// somePlaces is a list in which places go on, break off and come twice.
func somePlaces(n *numbers, low int, high int) []int {
	l := noPlaces()
	for b := 0; b < 16; {
		long := 1 + n.below(5)
		place := low + n.below(high-low+1)
		none := n.below(4) == 0
		for ; long > 0 && b < 16; long-- {
			if !none && place <= high {
				l[b] = place
			}
			place++
			b++
		}
	}
	return l
}

// evenPlaces is a list in which each block lies so much further than the one ahead.
func evenPlaces(from int, by int) []int {
	l := noPlaces()
	for b := range l {
		l[b] = from + by*b
	}
	return l
}

// someLists are lists of places: the edges, and mixed ones, with few and with many places to choose from.
func someLists() [][]int {
	l := [][]int{
		noPlaces(), evenPlaces(0, 1), evenPlaces(9985, 1), evenPlaces(7, 1), evenPlaces(0, 0), evenPlaces(10000, 0), evenPlaces(15, -1), evenPlaces(10000, -1), evenPlaces(0, 2), evenPlaces(5, 3),
		placesFrom(0), placesFrom(10000), placesFrom(0, 1), placesFrom(1, 0), placesFrom(9999, 10000), placesFrom(10000, 0), placesFrom(-1, 0), placesFrom(0, -1, 2), placesFrom(0, -1, 1), placesFrom(5, 6, 9),
		placesFrom(4, 5, 6, 6, 7, 7), placesFrom(3, 3, 4, 5, 5),
	}
	for b := range 16 {
		alone := noPlaces()
		alone[b] = 10000 * (b % 2)
		l = append(l, alone)
		without := evenPlaces(40, 1)
		without[b] = -1
		l = append(l, without)
		beside := evenPlaces(40, 1)
		beside[b] = 3
		l = append(l, beside)
	}
	n := &numbers{seed: 44}
	for range 30 {
		l = append(l, somePlaces(n, 0, 3), somePlaces(n, 0, 20), somePlaces(n, 9990, 10000), somePlaces(n, 0, 10000))
	}
	return l
}

func someMaps() [][]impl.Stretch {
	maps := [][]impl.Stretch{nil, {}}
	for _, l := range someLists() {
		maps = append(maps, ruleMap(l))
	}
	return maps
}

// goodStretches lie at what the chapter names.
func goodStretches() []impl.Stretch {
	return []impl.Stretch{
		{At: 0, Long: 1, Place: 0}, {At: 0, Long: 1, Place: 10000}, {At: 15, Long: 1, Place: 0}, {At: 15, Long: 1, Place: 10000}, {At: 7, Long: 1, Place: 7},
		{At: 0, Long: 16, Place: 0}, {At: 0, Long: 16, Place: 9985}, {At: 1, Long: 15, Place: 9986}, {At: 0, Long: 15, Place: 9986}, {At: 14, Long: 2, Place: 9999}, {At: 0, Long: 2, Place: 9999},
	}
}

// badStretches are not good, each for one reason, or with numbers that wrap round.
func badStretches() []impl.Stretch {
	l := []impl.Stretch{
		{}, {At: 3}, {At: 0, Long: 0, Place: 5}, {At: 16, Long: 0, Place: 5}, {At: 3, Long: -1, Place: 5}, {At: 15, Long: -15, Place: 5},
		{At: -1, Long: 1, Place: 5}, {At: -1, Long: 2, Place: 5}, {At: -16, Long: 16, Place: 5}, {At: -1, Long: 17, Place: 5},
		{At: 16, Long: 1, Place: 5}, {At: 15, Long: 2, Place: 5}, {At: 1, Long: 16, Place: 5}, {At: 0, Long: 17, Place: 5}, {At: 10, Long: 7, Place: 5}, {At: 17, Long: 1, Place: 5},
		{At: 0, Long: 1, Place: -1}, {At: 0, Long: 2, Place: -1}, {At: 15, Long: 1, Place: -2}, {At: 0, Long: 1, Place: 10001}, {At: 15, Long: 1, Place: 10001},
		{At: 0, Long: 2, Place: 10000}, {At: 0, Long: 16, Place: 9986}, {At: 0, Long: 15, Place: 9987}, {At: 14, Long: 2, Place: 10000}, {At: 0, Long: 1, Place: 65536}, {At: 256, Long: 1, Place: 5}, {At: 0, Long: 257, Place: 5},
	}
	for _, wrong := range wrongNumbers {
		l = append(l, impl.Stretch{At: wrong, Long: 1, Place: 5}, impl.Stretch{At: 1, Long: wrong, Place: 5}, impl.Stretch{At: 1, Long: 1, Place: wrong}, impl.Stretch{At: 1, Long: 3, Place: wrong}, impl.Stretch{At: 0, Long: 16, Place: wrong}, impl.Stretch{At: wrong, Long: -wrong, Place: 5},
			impl.Stretch{At: wrong, Long: 16 - wrong, Place: 5}, impl.Stretch{At: wrong, Long: 1 - wrong, Place: 5}, impl.Stretch{At: wrong, Long: wrong, Place: wrong}, impl.Stretch{At: 1, Long: wrong, Place: 1 - wrong}, impl.Stretch{At: 1, Long: wrong, Place: wrong})
	}
	return l
}

// badMaps are not good, though all stretches of the first ones are.
func badMaps() [][]impl.Stretch {
	l := [][]impl.Stretch{
		{{At: 0, Long: 2, Place: 5}, {At: 2, Long: 1, Place: 7}}, {{At: 0, Long: 1, Place: 0}, {At: 1, Long: 1, Place: 1}}, {{At: 14, Long: 1, Place: 9999}, {At: 15, Long: 1, Place: 10000}},
		{{At: 0, Long: 1, Place: 9}, {At: 2, Long: 3, Place: 5}, {At: 5, Long: 2, Place: 8}}, {{At: 0, Long: 8, Place: 0}, {At: 8, Long: 8, Place: 8}},
		{{At: 0, Long: 2, Place: 5}, {At: 1, Long: 1, Place: 9}}, {{At: 0, Long: 2, Place: 5}, {At: 1, Long: 1, Place: 6}}, {{At: 0, Long: 2, Place: 5}, {At: 1, Long: 2, Place: 6}}, {{At: 0, Long: 16, Place: 5}, {At: 15, Long: 1, Place: 3}},
		{{At: 0, Long: 4, Place: 5}, {At: 1, Long: 1, Place: 6}}, {{At: 0, Long: 4, Place: 5}, {At: 1, Long: 1, Place: 60}}, {{At: 3, Long: 1, Place: 5}, {At: 0, Long: 8, Place: 5}},
		{{At: 3, Long: 1, Place: 5}, {At: 3, Long: 1, Place: 5}}, {{At: 3, Long: 1, Place: 5}, {At: 3, Long: 1, Place: 6}}, {{At: 3, Long: 1, Place: 5}, {At: 3, Long: 2, Place: 5}},
		{{At: 2, Long: 1, Place: 5}, {At: 0, Long: 1, Place: 9}}, {{At: 1, Long: 1, Place: 6}, {At: 0, Long: 1, Place: 5}}, {{At: 0, Long: 1, Place: 5}, {At: 4, Long: 1, Place: 9}, {At: 2, Long: 1, Place: 7}}, {{At: 15, Long: 1, Place: 5}, {At: 0, Long: 1, Place: 9}},
		slices.Repeat([]impl.Stretch{{At: 0, Long: 1, Place: 5}}, 16), slices.Repeat([]impl.Stretch{{At: 0, Long: 1, Place: 5}}, 17), slices.Repeat([]impl.Stretch{{At: 15, Long: 1, Place: 5}}, 500),
		append(ruleMap(evenPlaces(0, 2)), impl.Stretch{At: 15, Long: 1, Place: 30}), append(ruleMap(evenPlaces(0, 2)), impl.Stretch{At: 16, Long: 1, Place: 32}),
	}
	for _, bad := range badStretches() {
		l = append(l, []impl.Stretch{bad}, []impl.Stretch{{At: 0, Long: 1, Place: 77}, bad}, []impl.Stretch{bad, {At: 15, Long: 1, Place: 77}}, []impl.Stretch{{At: 0, Long: 1, Place: 77}, bad, {At: 15, Long: 1, Place: 77}})
	}
	return l
}

// wrongLists are no lists of places.
func wrongLists() [][]int {
	l := [][]int{nil, {}, {0}, {-1}, noPlaces()[:15], append(noPlaces(), -1), append(noPlaces(), 3), evenPlaces(0, 1)[:15], append(evenPlaces(0, 1), 16), slices.Repeat([]int{-1}, 32), slices.Repeat([]int{0}, 5000)}
	for _, wrong := range append([]int{-2, -3, 10001, 10002, 65536}, wrongNumbers[1:]...) {
		for _, b := range []int{0, 1, 8, 15} {
			none, all := noPlaces(), evenPlaces(9985, 1)
			none[b], all[b] = wrong, wrong
			l = append(l, none, all)
		}
	}
	return l
}

func stretchName(x impl.Stretch) string {
	return strconv.Itoa(x.At) + "+" + strconv.Itoa(x.Long) + " at " + strconv.Itoa(x.Place)
}

func wantMap(t *testing.T, what string, got []impl.Stretch, ok bool, want []impl.Stretch, wantOk bool) {
	t.Helper()
	if !slices.Equal(got, want) || ok != wantOk {
		t.Errorf("%s: got %v %v, want %v %v", what, got, ok, want, wantOk)
	}
	if ok && !impl.GoodMap(got) {
		t.Errorf("%s: %v is not good", what, got)
	}
}

func wantNumbers(t *testing.T, what string, got []int, ok bool, want []int, wantOk bool) {
	t.Helper()
	if !slices.Equal(got, want) || ok != wantOk {
		t.Errorf("%s: got %v %v, want %v %v", what, got, ok, want, wantOk)
	}
}

func TestExtentConstants(t *testing.T) {
	if impl.MaxStretches != 16 || impl.MaxPlace != 10000 {
		t.Error(impl.MaxStretches, impl.MaxPlace)
	}
}

func TestGoodMap(t *testing.T) {
	good := someMaps()
	for _, x := range goodStretches() {
		good = append(good, []impl.Stretch{x})
	}
	good = append(good,
		[]impl.Stretch{{At: 0, Long: 2, Place: 5}, {At: 2, Long: 1, Place: 6}}, []impl.Stretch{{At: 0, Long: 2, Place: 5}, {At: 2, Long: 1, Place: 8}}, []impl.Stretch{{At: 0, Long: 2, Place: 5}, {At: 2, Long: 1, Place: 5}},
		[]impl.Stretch{{At: 0, Long: 2, Place: 5}, {At: 3, Long: 1, Place: 7}}, []impl.Stretch{{At: 0, Long: 2, Place: 5}, {At: 3, Long: 1, Place: 8}}, []impl.Stretch{{At: 0, Long: 1, Place: 5}, {At: 15, Long: 1, Place: 5}})
	for _, m := range good {
		if !impl.GoodMap(m) || !ruleGoodMap(m) {
			t.Errorf("%v is good", m)
		}
	}
	for _, m := range badMaps() {
		if impl.GoodMap(m) || ruleGoodMap(m) {
			t.Errorf("%v is not good", m)
		}
	}
}

func TestGoodMapOfOneStretch(t *testing.T) {
	for at := -2; at <= 18; at++ {
		for long := -2; long <= 19; long++ {
			for _, place := range []int{-2, -1, 0, 1, 100, 9984, 9985, 9986, 9990, 9998, 9999, 10000, 10001, 10016} {
				m := []impl.Stretch{{At: at, Long: long, Place: place}}
				if impl.GoodMap(m) != ruleGoodMap(m) {
					t.Fatalf("%v: good is %v", m, impl.GoodMap(m))
				}
			}
		}
	}
}

// shortStretches are all of few blocks among the first ones, at few places.
func shortStretches(blocks int, places int) []impl.Stretch {
	var l []impl.Stretch
	for at := range blocks {
		for long := 1; long <= blocks-at; long++ {
			for place := range places {
				l = append(l, impl.Stretch{At: at, Long: long, Place: place})
			}
		}
	}
	return l
}

func TestGoodMapOfTwoAndThreeStretches(t *testing.T) {
	for _, x := range shortStretches(5, 7) {
		for _, y := range shortStretches(5, 7) {
			m := []impl.Stretch{x, y}
			if impl.GoodMap(m) != ruleGoodMap(m) {
				t.Fatalf("%v: good is %v", m, impl.GoodMap(m))
			}
		}
	}
	short := shortStretches(3, 4)
	for i := range len(short) * len(short) * len(short) {
		m := []impl.Stretch{short[i%len(short)], short[i/len(short)%len(short)], short[i/len(short)/len(short)]}
		if impl.GoodMap(m) != ruleGoodMap(m) {
			t.Fatalf("%v: good is %v", m, impl.GoodMap(m))
		}
	}
}

// Promise 4: the list comes back from its map, and no map of these places has fewer stretches.
func TestPlacesComeBackFromTheirMap(t *testing.T) {
	for _, l := range someLists() {
		m, ok := impl.MapOf(l)
		wantMap(t, "MapOf", m, ok, ruleMap(l), true)
		if len(m) != fewestStretches(l) {
			t.Errorf("%v has %d stretches, and needs %d", m, len(m), fewestStretches(l))
		}
		back, ok := impl.PlacesOf(m)
		wantNumbers(t, "PlacesOf", back, ok, l, true)
	}
}

// Promise 4: a good map comes back from its list, and tells each block's place.
func TestMapsComeBackFromTheirPlaces(t *testing.T) {
	maps := someMaps()
	for _, x := range goodStretches() {
		maps = append(maps, []impl.Stretch{x})
	}
	for _, m := range maps {
		l, ok := impl.PlacesOf(m)
		wantNumbers(t, "PlacesOf", l, ok, rulePlaces(m), true)
		back, ok := impl.MapOf(l)
		wantMap(t, "MapOf", back, ok, m, true)
		for b, place := range rulePlaces(m) {
			got, ok := impl.PlaceOf(m, b)
			wantNumber(t, "PlaceOf block "+strconv.Itoa(b), got, ok, max(place, 0), place != -1)
		}
	}
}

// Promise 4: all lists of few blocks and few places, one by one.
func TestEveryShortList(t *testing.T) {
	for i := range 5 * 5 * 5 * 5 * 5 {
		l := noPlaces()
		for b, left := 5, i; b < 10; b++ {
			l[b] = left%5 - 1
			left /= 5
		}
		m, ok := impl.MapOf(l)
		wantMap(t, "MapOf", m, ok, ruleMap(l), true)
		back, ok := impl.PlacesOf(m)
		wantNumbers(t, "PlacesOf", back, ok, l, true)
	}
}

func TestMapsKnownByHand(t *testing.T) {
	m, ok := impl.MapOf(placesFrom(5, 6, 9, -1, 10, 11, 11, 10))
	want := []impl.Stretch{{At: 0, Long: 2, Place: 5}, {At: 2, Long: 1, Place: 9}, {At: 4, Long: 2, Place: 10}, {At: 6, Long: 1, Place: 11}, {At: 7, Long: 1, Place: 10}}
	wantMap(t, "MapOf", m, ok, want, true)
	l, ok := impl.PlacesOf(want)
	wantNumbers(t, "PlacesOf", l, ok, placesFrom(5, 6, 9, -1, 10, 11, 11, 10), true)
	m, ok = impl.MapOf(noPlaces())
	wantMap(t, "no block has a place", m, ok, nil, true)
	m, ok = impl.MapOf(evenPlaces(9985, 1))
	wantMap(t, "all go on", m, ok, []impl.Stretch{{At: 0, Long: 16, Place: 9985}}, true)
	m, ok = impl.MapOf(evenPlaces(15, -1))
	if !ok || len(m) != 16 || m[0] != (impl.Stretch{At: 0, Long: 1, Place: 15}) || m[15] != (impl.Stretch{At: 15, Long: 1, Place: 0}) {
		t.Error("each block by itself:", m, ok)
	}
}

func TestPlaceOfWrong(t *testing.T) {
	whole := ruleMap(evenPlaces(3, 1))
	for _, block := range append([]int{16, 17, 256, 10000}, wrongNumbers...) {
		for _, m := range [][]impl.Stretch{nil, whole, ruleMap(evenPlaces(0, 2))} {
			got, ok := impl.PlaceOf(m, block)
			wantNumber(t, "PlaceOf block "+strconv.Itoa(block), got, ok, 0, false)
		}
	}
	for _, m := range badMaps() {
		for _, block := range []int{-1, 0, 1, 2, 15, 16} {
			got, ok := impl.PlaceOf(m, block)
			wantNumber(t, "PlaceOf of a map that is not good", got, ok, 0, false)
		}
	}
}

// The place 0 is one: it is not taken for none.
func TestPlaceZero(t *testing.T) {
	m := []impl.Stretch{{At: 4, Long: 1, Place: 0}}
	got, ok := impl.PlaceOf(m, 4)
	wantNumber(t, "at 0", got, ok, 0, true)
	unlike, ok := impl.UnlikeMaps(m, nil)
	wantNumbers(t, "at 0 and nowhere", unlike, ok, []int{4}, true)
	trimmed, ok := impl.TrimMap(m, 4, 1)
	wantMap(t, "at 0, trimmed", trimmed, ok, nil, true)
}

func TestMapOfWrong(t *testing.T) {
	for _, l := range wrongLists() {
		if ruleGoodPlaces(l) {
			t.Fatalf("%v is a list of places", l)
		}
		m, ok := impl.MapOf(l)
		wantMap(t, "MapOf "+strconv.Itoa(len(l))+" numbers", m, ok, nil, false)
	}
}

func TestPlacesOfWrong(t *testing.T) {
	for _, m := range badMaps() {
		l, ok := impl.PlacesOf(m)
		wantNumbers(t, "PlacesOf", l, ok, nil, false)
	}
}

// wantPut holds PutStretch, and TrimMap of the same blocks, against lists of places.
func wantPut(t *testing.T, m []impl.Stretch, x impl.Stretch) {
	t.Helper()
	put, trimmed := rulePlaces(m), rulePlaces(m)
	for i := range x.Long {
		put[x.At+i] = x.Place + i
		trimmed[x.At+i] = -1
	}
	got, ok := impl.PutStretch(m, x)
	wantMap(t, "PutStretch "+stretchName(x), got, ok, ruleMap(put), true)
	got, ok = impl.TrimMap(m, x.At, x.Long)
	wantMap(t, "TrimMap "+stretchName(x), got, ok, ruleMap(trimmed), true)
}

// Promise 4: the blocks of the stretch have its places, or none, all others those that they had.
func TestPutAndTrimEverySpan(t *testing.T) {
	n := &numbers{seed: 8}
	for _, m := range someMaps() {
		l := rulePlaces(m)
		for at := range 16 {
			for long := 1; long <= 16-at; long++ {
				wantPut(t, m, impl.Stretch{At: at, Long: long, Place: n.below(25)})
				wantPut(t, m, impl.Stretch{At: at, Long: long, Place: []int{0, 10001 - long}[n.below(2)]})
				// One that goes on from the block ahead, one from which the block behind goes on.
				if at > 0 && l[at-1] != -1 && l[at-1]+long <= 10000 {
					wantPut(t, m, impl.Stretch{At: at, Long: long, Place: l[at-1] + 1})
				}
				if at+long < 16 && l[at+long] >= long {
					wantPut(t, m, impl.Stretch{At: at, Long: long, Place: l[at+long] - long})
				}
			}
		}
	}
}

func TestPutKnownByHand(t *testing.T) {
	whole := []impl.Stretch{{At: 0, Long: 16, Place: 100}}
	three := []impl.Stretch{{At: 0, Long: 4, Place: 10}, {At: 4, Long: 4, Place: 50}, {At: 8, Long: 4, Place: 18}}
	for _, c := range []struct {
		what string
		m    []impl.Stretch
		x    impl.Stretch
		want []impl.Stretch
	}{
		{"into nothing", nil, impl.Stretch{At: 3, Long: 2, Place: 7}, []impl.Stretch{{At: 3, Long: 2, Place: 7}}},
		{"in the middle", whole, impl.Stretch{At: 5, Long: 2, Place: 7}, []impl.Stretch{{At: 0, Long: 5, Place: 100}, {At: 5, Long: 2, Place: 7}, {At: 7, Long: 9, Place: 107}}},
		{"at the front", whole, impl.Stretch{At: 0, Long: 2, Place: 7}, []impl.Stretch{{At: 0, Long: 2, Place: 7}, {At: 2, Long: 14, Place: 102}}},
		{"at the end", whole, impl.Stretch{At: 14, Long: 2, Place: 7}, []impl.Stretch{{At: 0, Long: 14, Place: 100}, {At: 14, Long: 2, Place: 7}}},
		{"over all", three, impl.Stretch{At: 0, Long: 16, Place: 0}, []impl.Stretch{{At: 0, Long: 16, Place: 0}}},
		{"over several", three, impl.Stretch{At: 2, Long: 8, Place: 0}, []impl.Stretch{{At: 0, Long: 2, Place: 10}, {At: 2, Long: 8, Place: 0}, {At: 10, Long: 2, Place: 20}}},
		{"what was there", whole, impl.Stretch{At: 5, Long: 2, Place: 105}, whole},
		{"all three go on", three, impl.Stretch{At: 4, Long: 4, Place: 14}, []impl.Stretch{{At: 0, Long: 12, Place: 10}}},
		{"the first two go on", three, impl.Stretch{At: 4, Long: 3, Place: 14}, []impl.Stretch{{At: 0, Long: 7, Place: 10}, {At: 7, Long: 1, Place: 53}, {At: 8, Long: 4, Place: 18}}},
		{"behind the last one", three, impl.Stretch{At: 12, Long: 4, Place: 22}, []impl.Stretch{{At: 0, Long: 4, Place: 10}, {At: 4, Long: 4, Place: 50}, {At: 8, Long: 8, Place: 18}}},
		{"behind the last one, not going on", three, impl.Stretch{At: 12, Long: 4, Place: 23}, append(slices.Clone(three), impl.Stretch{At: 12, Long: 4, Place: 23})},
	} {
		got, ok := impl.PutStretch(c.m, c.x)
		wantMap(t, c.what, got, ok, c.want, true)
	}
}

func TestTrimKnownByHand(t *testing.T) {
	three := []impl.Stretch{{At: 1, Long: 4, Place: 10}, {At: 5, Long: 4, Place: 50}, {At: 10, Long: 4, Place: 18}}
	for _, c := range []struct {
		what     string
		at, long int
		want     []impl.Stretch
	}{
		{"in the middle", 2, 2, []impl.Stretch{{At: 1, Long: 1, Place: 10}, {At: 4, Long: 1, Place: 13}, three[1], three[2]}},
		{"at the front", 1, 1, []impl.Stretch{{At: 2, Long: 3, Place: 11}, three[1], three[2]}},
		{"at the end", 4, 1, []impl.Stretch{{At: 1, Long: 3, Place: 10}, three[1], three[2]}},
		{"one of them", 5, 4, []impl.Stretch{three[0], three[2]}},
		{"over several", 4, 7, []impl.Stretch{{At: 1, Long: 3, Place: 10}, {At: 11, Long: 3, Place: 19}}},
		{"over all", 0, 16, nil},
		{"what has none", 9, 1, three},
		{"what has none, at the front", 0, 1, three},
		{"what has none, at the end", 14, 2, three},
	} {
		got, ok := impl.TrimMap(three, c.at, c.long)
		wantMap(t, c.what, got, ok, c.want, true)
		got, ok = impl.TrimMap(nil, c.at, c.long)
		wantMap(t, c.what+", of nothing", got, ok, nil, true)
	}
}

// A put behind a trim is the put, a trim behind a put the trim, and a put done twice is the put.
func TestPutsAndTrimsOfOneSpan(t *testing.T) {
	n := &numbers{seed: 15}
	for _, m := range someMaps() {
		x := impl.Stretch{At: n.below(16), Place: n.below(30)}
		x.Long = 1 + n.below(16-x.At)
		put, _ := impl.PutStretch(m, x)
		trimmed, _ := impl.TrimMap(m, x.At, x.Long)
		got, ok := impl.PutStretch(trimmed, x)
		wantMap(t, "a put behind a trim", got, ok, put, true)
		got, ok = impl.TrimMap(put, x.At, x.Long)
		wantMap(t, "a trim behind a put", got, ok, trimmed, true)
		got, ok = impl.PutStretch(put, x)
		wantMap(t, "a put done twice", got, ok, put, true)
		got, ok = impl.TrimMap(trimmed, x.At, x.Long)
		wantMap(t, "a trim done twice", got, ok, trimmed, true)
	}
}

func TestPutStretchWrong(t *testing.T) {
	for _, x := range badStretches() {
		for _, m := range [][]impl.Stretch{nil, ruleMap(evenPlaces(3, 1)), ruleMap(evenPlaces(0, 2))} {
			got, ok := impl.PutStretch(m, x)
			wantMap(t, "PutStretch "+stretchName(x), got, ok, nil, false)
		}
	}
	for _, m := range badMaps() {
		for _, x := range append(goodStretches(), badStretches()[:4]...) {
			got, ok := impl.PutStretch(m, x)
			wantMap(t, "PutStretch to a map that is not good", got, ok, nil, false)
		}
	}
}

func TestTrimMapWrong(t *testing.T) {
	spans := [][2]int{{0, 0}, {5, 0}, {16, 0}, {3, -1}, {15, -15}, {-1, 1}, {-1, 2}, {-1, 17}, {-16, 16}, {16, 1}, {15, 2}, {1, 16}, {0, 17}, {17, 1}, {256, 1}, {0, 257}}
	for _, wrong := range wrongNumbers {
		spans = append(spans, [2]int{wrong, 1}, [2]int{1, wrong}, [2]int{wrong, wrong}, [2]int{wrong, -wrong}, [2]int{wrong, 1 - wrong}, [2]int{wrong, 16 - wrong}, [2]int{1 - wrong, wrong})
	}
	for _, span := range spans {
		for _, m := range [][]impl.Stretch{nil, ruleMap(evenPlaces(3, 1)), ruleMap(evenPlaces(0, 2))} {
			got, ok := impl.TrimMap(m, span[0], span[1])
			wantMap(t, "TrimMap of "+strconv.Itoa(span[0])+" and "+strconv.Itoa(span[1]), got, ok, nil, false)
		}
	}
	for _, m := range badMaps() {
		for _, long := range []int{0, 1, 16} {
			got, ok := impl.TrimMap(m, 0, long)
			wantMap(t, "TrimMap of a map that is not good", got, ok, nil, false)
		}
	}
}

// Promise 4: just the blocks are told whose places are unlike, or that only one has.
func TestUnlikeMaps(t *testing.T) {
	for _, a := range someMaps() {
		for _, b := range someMaps() {
			p, q := rulePlaces(a), rulePlaces(b)
			var want []int
			for block := range p {
				if p[block] != q[block] {
					want = append(want, block)
				}
			}
			got, ok := impl.UnlikeMaps(a, b)
			wantNumbers(t, "UnlikeMaps", got, ok, want, true)
		}
	}
}

func TestUnlikeMapsKnownByHand(t *testing.T) {
	a := []impl.Stretch{{At: 0, Long: 4, Place: 10}, {At: 14, Long: 2, Place: 0}}
	b := []impl.Stretch{{At: 1, Long: 2, Place: 11}, {At: 3, Long: 2, Place: 14}, {At: 14, Long: 1, Place: 0}}
	for _, pair := range [][2][]impl.Stretch{{a, b}, {b, a}} {
		got, ok := impl.UnlikeMaps(pair[0], pair[1])
		wantNumbers(t, "UnlikeMaps", got, ok, []int{0, 3, 4, 15}, true)
	}
	got, ok := impl.UnlikeMaps(a, a)
	wantNumbers(t, "one and itself", got, ok, nil, true)
	got, ok = impl.UnlikeMaps(nil, []impl.Stretch{})
	wantNumbers(t, "nothing and nothing", got, ok, nil, true)
	got, ok = impl.UnlikeMaps(nil, ruleMap(evenPlaces(0, 1)))
	wantNumbers(t, "nothing and all", got, ok, evenPlaces(0, 1), true)
	got, ok = impl.UnlikeMaps(ruleMap(evenPlaces(0, 1)), ruleMap(evenPlaces(1, 1)))
	wantNumbers(t, "all one further", got, ok, evenPlaces(0, 1), true)
}

func TestUnlikeMapsWrong(t *testing.T) {
	good := []impl.Stretch{{At: 0, Long: 2, Place: 5}}
	for _, bad := range badMaps() {
		for _, pair := range [][2][]impl.Stretch{{bad, good}, {good, bad}, {bad, bad}, {bad, nil}, {nil, bad}} {
			got, ok := impl.UnlikeMaps(pair[0], pair[1])
			wantNumbers(t, "UnlikeMaps of one that is not good", got, ok, nil, false)
		}
	}
}

// ruleShift is the list of places when those in from..to are moved; false where one of these lands outside.
func ruleShift(l []int, from int, to int, by int) ([]int, bool) {
	l = slices.Clone(l)
	for b, place := range l {
		if place != -1 && place >= from && place <= to {
			l[b] = place + by
			if l[b] < 0 || l[b] > 10000 {
				return nil, false
			}
		}
	}
	return l, true
}

func wantShift(t *testing.T, m []impl.Stretch, from int, to int, by int) {
	t.Helper()
	var want []impl.Stretch
	l, wantOk := ruleShift(rulePlaces(m), from, to, by)
	if wantOk {
		want = ruleMap(l)
	}
	got, ok := impl.ShiftMap(m, from, to, by)
	wantMap(t, "ShiftMap "+strconv.Itoa(from)+".."+strconv.Itoa(to)+" by "+strconv.Itoa(by), got, ok, want, wantOk)
}

// Promise 4: the places in from..to are moved, all others stay.
func TestShiftMap(t *testing.T) {
	bys := []int{-10000, -9999, -9990, -20, -3, -2, -1, 0, 1, 2, 3, 20, 9990, 9999, 10000}
	for _, m := range someMaps() {
		for _, from := range []int{0, 1, 2, 5, 41, 9990, 9995, 9999, 10000} {
			for _, to := range []int{0, 1, 3, 10, 45, 9995, 9999, 10000} {
				for _, by := range bys {
					if from <= to {
						wantShift(t, m, from, to, by)
					}
				}
			}
		}
	}
}

func TestShiftKnownByHand(t *testing.T) {
	m := []impl.Stretch{{At: 0, Long: 4, Place: 10}, {At: 6, Long: 2, Place: 20}, {At: 8, Long: 2, Place: 40}}
	for _, c := range []struct {
		what         string
		from, to, by int
		want         []impl.Stretch
	}{
		{"nothing lies there", 100, 200, 7, m},
		{"all", 0, 10000, 5, []impl.Stretch{{At: 0, Long: 4, Place: 15}, {At: 6, Long: 2, Place: 25}, {At: 8, Long: 2, Place: 45}}},
		{"by nothing", 0, 10000, 0, m},
		{"the middle of one", 11, 12, 100, []impl.Stretch{{At: 0, Long: 1, Place: 10}, {At: 1, Long: 2, Place: 111}, {At: 3, Long: 1, Place: 13}, m[1], m[2]}},
		{"one place", 40, 40, -40, []impl.Stretch{m[0], m[1], {At: 8, Long: 1, Place: 0}, {At: 9, Long: 1, Place: 41}}},
		{"two come to go on", 40, 41, -18, []impl.Stretch{m[0], {At: 6, Long: 4, Place: 20}}},
		{"two at one place", 20, 21, 20, []impl.Stretch{m[0], {At: 6, Long: 2, Place: 40}, m[2]}},
		{"no longer", 13, 20, 1, []impl.Stretch{{At: 0, Long: 3, Place: 10}, {At: 3, Long: 1, Place: 14}, {At: 6, Long: 1, Place: 21}, {At: 7, Long: 1, Place: 21}, m[2]}},
		{"up to MaxPlace", 41, 41, 9959, []impl.Stretch{m[0], m[1], {At: 8, Long: 1, Place: 40}, {At: 9, Long: 1, Place: 10000}}},
		{"down to 0", 10, 13, -10, []impl.Stretch{{At: 0, Long: 4, Place: 0}, m[1], m[2]}},
	} {
		got, ok := impl.ShiftMap(m, c.from, c.to, c.by)
		wantMap(t, c.what, got, ok, c.want, true)
	}
	for _, c := range [][3]int{{0, 10000, -11}, {0, 10000, 9960}, {10, 10, -11}, {41, 41, 9960}, {0, 13, -11}, {0, 10000, 10000}, {0, 10000, -10000}} {
		got, ok := impl.ShiftMap(m, c[0], c[1], c[2])
		wantMap(t, "beyond the places", got, ok, nil, false)
	}
}

// A place that is moved is not moved again, though it lands in from..to.
func TestShiftMovesEachPlaceOnce(t *testing.T) {
	m := ruleMap(evenPlaces(0, 1))
	for by := range 30 {
		got, ok := impl.ShiftMap(m, 0, 10000, by)
		wantMap(t, "all by "+strconv.Itoa(by), got, ok, ruleMap(evenPlaces(by, 1)), true)
	}
}

// Promise 4: there and back again there is the first map, where no other place lay where the moved ones went.
func TestShiftThereAndBack(t *testing.T) {
	there := 0
	for _, m := range someMaps() {
		for _, span := range [][2]int{{0, 10000}, {0, 0}, {0, 3}, {2, 9}, {5, 20}, {9990, 10000}, {9995, 9998}, {10000, 10000}} {
			for _, by := range []int{-10000, -9000, -50, -1, 0, 1, 50, 9000, 10000} {
				from, to := max(span[0]+by, 0), min(span[1]+by, 10000)
				met := slices.ContainsFunc(rulePlaces(m), func(place int) bool {
					return place >= from && place <= to && (place < span[0] || place > span[1])
				})
				got, ok := impl.ShiftMap(m, span[0], span[1], by)
				if !ok || met || from > to {
					continue
				}
				there++
				back, ok := impl.ShiftMap(got, from, to, -by)
				wantMap(t, "there and back", back, ok, m, true)
			}
		}
	}
	if there < 1000 {
		t.Errorf("only %d went there", there)
	}
}

func TestShiftAtItsLimits(t *testing.T) {
	low, high := []impl.Stretch{{At: 3, Long: 1, Place: 0}}, []impl.Stretch{{At: 3, Long: 1, Place: 10000}}
	got, ok := impl.ShiftMap(low, 0, 0, 10000)
	wantMap(t, "from 0 to MaxPlace", got, ok, high, true)
	got, ok = impl.ShiftMap(high, 10000, 10000, -10000)
	wantMap(t, "from MaxPlace to 0", got, ok, low, true)
	for _, by := range append([]int{-10001, 10001, -10002, 10002, 20000}, wrongNumbers[2:]...) {
		for _, m := range [][]impl.Stretch{nil, low, high} {
			got, ok := impl.ShiftMap(m, 5, 6, by)
			wantMap(t, "by "+strconv.Itoa(by), got, ok, nil, false)
			got, ok = impl.ShiftMap(m, 0, 10000, by)
			wantMap(t, "all by "+strconv.Itoa(by), got, ok, nil, false)
		}
	}
	for _, by := range []int{-10000, 10000} {
		got, ok := impl.ShiftMap(nil, 0, 10000, by)
		wantMap(t, "nothing by "+strconv.Itoa(by), got, ok, nil, true)
		got, ok = impl.ShiftMap(high, 5, 6, by)
		wantMap(t, "nothing that lies there by "+strconv.Itoa(by), got, ok, high, true)
	}
}

func TestShiftMapWrong(t *testing.T) {
	m := []impl.Stretch{{At: 3, Long: 2, Place: 50}}
	spans := [][2]int{{1, 0}, {51, 50}, {10000, 0}, {10000, 9999}, {-1, 0}, {-1, 50}, {-1, -1}, {0, 10001}, {10001, 10001}, {50, 10001}, {10001, 50}, {50, -1}}
	for _, wrong := range wrongNumbers {
		spans = append(spans, [2]int{wrong, 50}, [2]int{50, wrong}, [2]int{wrong, wrong}, [2]int{wrong, math.MaxInt}, [2]int{math.MinInt, wrong})
	}
	for _, span := range spans {
		for _, by := range []int{-1, 0, 1} {
			for _, from := range [][]impl.Stretch{nil, m} {
				got, ok := impl.ShiftMap(from, span[0], span[1], by)
				wantMap(t, "ShiftMap of "+strconv.Itoa(span[0])+" and "+strconv.Itoa(span[1]), got, ok, nil, false)
			}
		}
	}
	for _, bad := range badMaps() {
		for _, by := range []int{0, 1} {
			got, ok := impl.ShiftMap(bad, 0, 10000, by)
			wantMap(t, "ShiftMap of a map that is not good", got, ok, nil, false)
		}
	}
}

// shownMap is a map in longer memory that has other stretches behind its length, and all of that memory.
func shownMap(m []impl.Stretch) ([]impl.Stretch, []impl.Stretch) {
	all := append(slices.Clone(m), impl.Stretch{At: 15, Long: 1, Place: 4321}, impl.Stretch{At: -9, Long: 99, Place: -1})
	all = slices.Grow(all, 20)
	return all[:len(m)], all[:cap(all)]
}

// mapAnswers are the lists that all functions that take a map answer for it.
func mapAnswers(m []impl.Stretch, b []impl.Stretch, n *numbers) ([][]impl.Stretch, [][]int) {
	x := impl.Stretch{At: n.below(13), Long: 1 + n.below(4), Place: n.below(9990)}
	put, _ := impl.PutStretch(m, x)
	same, _ := impl.PutStretch(m, impl.Stretch{At: 0, Long: 1, Place: rulePlaces(m)[0]})
	trimmed, _ := impl.TrimMap(m, x.At, x.Long)
	shifted, _ := impl.ShiftMap(m, 0, 10000, n.below(3)-1)
	stayed, _ := impl.ShiftMap(m, 0, 10000, 0)
	places, _ := impl.PlacesOf(m)
	unlike, _ := impl.UnlikeMaps(m, b)
	again, _ := impl.UnlikeMaps(b, m)
	impl.GoodMap(m)
	impl.PlaceOf(m, x.At)
	return [][]impl.Stretch{put, same, trimmed, shifted, stayed}, [][]int{places, unlike, again}
}

// What is answered is written over, all its memory: what was handed in stays as it was.
func TestMapFunctionsLeaveArgumentsAlone(t *testing.T) {
	n := &numbers{seed: 77}
	for _, from := range append(someMaps(), badMaps()...) {
		m, all := shownMap(from)
		b, allB := shownMap(ruleMap(somePlaces(n, 0, 20)))
		was, wasB := slices.Clone(all), slices.Clone(allB)
		maps, lists := mapAnswers(m, b, n)
		for _, answer := range maps {
			overwrite(answer, impl.Stretch{At: 1, Long: 1, Place: 1})
		}
		for _, answer := range lists {
			overwrite(answer, -77)
		}
		if !slices.Equal(all, was) || !slices.Equal(allB, wasB) {
			t.Errorf("an argument was changed: %v and %v, now %v and %v", was, wasB, all, allB)
		}
	}
}

// overwrite writes over all memory of a list, what lies behind its length, too.
func overwrite[T any](l []T, with T) {
	l = l[:cap(l)]
	for i := range l {
		l[i] = with
	}
}

// What was handed in is written over: what was answered stays as it was.
func TestMapAnswersAreNewMemory(t *testing.T) {
	for i, from := range someMaps() {
		m, all := shownMap(from)
		b, allB := shownMap(ruleMap(somePlaces(&numbers{seed: uint64(i)}, 0, 20)))
		maps, lists := mapAnswers(m, b, &numbers{seed: uint64(i)})
		var wasMaps [][]impl.Stretch
		for _, answer := range maps {
			wasMaps = append(wasMaps, slices.Clone(answer))
		}
		var wasLists [][]int
		for _, answer := range lists {
			wasLists = append(wasLists, slices.Clone(answer))
		}
		overwrite(all, impl.Stretch{At: 2, Long: 2, Place: 2})
		overwrite(allB, impl.Stretch{At: 3, Long: 3, Place: 3})
		if !slices.EqualFunc(maps, wasMaps, slices.Equal) || !slices.EqualFunc(lists, wasLists, slices.Equal) {
			t.Errorf("an answer shares memory with an argument: %v %v, now %v %v", wasMaps, wasLists, maps, lists)
		}
	}
}

func TestMapOfLeavesItsListAlone(t *testing.T) {
	for _, from := range append(someLists(), wrongLists()...) {
		all := append(slices.Clone(from), 4321, -99, 7)
		was := slices.Clone(all)
		m, ok := impl.MapOf(all[:len(from)])
		if ok != ruleGoodPlaces(from) {
			t.Errorf("MapOf %v is %v", from, ok)
		}
		overwrite(m, impl.Stretch{At: 1, Long: 1, Place: 1})
		if !slices.Equal(all, was) {
			t.Errorf("an argument was changed: %v, now %v", was, all)
		}
	}
}

// What lies behind a list's length is not read: a list that is cut is as one that ends there.
func TestStretchesBehindTheLengthAreNotRead(t *testing.T) {
	m := []impl.Stretch{{At: 1, Long: 2, Place: 5}, {At: 3, Long: 1, Place: 9}, {At: math.MinInt, Long: math.MaxInt, Place: -5}}
	if !impl.GoodMap(m[:0]) || !impl.GoodMap(m[:1]) || !impl.GoodMap(m[:2]) || impl.GoodMap(m) {
		t.Error("the first ones are good, all are not")
	}
	for many := range 3 {
		l, ok := impl.PlacesOf(m[:many])
		wantNumbers(t, "the first ones", l, ok, rulePlaces(m[:many]), true)
		wantPut(t, m[:many], impl.Stretch{At: 2, Long: 2, Place: 6})
		wantShift(t, m[:many], 0, 10000, 3)
	}
	got, ok := impl.PlaceOf(m[:1], 3)
	wantNumber(t, "behind the length", got, ok, 0, false)
}

// No call's answer hangs on one ahead, even where that one's answer was written over.
func TestMapFunctionsAnswerAlikeTwice(t *testing.T) {
	b := ruleMap(evenPlaces(0, 2))
	for i, m := range someMaps() {
		maps, lists := mapAnswers(m, b, &numbers{seed: uint64(i)})
		again, listsAgain := mapAnswers(m, b, &numbers{seed: uint64(i)})
		if !slices.EqualFunc(maps, again, slices.Equal) || !slices.EqualFunc(lists, listsAgain, slices.Equal) {
			t.Errorf("not alike twice: %v %v, then %v %v", maps, lists, again, listsAgain)
		}
		for _, l := range lists {
			overwrite(l, -77)
		}
		for _, l := range maps {
			overwrite(l, impl.Stretch{At: 9, Long: 9, Place: 9})
		}
		third, listsThird := mapAnswers(m, b, &numbers{seed: uint64(i)})
		if !slices.EqualFunc(again, third, slices.Equal) || !slices.EqualFunc(listsAgain, listsThird, slices.Equal) {
			t.Errorf("an answer lives on in the next one: %v %v, then %v %v", again, listsAgain, third, listsThird)
		}
	}
}
