package tests

import (
	"math"
	"slices"
	"strconv"
	"testing"

	"loop.example/g00541/impl"
)

func ruleGoodAsks(l []int) bool {
	for _, track := range l {
		if track < 0 || track > 200 {
			return false
		}
	}
	return len(l) <= 8
}

// ruleMayAsk tells whether a start and asks are as the document says.
func ruleMayAsk(start int, l []int) bool {
	return ruleGoodAsks([]int{start}) && ruleGoodAsks(l)
}

// ruleWaits goes step by step, a track at a time, and counts.
func ruleWaits(start int, order []int) []int {
	var waits []int
	arm, steps := start, 0
	for _, track := range order {
		for arm < track {
			arm, steps = arm+1, steps+1
		}
		for arm > track {
			arm, steps = arm-1, steps+1
		}
		waits = append(waits, steps)
	}
	return waits
}

func ruleTravel(start int, order []int) int {
	waits := ruleWaits(start, order)
	if len(waits) == 0 {
		return 0
	}
	return waits[len(waits)-1]
}

// askedFrom passes all tracks from one to another, up or down, and has what is asked at each.
func askedFrom(from int, to int, l []int) []int {
	var met []int
	by := 1
	if from > to {
		by = -1
	}
	for track := from; track != to+by; track += by {
		for _, asked := range l {
			if asked == track {
				met = append(met, asked)
			}
		}
	}
	return met
}

func ruleSweep(start int, l []int, up bool) []int {
	switch {
	case up && start == 0:
		return askedFrom(0, 200, l)
	case up:
		return append(askedFrom(start, 200, l), askedFrom(start-1, 0, l)...)
	case start == 200:
		return askedFrom(200, 0, l)
	}
	return append(askedFrom(start, 0, l), askedFrom(start+1, 200, l)...)
}

func ruleRound(start int, l []int) []int {
	if start == 0 {
		return askedFrom(0, 200, l)
	}
	return append(askedFrom(start, 200, l), askedFrom(0, start-1, l)...)
}

// ruleNearest looks farther and farther off, below first, until something is asked there.
func ruleNearest(start int, l []int) []int {
	left := slices.Clone(l)
	arm := start
	var order []int
	for off := 0; len(left) > 0; off++ {
		for _, track := range []int{arm - off, arm + off} {
			if i := slices.Index(left, track); i >= 0 {
				order = append(order, track)
				left = slices.Delete(left, i, i+1)
				arm, off = track, -1
				break
			}
		}
	}
	return order
}

func ruleBest(start int, l []int) ([]int, int) {
	up, down := ruleSweep(start, l, true), ruleSweep(start, l, false)
	if ruleTravel(start, up) <= ruleTravel(start, down) {
		return up, ruleTravel(start, up)
	}
	return down, ruleTravel(start, down)
}

// eachOrder shows every order of a list, alike asks being taken for unlike ones.
func eachOrder(l []int, show func(order []int)) {
	order := slices.Clone(l)
	var place func(at int)
	place = func(at int) {
		if at == len(order) {
			show(order)
			return
		}
		for i := at; i < len(order); i++ {
			order[at], order[i] = order[i], order[at]
			place(at + 1)
			order[at], order[i] = order[i], order[at]
		}
	}
	place(0)
}

// leastOfAll is the least TravelOf of all orders, each one tried.
func leastOfAll(t *testing.T, start int, l []int) int {
	t.Helper()
	least := math.MaxInt
	eachOrder(l, func(order []int) {
		travel, ok := impl.TravelOf(start, order)
		if !ok {
			t.Fatalf("%s: no way", asksName(start, order))
		}
		least = min(least, travel)
	})
	return least
}

func asksName(start int, l []int) string {
	s := "from " + strconv.Itoa(start) + ":"
	for _, track := range l {
		s += " " + strconv.Itoa(track)
	}
	return s
}

// wantOrders holds all that is told of a start and asks against the rules.
func wantOrders(t *testing.T, start int, l []int) {
	t.Helper()
	what := asksName(start, l)
	for _, up := range []bool{true, false} {
		order, ok := impl.SweepOrder(start, l, up)
		wantNumbers(t, what+", sweep up "+strconv.FormatBool(up), order, ok, ruleSweep(start, l, up), true)
	}
	order, ok := impl.NearestOrder(start, l)
	wantNumbers(t, what+", nearest", order, ok, ruleNearest(start, l), true)
	order, ok = impl.RoundOrder(start, l)
	wantNumbers(t, what+", round", order, ok, ruleRound(start, l), true)
	best, steps := ruleBest(start, l)
	order, got, ok := impl.BestSweep(start, l)
	wantNumbers(t, what+", best", order, ok, best, true)
	wantNumber(t, what+", best", got, ok, steps, true)
	got, ok = impl.TravelOf(start, l)
	wantNumber(t, what+", travel", got, ok, ruleTravel(start, l), true)
	order, ok = impl.WaitsOf(start, l)
	wantNumbers(t, what+", waits", order, ok, ruleWaits(start, l), true)
	if !impl.GoodAsks(l) {
		t.Errorf("%s: not good", what)
	}
}

// wantLeast is promise 8: the better sweep is the least way that any order has.
func wantLeast(t *testing.T, start int, l []int) {
	t.Helper()
	what := asksName(start, l)
	least := leastOfAll(t, start, l)
	got, ok := impl.LeastTravel(start, l)
	wantNumber(t, what+", least", got, ok, least, true)
	order, steps, ok := impl.BestSweep(start, l)
	wantNumber(t, what+", best sweep", steps, ok, least, true)
	travel, ok := impl.TravelOf(start, order)
	wantNumber(t, what+", travel of the best sweep", travel, ok, least, true)
}

// ordersOf are the orders that the program makes of asks.
func ordersOf(start int, l []int) [][]int {
	up, _ := impl.SweepOrder(start, l, true)
	down, _ := impl.SweepOrder(start, l, false)
	nearest, _ := impl.NearestOrder(start, l)
	best, _, _ := impl.BestSweep(start, l)
	round, _ := impl.RoundOrder(start, l)
	return [][]int{up, down, nearest, best, round}
}

// wantEachAsk asks that each order has each ask just as often as it was asked.
func wantEachAsk(t *testing.T, start int, l []int) {
	t.Helper()
	for i, order := range ordersOf(start, l) {
		if !slices.Equal(slices.Sorted(slices.Values(order)), slices.Sorted(slices.Values(l))) {
			t.Errorf("%s: order %d has %v", asksName(start, l), i, order)
		}
	}
}

// wantWaits asks that waits never fall along an order, and end with all of its way.
func wantWaits(t *testing.T, start int, order []int) {
	t.Helper()
	what := asksName(start, order)
	waits, ok := impl.WaitsOf(start, order)
	if !ok || len(waits) != len(order) || !slices.IsSorted(waits) {
		t.Errorf("%s: waits are %v %v", what, waits, ok)
		return
	}
	travel, ok := impl.TravelOf(start, order)
	last := 0
	if len(waits) > 0 {
		last = waits[len(waits)-1]
	}
	wantNumber(t, what+", the last wait", last, ok, travel, true)
}

// wantRefusedAsks asks for the zero answer of every function that takes a start.
func wantRefusedAsks(t *testing.T, start int, l []int) {
	t.Helper()
	what := asksName(start, l)
	for _, up := range []bool{true, false} {
		order, ok := impl.SweepOrder(start, l, up)
		wantNumbers(t, what+", sweep", order, ok, nil, false)
	}
	order, ok := impl.NearestOrder(start, l)
	wantNumbers(t, what+", nearest", order, ok, nil, false)
	order, ok = impl.RoundOrder(start, l)
	wantNumbers(t, what+", round", order, ok, nil, false)
	order, steps, ok := impl.BestSweep(start, l)
	wantNumbers(t, what+", best", order, ok, nil, false)
	wantNumber(t, what+", best", steps, ok, 0, false)
	steps, ok = impl.LeastTravel(start, l)
	wantNumber(t, what+", least", steps, ok, 0, false)
	steps, ok = impl.TravelOf(start, l)
	wantNumber(t, what+", travel", steps, ok, 0, false)
	order, ok = impl.WaitsOf(start, l)
	wantNumbers(t, what+", waits", order, ok, nil, false)
}

// edgeTracks are at and beside the ends and the middle.
var edgeTracks = []int{0, 1, 99, 100, 101, 199, 200}

// shortAsks shows every list of at most so many asks of some tracks.
func shortAsks(most int, tracks []int, show func(l []int)) {
	var more func(l []int)
	more = func(l []int) {
		show(l)
		if len(l) == most {
			return
		}
		for _, track := range tracks {
			more(append(slices.Clone(l), track))
		}
	}
	more(nil)
}

// someAsks are so many mixed asks within low..high.
func someAsks(n *numbers, many int, low int, high int) []int {
	var l []int
	for range many {
		l = append(l, low+n.below(high-low+1))
	}
	return l
}

// mixedAsks are a start and asks of every length, over all tracks, over few, and all on one side.
func mixedAsks(each int, show func(start int, l []int)) {
	n := &numbers{seed: 8}
	for many := range 9 {
		for range each {
			start := n.below(201)
			show(start, someAsks(n, many, 0, 200))
			show(start, someAsks(n, many, start, 200))
			show(start, someAsks(n, many, 0, start))
			low := n.below(196)
			show(low+n.below(6), someAsks(n, many, low, low+5))
			show(0, someAsks(n, many, 0, 200))
			show(200, someAsks(n, many, 0, 200))
		}
	}
}

// fullAsks are lists of MaxAsks asks, each with a start, that are known to be hard: ends, doubles, both sides as far.
func fullAsks(show func(start int, l []int)) {
	for _, start := range []int{0, 1, 50, 99, 100, 101, 150, 199, 200} {
		for _, l := range [][]int{
			{0, 200, 0, 200, 0, 200, 0, 200},
			{200, 0, 200, 0, 200, 0, 200, 0},
			{100, 100, 100, 100, 100, 100, 100, 100},
			{0, 0, 0, 0, 0, 0, 0, 0},
			{200, 200, 200, 200, 200, 200, 200, 200},
			{99, 101, 98, 102, 97, 103, 96, 104},
			{7, 6, 5, 4, 3, 2, 1, 0},
			{193, 194, 195, 196, 197, 198, 199, 200},
			{100, 0, 100, 200, 50, 150, 100, 100},
		} {
			show(start, l)
		}
	}
}

// badAsks are lists that are no asks.
func badAsks() [][]int {
	l := [][]int{make([]int, 9), {0, 1, 2, 3, 4, 5, 6, 7, 8}, slices.Repeat([]int{200}, 9), make([]int, 1000)}
	for _, wrong := range append([]int{201, 202, 1 << 33}, wrongNumbers...) {
		l = append(l, []int{wrong}, []int{wrong, wrong}, []int{3, wrong}, []int{wrong, 3}, []int{0, 200, wrong, 5}, slices.Repeat([]int{wrong}, 8), slices.Repeat([]int{wrong}, 9))
	}
	return l
}

func TestSweepConstants(t *testing.T) {
	if impl.MaxAsks != 8 || impl.MaxTrack != 200 {
		t.Error(impl.MaxAsks, impl.MaxTrack)
	}
}

func TestGoodAsks(t *testing.T) {
	for many := range 12 {
		for _, track := range append([]int{0, 1, 100, 199, 200, 201, 202}, wrongNumbers...) {
			// The odd one stands at every place among others that are good.
			for at := range max(many, 1) {
				l := slices.Repeat([]int{100}, many)
				if many > 0 {
					l[at] = track
				}
				if impl.GoodAsks(l) != ruleGoodAsks(l) {
					t.Errorf("%v: good is not %v", l, ruleGoodAsks(l))
				}
			}
		}
	}
	for track := -300; track <= 500; track++ {
		if impl.GoodAsks([]int{track}) != (track >= 0 && track <= 200) {
			t.Errorf("track %d", track)
		}
	}
	for _, l := range badAsks() {
		if impl.GoodAsks(l) {
			t.Errorf("%d asks, the first ones %v: good", len(l), l[:min(len(l), 9)])
		}
	}
	if !impl.GoodAsks(nil) || !impl.GoodAsks([]int{}) {
		t.Error("no ask is good")
	}
}

// Promise 8 of every short list, each order of it tried.
func TestBestSweepIsTheLeastWayOfShortAsks(t *testing.T) {
	shortAsks(4, edgeTracks, func(l []int) {
		for _, start := range edgeTracks {
			wantLeast(t, start, l)
		}
	})
}

// Promise 8 of every start, with asks below, above and at it.
func TestBestSweepIsTheLeastWayFromEveryStart(t *testing.T) {
	for start := range 201 {
		for _, l := range [][]int{nil, {start}, {0, 200}, {200, 0}, {start, 0, 200}, {50, 150}, {150, 50, 100}, {0}, {200}, {90, 110, 80, 120, 70}} {
			wantLeast(t, start, l)
			wantOrders(t, start, l)
		}
	}
}

// Promise 8 of lists of every length up to MaxAsks, each order of them tried.
func TestBestSweepIsTheLeastWayOfMixedAsks(t *testing.T) {
	mixedAsks(30, func(start int, l []int) { wantLeast(t, start, l) })
	fullAsks(func(start int, l []int) { wantLeast(t, start, l) })
}

func TestNoOrderIsBetterThanTheBestSweep(t *testing.T) {
	mixedAsks(40, func(start int, l []int) {
		least, ok := impl.LeastTravel(start, l)
		for i, order := range append(ordersOf(start, l), l) {
			travel, is := impl.TravelOf(start, order)
			if !ok || !is || travel < least {
				t.Errorf("%s: order %d has %d %v, the least is %d %v", asksName(start, l), i, travel, is, least, ok)
			}
		}
	})
}

func TestOrdersAreTheRule(t *testing.T) {
	shortAsks(4, edgeTracks, func(l []int) {
		for _, start := range edgeTracks {
			wantOrders(t, start, l)
		}
	})
	mixedAsks(40, func(start int, l []int) { wantOrders(t, start, l) })
	fullAsks(func(start int, l []int) { wantOrders(t, start, l) })
}

func TestOrdersHaveEachAskAsOftenAsItWasAsked(t *testing.T) {
	shortAsks(4, []int{0, 3, 4, 5, 200}, func(l []int) {
		for _, start := range []int{0, 3, 4, 5, 200} {
			wantEachAsk(t, start, l)
		}
	})
	mixedAsks(40, func(start int, l []int) { wantEachAsk(t, start, l) })
	fullAsks(func(start int, l []int) { wantEachAsk(t, start, l) })
}

func TestWaitsNeverFallAndEndWithTheTravel(t *testing.T) {
	show := func(start int, l []int) {
		for _, order := range append(ordersOf(start, l), l) {
			wantWaits(t, start, order)
		}
	}
	shortAsks(3, edgeTracks, func(l []int) {
		for _, start := range edgeTracks {
			show(start, l)
		}
	})
	mixedAsks(40, show)
	fullAsks(show)
}

// Every way from a track to another one, there and back, and of three.
func TestTravelOfEveryTwoTracks(t *testing.T) {
	for a := range 201 {
		for b := range 201 {
			far := max(a-b, b-a)
			got, ok := impl.TravelOf(a, []int{b})
			wantNumber(t, asksName(a, []int{b}), got, ok, far, true)
			got, ok = impl.TravelOf(a, []int{b, a, b})
			wantNumber(t, asksName(a, []int{b, a, b}), got, ok, 3*far, true)
			waits, ok := impl.WaitsOf(a, []int{a, b, b, a})
			wantNumbers(t, asksName(a, []int{a, b, b, a}), waits, ok, []int{0, far, far, 2 * far}, true)
			got, ok = impl.LeastTravel(a, []int{b, a})
			wantNumber(t, asksName(a, []int{b, a}), got, ok, far, true)
		}
	}
}

// sweepCase is a start, asks, and the orders that are known by hand.
type sweepCase struct {
	start                    int
	asks                     []int
	up, down, nearest, round []int
	stepsUp, stepsDown       int
}

var sweepCases = []sweepCase{
	// Asks on both sides, in no order.
	{20, []int{10, 30, 5}, []int{30, 10, 5}, []int{10, 5, 30}, []int{10, 5, 30}, []int{30, 5, 10}, 35, 40},
	{50, []int{40, 90, 45}, []int{90, 45, 40}, []int{45, 40, 90}, []int{45, 40, 90}, []int{90, 40, 45}, 90, 60},
	// At the start: the first ones either way.
	{20, []int{10, 20, 30}, []int{20, 30, 10}, []int{20, 10, 30}, []int{20, 10, 30}, []int{20, 30, 10}, 30, 30},
	{20, []int{30, 20, 20, 10}, []int{20, 20, 30, 10}, []int{20, 20, 10, 30}, []int{20, 20, 10, 30}, []int{20, 20, 30, 10}, 30, 30},
	{20, []int{20}, []int{20}, []int{20}, []int{20}, []int{20}, 0, 0},
	{20, []int{20, 20, 20}, []int{20, 20, 20}, []int{20, 20, 20}, []int{20, 20, 20}, []int{20, 20, 20}, 0, 0},
	{20, []int{10, 20}, []int{20, 10}, []int{20, 10}, []int{20, 10}, []int{20, 10}, 10, 10},
	{20, []int{30, 20}, []int{20, 30}, []int{20, 30}, []int{20, 30}, []int{20, 30}, 10, 10},
	// All on one side.
	{20, []int{40, 21, 30}, []int{21, 30, 40}, []int{21, 30, 40}, []int{21, 30, 40}, []int{21, 30, 40}, 20, 20},
	{20, []int{1, 19, 10}, []int{19, 10, 1}, []int{19, 10, 1}, []int{19, 10, 1}, []int{1, 10, 19}, 19, 19},
	// The same track more than once.
	{20, []int{30, 10, 30, 10, 10}, []int{30, 30, 10, 10, 10}, []int{10, 10, 10, 30, 30}, []int{10, 10, 10, 30, 30}, []int{30, 30, 10, 10, 10}, 30, 30},
	// As near on each side: the lesser track, and then what is nearest to that.
	{20, []int{22, 18}, []int{22, 18}, []int{18, 22}, []int{18, 22}, []int{22, 18}, 6, 6},
	{20, []int{25, 15, 4}, []int{25, 15, 4}, []int{15, 4, 25}, []int{15, 25, 4}, []int{25, 4, 15}, 26, 37},
	{20, []int{25, 15, 5}, []int{25, 15, 5}, []int{15, 5, 25}, []int{15, 5, 25}, []int{25, 5, 15}, 25, 35},
	// The ends of all tracks.
	{0, []int{200, 0}, []int{0, 200}, []int{0, 200}, []int{0, 200}, []int{0, 200}, 200, 200},
	{200, []int{0, 200}, []int{200, 0}, []int{200, 0}, []int{200, 0}, []int{200, 0}, 200, 200},
	{1, []int{200, 0}, []int{200, 0}, []int{0, 200}, []int{0, 200}, []int{200, 0}, 399, 201},
	{199, []int{0, 200}, []int{200, 0}, []int{0, 200}, []int{200, 0}, []int{200, 0}, 201, 399},
	{100, []int{200, 0}, []int{200, 0}, []int{0, 200}, []int{0, 200}, []int{200, 0}, 300, 300},
	// Nearest is not least: it is led on, away from the one ask on the other side.
	{100, []int{106, 112, 124, 148, 93}, []int{106, 112, 124, 148, 93}, []int{93, 106, 112, 124, 148}, []int{106, 112, 124, 148, 93}, []int{106, 112, 124, 148, 93}, 103, 62},
}

func TestSweepsKnownByHand(t *testing.T) {
	for _, c := range sweepCases {
		// The order in which they are asked counts for nothing.
		eachOrder(c.asks, func(asks []int) {
			what := asksName(c.start, asks)
			order, ok := impl.SweepOrder(c.start, asks, true)
			wantNumbers(t, what+", up", order, ok, c.up, true)
			order, ok = impl.SweepOrder(c.start, asks, false)
			wantNumbers(t, what+", down", order, ok, c.down, true)
			order, ok = impl.NearestOrder(c.start, asks)
			wantNumbers(t, what+", nearest", order, ok, c.nearest, true)
			order, ok = impl.RoundOrder(c.start, asks)
			wantNumbers(t, what+", round", order, ok, c.round, true)
			wantBestKnown(t, c, asks)
		})
	}
}

func wantBestKnown(t *testing.T, c sweepCase, asks []int) {
	t.Helper()
	what := asksName(c.start, asks)
	steps, ok := impl.TravelOf(c.start, c.up)
	wantNumber(t, what+", travel up", steps, ok, c.stepsUp, true)
	steps, ok = impl.TravelOf(c.start, c.down)
	wantNumber(t, what+", travel down", steps, ok, c.stepsDown, true)
	steps, ok = impl.LeastTravel(c.start, asks)
	wantNumber(t, what+", least", steps, ok, min(c.stepsUp, c.stepsDown), true)
	best := c.up
	if c.stepsDown < c.stepsUp {
		best = c.down
	}
	order, steps, ok := impl.BestSweep(c.start, asks)
	wantNumbers(t, what+", best", order, ok, best, true)
	wantNumber(t, what+", best", steps, ok, min(c.stepsUp, c.stepsDown), true)
}

func TestWaitsKnownByHand(t *testing.T) {
	for _, c := range []struct {
		start int
		order []int
		waits []int
	}{
		{20, nil, nil},
		{20, []int{20}, []int{0}},
		{20, []int{30}, []int{10}},
		{20, []int{5}, []int{15}},
		{20, []int{10, 30, 5}, []int{10, 30, 55}},
		{20, []int{30, 10, 5}, []int{10, 30, 35}},
		{20, []int{20, 20, 21, 21, 20}, []int{0, 0, 1, 1, 2}},
		{0, []int{200, 0, 200, 0, 200, 0, 200, 0}, []int{200, 400, 600, 800, 1000, 1200, 1400, 1600}},
		{200, []int{0, 200, 0, 200, 0, 200, 0, 200}, []int{200, 400, 600, 800, 1000, 1200, 1400, 1600}},
	} {
		waits, ok := impl.WaitsOf(c.start, c.order)
		wantNumbers(t, asksName(c.start, c.order), waits, ok, c.waits, true)
		wantWaits(t, c.start, c.order)
	}
}

// No ask and one ask, from every start.
func TestNoAskAndOne(t *testing.T) {
	for start := range 201 {
		for _, none := range [][]int{nil, {}, make([]int, 0, 5)} {
			for _, order := range ordersOf(start, none) {
				wantNumbers(t, "no ask", order, true, nil, true)
			}
			wantOrders(t, start, none)
			steps, ok := impl.LeastTravel(start, none)
			wantNumber(t, "no ask", steps, ok, 0, true)
		}
		for _, track := range append([]int{start, max(start-1, 0), min(start+1, 200)}, edgeTracks...) {
			for _, order := range ordersOf(start, []int{track}) {
				wantNumbers(t, "one ask", order, true, []int{track}, true)
			}
			wantOrders(t, start, []int{track})
		}
	}
}

// Where both sweeps have the same way up is taken, whichever is asked first.
func TestSweepUpWhereBothAreAlike(t *testing.T) {
	for start := range 201 {
		for off := 0; off <= min(start, 200-start); off++ {
			for _, l := range [][]int{{start - off, start + off}, {start + off, start - off}} {
				order, steps, ok := impl.BestSweep(start, l)
				wantNumbers(t, asksName(start, l), order, ok, []int{start + off, start - off}, true)
				wantNumber(t, asksName(start, l), steps, ok, 3*off, true)
				order, ok = impl.NearestOrder(start, l)
				wantNumbers(t, asksName(start, l), order, ok, []int{start - off, start + off}, true)
			}
		}
		// One step nearer on one side decides.
		if start < 2 || start > 198 {
			continue
		}
		order, steps, ok := impl.BestSweep(start, []int{start + 2, start - 1})
		wantNumbers(t, "nearer below", order, ok, []int{start - 1, start + 2}, true)
		wantNumber(t, "nearer below", steps, ok, 4, true)
		order, steps, ok = impl.BestSweep(start, []int{start - 2, start + 1})
		wantNumbers(t, "nearer above", order, ok, []int{start + 1, start - 2}, true)
		wantNumber(t, "nearer above", steps, ok, 4, true)
	}
}

// Promise 19: MaxAsks asks are answered, one more is refused.
func TestOneAskMoreThanMayBe(t *testing.T) {
	for many := range 12 {
		for _, track := range []int{0, 100, 200} {
			for _, start := range []int{0, 100, 200} {
				l := slices.Repeat([]int{track}, many)
				if many <= 8 {
					wantOrders(t, start, l)
					steps, ok := impl.LeastTravel(start, l)
					wantNumber(t, asksName(start, l), steps, ok, max(track-start, start-track)*min(many, 1), true)
				} else {
					wantRefusedAsks(t, start, l)
				}
			}
		}
	}
}

// Promise 19: a start that is no track is refused, also where nothing is asked.
func TestStartsThatAreNoTrack(t *testing.T) {
	for _, start := range append([]int{201, 202, 255, 256, 1000, 1 << 33}, wrongNumbers...) {
		for _, l := range [][]int{nil, {}, {0}, {200}, {100, 50}, {0, 1, 2, 3, 4, 5, 6, 7}} {
			wantRefusedAsks(t, start, l)
		}
	}
	for start := -300; start <= 500; start++ {
		if start >= 0 && start <= 200 {
			wantOrders(t, start, []int{100, 3})
		} else {
			wantRefusedAsks(t, start, []int{100, 3})
		}
	}
}

// Promise 19: asks of which one is no track, at any place, are refused from every start.
func TestAsksThatAreNoTracks(t *testing.T) {
	for _, l := range badAsks() {
		for _, start := range append([]int{0, 100, 200, 201}, wrongNumbers...) {
			wantRefusedAsks(t, start, l)
		}
	}
	for track := -300; track <= 500; track++ {
		for _, l := range [][]int{{track}, {track, 7}, {7, track}, {7, 7, 7, 7, 7, 7, 7, track}} {
			if ruleMayAsk(7, l) {
				wantOrders(t, 7, l)
			} else {
				wantRefusedAsks(t, 7, l)
			}
		}
	}
}

// sweepAnswers asks all functions; the lists and numbers that they answer.
func sweepAnswers(start int, l []int) ([][]int, []int) {
	waits, _ := impl.WaitsOf(start, l)
	travel, _ := impl.TravelOf(start, l)
	least, _ := impl.LeastTravel(start, l)
	_, steps, _ := impl.BestSweep(start, l)
	impl.GoodAsks(l)
	return append(ordersOf(start, l), waits), []int{travel, least, steps}
}

// memoryAsks shows good and bad asks whose list has tracks behind its length, and the same ones without.
func memoryAsks(show func(start int, long []int, l []int)) {
	all := func(start int, l []int) {
		show(start, longer(l, 5, 150, 0, 200, -7, 9999), slices.Clip(slices.Clone(l)))
	}
	mixedAsks(6, all)
	fullAsks(all)
	for _, l := range badAsks() {
		all(100, l)
	}
	all(-1, []int{3, 1, 2})
	all(201, []int{3, 1, 2})
}

// Promise 19: nothing that is handed in is changed, nor what lies behind it.
func TestSweepFunctionsLeaveArgumentsAlone(t *testing.T) {
	memoryAsks(func(start int, long []int, l []int) {
		whole := slices.Clone(long[:cap(long)])
		sweepAnswers(start, long)
		if !slices.Equal(long[:cap(long)], whole) {
			t.Errorf("%s: was %v, is %v", asksName(start, l), whole, long[:cap(long)])
		}
	})
}

// Promise 19: each list of an answer has memory of its own.
func TestSweepAnswersAreNewMemory(t *testing.T) {
	memoryAsks(func(start int, long []int, l []int) {
		first, _ := sweepAnswers(start, long)
		again, _ := sweepAnswers(start, long)
		exact, _ := sweepAnswers(start, l)
		var lists []heldList
		for _, answer := range slices.Concat(first, again, exact) {
			lists = append(lists, heldNumbers(answer))
		}
		wantNoneShared(t, asksName(start, l), append(lists, heldNumbers(long), heldNumbers(l)), len(lists))
	})
}

// Promise 19: what lies behind a list's length is neither read nor handed out.
func TestAsksBehindTheLengthAreNotRead(t *testing.T) {
	memoryAsks(func(start int, long []int, l []int) {
		what := asksName(start, l)
		if impl.GoodAsks(long) != ruleGoodAsks(l) {
			t.Errorf("%s: good is not %v", what, ruleGoodAsks(l))
		}
		lists, steps := sweepAnswers(start, long)
		otherLists, otherSteps := sweepAnswers(start, l)
		wantNumbers(t, what, steps, true, otherSteps, true)
		for i, list := range lists {
			wantNumbers(t, what, list, true, otherLists[i], true)
			if slices.ContainsFunc(list[len(list):cap(list)], func(x int) bool { return x != 0 }) {
				t.Errorf("%s: behind list %d there is %v", what, i, list[:cap(list)])
			}
		}
	})
	// Cut to its limit a list is good, whatever lies behind.
	cut := []int{1, 2, 3, 4, 5, 6, 7, 8, 9, 10}[:8]
	wantOrders(t, 4, cut)
	cut = []int{3, 1, 2, -1, 201}[:3]
	wantOrders(t, 2, cut)
	wantLeast(t, 2, cut)
}

func TestSweepFunctionsAnswerAlikeTwice(t *testing.T) {
	mixedAsks(10, func(start int, l []int) {
		lists, steps := sweepAnswers(start, l)
		again, stepsAgain := sweepAnswers(start, l)
		wantNumbers(t, asksName(start, l), stepsAgain, true, steps, true)
		for i, list := range lists {
			wantNumbers(t, asksName(start, l), again[i], true, list, true)
		}
	})
}
