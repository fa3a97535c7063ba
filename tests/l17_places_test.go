package tests

import (
	"math"
	"slices"
	"strconv"
	"testing"

	"loop.example/g00541/impl"
)

// geoBook tells what places are without any layer: all blocks of each place in full at each of its marks.
type geoBook struct {
	place  [2]wholes
	up     [2]bool
	active int
	turn   int
	common int
	whole  bool
}

var bothUp = [2]bool{true, true}

func newGeoBook() geoBook {
	w, _ := newWholes(0).step(markStep{kind: 1})
	return geoBook{place: [2]wholes{w, w}, up: bothUp, whole: true}
}

func wholeAt(w wholes, mark int) [16]string {
	return w.blocks[slices.Index(w.marks, mark)]
}

// wholeAlone has one mark, and writes behind it.
func wholeAlone(w wholes, mark int) wholes {
	all := wholeAt(w, mark)
	return wholes{marks: []int{mark, mark + 1}, blocks: [][16]string{all, all}}
}

func markedWhole(w wholes, common int) (wholes, bool) {
	next, ok := w.step(markStep{kind: 1})
	if !ok && w.marks[0] < common {
		next, _ = w.step(markStep{kind: 2, mark: w.marks[0]})
		next, ok = next.step(markStep{kind: 1})
	}
	return next, ok
}

// waiting are the marks that the active place has set, and that are not copied.
func (b geoBook) waiting() []int {
	marks := b.place[b.active].marks
	return slices.DeleteFunc(slices.Clone(marks[:len(marks)-1]), func(mark int) bool { return mark <= b.common })
}

// step tells what places are behind a step.
func (b geoBook) step(s impl.GeoStep) (geoBook, bool) {
	a, o, ok := b.active, 1-b.active, true
	isPlain := s == impl.GeoStep{Kind: s.Kind}
	switch {
	case s.Kind == 1 && b.up[a] && within(s.Block, 0, 15) && len(s.Data) == 2:
		b.place[a], ok = b.place[a].step(markStep{block: s.Block, data: s.Data})
	case s.Kind == 2 && isPlain && b.up[a]:
		b.place[a], ok = markedWhole(b.place[a], b.common)
	case s.Kind == 3 && isPlain && b.up == bothUp && b.whole && len(b.waiting()) > 0:
		b.common = b.waiting()[0]
		b.place[o] = wholeAlone(b.place[a], b.common)
	case s.Kind == 4 && isPlain && b.up[a]:
		b.up[a] = false
	case s.Kind == 5 && isPlain && !b.up[a] && b.up[o] && b.whole && b.turn < 100:
		b.active, b.turn, b.whole = o, b.turn+1, false
	case s.Kind == 6 && isPlain && b.up == bothUp && !b.whole:
		b.place[o], b.whole = wholeAlone(b.place[o], b.common), true
	case s.Kind == 7 && isPlain && b.up != bothUp:
		b.up = bothUp
	default:
		ok = false
	}
	return b, ok
}

// playGeoBook has what places are behind each step, the new ones first, and whether each was done.
func playGeoBook(l []impl.GeoStep) ([]geoBook, []bool) {
	b := newGeoBook()
	books, did := []geoBook{b}, []bool{}
	for _, s := range l {
		next, ok := b.step(s)
		if ok {
			b = next
		}
		books, did = append(books, b), append(did, ok)
	}
	return books, did
}

// ruleGoodGeo is what the document says of good places.
func ruleGoodGeo(g impl.Geo) bool {
	if len(g.Place) != 2 || len(g.Up) != 2 || !within(g.Active, 0, 1) || !within(g.Turn, 0, 100) {
		return false
	}
	for _, m := range g.Place {
		if !ruleGoodMarks(m) || !slices.Contains(ruleSetAt(m), g.Common) {
			return false
		}
	}
	good := slices.Equal(ruleAll(g.Place[0], ruleHas(g.Place[0], g.Common)), ruleAll(g.Place[1], ruleHas(g.Place[1], g.Common)))
	for _, l := range g.Place[1-g.Active].Layers {
		good = good && (!g.Whole || l.Mark <= g.Common || len(l.Blocks) == 0)
	}
	return good
}

// ruleAlone are the two layers of a place that has one mark alone, without blocks that are two bytes 0.
func ruleAlone(m impl.Marks, mark int) impl.Marks {
	l := impl.Layer{Mark: mark}
	for block, data := range ruleAll(m, ruleHas(m, mark)) {
		if data != zeroBlock {
			l.Blocks, l.Data = append(l.Blocks, block), append(l.Data, data)
		}
	}
	return remoteOf(l)
}

// ruleWaiting are, of good places, the marks set at the active one behind Common.
func ruleWaiting(g impl.Geo) []int {
	var l []int
	for _, mark := range ruleSetAt(g.Place[g.Active]) {
		if mark > g.Common {
			l = append(l, mark)
		}
	}
	return l
}

// ruleGeoStep tells what good places are behind a step.
func ruleGeoStep(g impl.Geo, s impl.GeoStep) (impl.Geo, bool) {
	g.Place, g.Up = slices.Clone(g.Place), slices.Clone(g.Up)
	a, o, ok := g.Active, 1-g.Active, true
	isPlain, both := s == impl.GeoStep{Kind: s.Kind}, g.Up[0] && g.Up[1]
	switch {
	case s.Kind == 1 && g.Up[a]:
		g.Place[a], ok = ruleWriteMark(g.Place[a], s.Block, s.Data)
	case s.Kind == 2 && isPlain && g.Up[a]:
		g.Place[a], ok = ruleSetWithRoom(g.Place[a], g.Common)
	case s.Kind == 3 && isPlain && both && g.Whole && len(ruleWaiting(g)) > 0:
		g.Common = ruleWaiting(g)[0]
		g.Place[o] = ruleAlone(g.Place[a], g.Common)
	case s.Kind == 4 && isPlain && g.Up[a]:
		g.Up[a] = false
	case s.Kind == 5 && isPlain && !g.Up[a] && g.Up[o] && g.Whole && g.Turn < 100:
		g.Active, g.Turn, g.Whole = o, g.Turn+1, false
	case s.Kind == 6 && isPlain && both && !g.Whole:
		g.Place[o], g.Whole = ruleAlone(g.Place[a], g.Common), true
	case s.Kind == 7 && isPlain && !both:
		g.Up = []bool{true, true}
	default:
		ok = false
	}
	if !ok {
		return impl.Geo{}, false
	}
	return g, true
}

// rulePlayOne keeps all that ever was: all blocks at each step, and of those which are still to be copied.
func rulePlayOne(l []impl.GeoStep, did []bool) ([]string, []string, bool) {
	was := [][16]string{newWholes(0).blocks[0]}
	now, copied, waiting := 0, 0, []int{}
	if len(l) != len(did) || len(l) > 80 {
		return nil, nil, false
	}
	for i, s := range l {
		switch {
		case !did[i]:
		case s.Kind == 1:
			if !within(s.Block, 0, 15) || len(s.Data) != 2 {
				return nil, nil, false
			}
			next := was[now]
			next[s.Block] = s.Data
			was, now = append(was, next), len(was)
		case s.Kind == 2:
			waiting = append(waiting, now)
		case s.Kind == 3 && len(waiting) == 0:
			return nil, nil, false
		case s.Kind == 3:
			copied, waiting = waiting[0], slices.Clone(waiting[1:])
		case s.Kind == 5:
			now, waiting = copied, nil
		}
	}
	return slices.Clone(was[now][:]), slices.Clone(was[copied][:]), true
}

func geWrite(block int, data string) impl.GeoStep {
	return impl.GeoStep{Kind: impl.GeWrite, Block: block, Data: data}
}

// Steps that have a kind alone.
var (
	geMark = impl.GeoStep{Kind: impl.GeMark}
	geCopy = impl.GeoStep{Kind: impl.GeCopy}
	geFail = impl.GeoStep{Kind: impl.GeFail}
	geTake = impl.GeoStep{Kind: impl.GeTake}
	geHome = impl.GeoStep{Kind: impl.GeHome}
	geBack = impl.GeoStep{Kind: impl.GeBack}
)

// geoName tells all that places have, also ones that are not good.
func geoName(g impl.Geo) string {
	return "places " + namesOf(g.Place, marksName) + " up " + namesOf(g.Up, strconv.FormatBool) + " active " + strconv.Itoa(g.Active) + " turn " + strconv.Itoa(g.Turn) +
		" common " + strconv.Itoa(g.Common) + " whole " + strconv.FormatBool(g.Whole)
}

func geoStepName(s impl.GeoStep) string {
	return strconv.Itoa(s.Kind) + ":" + strconv.Itoa(s.Block) + "=" + strconv.Quote(s.Data)
}

func sameGeo(a impl.Geo, b impl.Geo) bool {
	samePlace := func(a impl.Marks, b impl.Marks) bool { return slices.EqualFunc(a.Layers, b.Layers, sameLayer) }
	return slices.EqualFunc(a.Place, b.Place, samePlace) && slices.Equal(a.Up, b.Up) && a.Active == b.Active && a.Turn == b.Turn && a.Common == b.Common && a.Whole == b.Whole
}

func wantGeo(t *testing.T, what func() string, got impl.Geo, ok bool, want impl.Geo, wantOk bool) {
	t.Helper()
	if !sameGeo(got, want) || ok != wantOk {
		t.Errorf("%s: got %s %v, want %s %v", what(), geoName(got), ok, geoName(want), wantOk)
	}
	if ok && (!impl.GoodGeo(got) || !ruleGoodGeo(got)) {
		t.Errorf("%s: %s is not good", what(), geoName(got))
	}
}

func geoStepOf(g impl.Geo, s impl.GeoStep) func() string {
	return func() string { return geoName(g) + ": step " + geoStepName(s) }
}

// wantGeoStep holds a step of good places against the rule, and has what came of it.
func wantGeoStep(t *testing.T, g impl.Geo, s impl.GeoStep) (impl.Geo, bool) {
	t.Helper()
	got, ok := impl.StepGeo(g, s)
	want, wantOk := ruleGeoStep(g, s)
	wantGeo(t, geoStepOf(g, s), got, ok, want, wantOk)
	return want, wantOk
}

// turnedGeo has each place be the other one.
func turnedGeo(g impl.Geo) impl.Geo {
	g.Place, g.Up, g.Active = slices.Clone(g.Place), slices.Clone(g.Up), 1-g.Active
	slices.Reverse(g.Place)
	slices.Reverse(g.Up)
	return g
}

// wantGeoDone and wantGeoRefused are for what is told by hand, whichever place is which.
func wantGeoDone(t *testing.T, g impl.Geo, s impl.GeoStep, want impl.Geo) {
	t.Helper()
	got, ok := impl.StepGeo(g, s)
	wantGeo(t, geoStepOf(g, s), got, ok, want, true)
	got, ok = impl.StepGeo(turnedGeo(g), s)
	wantGeo(t, geoStepOf(turnedGeo(g), s), got, ok, turnedGeo(want), true)
}

func wantGeoRefused(t *testing.T, g impl.Geo, s impl.GeoStep) {
	t.Helper()
	got, ok := impl.StepGeo(g, s)
	wantGeo(t, geoStepOf(g, s), got, ok, impl.Geo{}, false)
	got, ok = impl.StepGeo(turnedGeo(g), s)
	wantGeo(t, geoStepOf(turnedGeo(g), s), got, ok, impl.Geo{}, false)
}

func wantGoodGeo(t *testing.T, g impl.Geo, want bool) {
	t.Helper()
	if impl.GoodGeo(g) != want || ruleGoodGeo(g) != want {
		t.Errorf("%s: good is %v, by the rule %v, want %v", geoName(g), impl.GoodGeo(g), ruleGoodGeo(g), want)
	}
}

func wantGeoBlocks(t *testing.T, g impl.Geo, active []string, common []string, wantOk bool) {
	t.Helper()
	if got, ok := impl.ActiveBlocks(g); !slices.Equal(got, active) || ok != wantOk {
		t.Errorf("%s: active blocks %q %v, want %q %v", geoName(g), got, ok, active, wantOk)
	}
	if got, ok := impl.CommonBlocks(g); !slices.Equal(got, common) || ok != wantOk {
		t.Errorf("%s: common blocks %q %v, want %q %v", geoName(g), got, ok, common, wantOk)
	}
}

// wantToldOfGeo holds what is told of good places against the rules.
func wantToldOfGeo(t *testing.T, g impl.Geo) {
	t.Helper()
	wantGoodGeo(t, g, true)
	active := g.Place[g.Active]
	wantGeoBlocks(t, g, ruleLast(active), ruleAll(active, ruleHas(active, g.Common)), true)
}

func wantPlayedGeo(t *testing.T, l []impl.GeoStep, want impl.Geo, wantDid []bool) {
	t.Helper()
	got, did, ok := impl.PlayGeo(l)
	what := func() string { return "play of " + strconv.Itoa(len(l)) + " steps " + namesOf(l, geoStepName) }
	wantGeo(t, what, got, ok, want, true)
	if !slices.Equal(did, wantDid) {
		t.Errorf("%s: did %v, want %v", what(), did, wantDid)
	}
}

func wantRefusedGeoPlay(t *testing.T, l []impl.GeoStep) {
	t.Helper()
	got, did, ok := impl.PlayGeo(l)
	wantGeo(t, func() string { return strconv.Itoa(len(l)) + " steps" }, got, ok, impl.Geo{}, false)
	wantBools(t, "steps", did, ok, nil, false)
}

func wantPlayOne(t *testing.T, l []impl.GeoStep, did []bool, now []string, copied []string, wantOk bool) {
	t.Helper()
	gotNow, gotCopied, ok := impl.PlayOne(l, did)
	if !slices.Equal(gotNow, now) || !slices.Equal(gotCopied, copied) || ok != wantOk {
		t.Errorf("one place, %s %v: got %q and %q %v, want %q and %q %v", namesOf(l, geoStepName), did, gotNow, gotCopied, ok, now, copied, wantOk)
	}
}

// wantOneByRule holds PlayOne against the rule, and tells whether there was an answer.
func wantOneByRule(t *testing.T, l []impl.GeoStep, did []bool) bool {
	t.Helper()
	now, copied, ok := rulePlayOne(l, did)
	wantPlayOne(t, l, did, now, copied, ok)
	return ok
}

func wantNoOne(t *testing.T, l []impl.GeoStep, did []bool) {
	t.Helper()
	wantPlayOne(t, l, did, nil, nil, false)
}

// geoOf has places of which the first is active; both are up.
func geoOf(active impl.Marks, other impl.Marks, turn int, common int, whole bool) impl.Geo {
	return impl.Geo{Place: []impl.Marks{active, other}, Up: []bool{true, true}, Turn: turn, Common: common, Whole: whole}
}

// plainGeo is whole: 4 is common, 5 and 8 are still to be copied.
func plainGeo() impl.Geo {
	active := marksOf(layer(1, "0=ab"), layer(2, "1=ab", "2=cd"), layer(4, "0=ef", "2="+zeroBlock), layer(5, "1=cd", "3=ab"), layer(8, "0=mn", "3="+zeroBlock), layer(9, "15=zz"))
	return geoOf(active, remoteOf(layer(4, "0=ef", "1=ab")), 6, 4, true)
}

// takenGeo is the plain one behind another one that took over, and went its own way from 4 on.
func takenGeo() impl.Geo {
	g := plainGeo()
	return geoOf(marksOf(layer(4, "0=ef", "1=ab"), layer(5, "0=xx"), layer(6, "9=uv")), g.Place[0], 7, 4, false)
}

// spoiledGeo is places that are changed.
func spoiledGeo(g impl.Geo, change func(g *impl.Geo)) impl.Geo {
	g.Place, g.Up = slices.Clone(g.Place), slices.Clone(g.Up)
	for k := range g.Place {
		g.Place[k].Layers = slices.Clone(g.Place[k].Layers)
	}
	change(&g)
	return g
}

// withUp tells of the active place and of the other one whether they are up.
func withUp(g impl.Geo, active bool, other bool) impl.Geo {
	return spoiledGeo(g, func(g *impl.Geo) { g.Up[g.Active], g.Up[1-g.Active] = active, other })
}

func withTurn(g impl.Geo, turn int) impl.Geo {
	g.Turn = turn
	return g
}

// emptyGeo has places that have nothing, with these marks.
func emptyGeo(active []int, other []int, common int, whole bool) impl.Geo {
	return geoOf(emptyLayers(active...), emptyLayers(other...), 3, common, whole)
}

// edgeGeos are good ones that lie at what the chapter names.
func edgeGeos() []impl.Geo {
	all := fromTo(0, 7)
	l := []impl.Geo{impl.NewGeo(), plainGeo(), takenGeo(), emptyGeo([]int{0, 200}, []int{0, 200}, 0, true), emptyGeo([]int{199, 200}, []int{199, 200}, 199, true), emptyGeo([]int{199, 200}, []int{199, 200}, 199, false),
		emptyGeo([]int{0, 199, 200}, []int{0, 1}, 0, true), emptyGeo([]int{0, 199, 200}, []int{199, 200}, 199, true), emptyGeo([]int{3, 4}, []int{0, 3, 9}, 3, false), emptyGeo([]int{3, 4}, all, 3, true), emptyGeo(all, all, 0, false)}
	for common := range 7 {
		l = append(l, emptyGeo(all, []int{common, common + 1}, common, true), emptyGeo(all, []int{common, common + 1}, common, false), emptyGeo(append(fromTo(0, 6), 200), []int{common, 200}, common, true), emptyGeo(append(fromTo(0, 6), 199), fromTo(common, common+5), common, true))
	}
	// Alike at Common, by other layers; with noughts that are written, and without.
	full, zeros := fullLayer(3, "uv"), fullLayer(3, zeroBlock)
	l = append(l, geoOf(marksOf(full, layer(4, "3=ab"), layer(5)), marksOf(full, layer(4, "3=ab"), layer(9)), 0, 4, true), geoOf(marksOf(layer(1), zeros, layer(4, "3=ab"), layer(5)), marksOf(layer(3), layer(4)), 0, 3, true),
		geoOf(marksOf(layer(3), layer(4, "3=ab"), layer(5)), marksOf(zeros, layer(4)), 0, 3, true), geoOf(marksOf(full, fullLayer(4, "ab"), layer(5)), marksOf(layer(0, "3=zz"), full, layer(5, "3=zz"), layer(6)), 0, 3, false),
		geoOf(marksOf(full, fullLayer(4, "ab"), layer(5, "1=cd")), marksOf(layer(0, "3=zz"), fullLayer(1, "zz"), full, layer(7), layer(8), layer(200)), 0, 3, true),
		geoOf(marksOf(full, layer(4, "3="+zeroBlock), fullLayer(5, zeroBlock), layer(6)), marksOf(full, layer(4)), 0, 3, true))
	for _, turn := range []int{0, 1, 99, 100} {
		l = append(l, withUp(withTurn(plainGeo(), turn), false, true), withTurn(takenGeo(), turn))
	}
	return l
}

// frontAlike are layers up to a mark at which all blocks are as they are at that of other ones.
func frontAlike(n *numbers, m impl.Marks, mark int) []impl.Layer {
	k := ruleHas(m, mark)
	if n.below(3) == 0 {
		return slices.Clone(m.Layers[:k+1])
	}
	var l []impl.Layer
	if mark > 0 && n.below(2) == 0 {
		l = append(l, mixedLayer(n, n.below(mark), 2))
	}
	all := impl.Layer{Mark: mark}
	for block, data := range ruleAll(m, k) {
		if len(l) > 0 || data != zeroBlock || n.below(2) == 0 {
			all.Blocks, all.Data = append(all.Blocks, block), append(all.Data, data)
		}
	}
	return append(l, all)
}

// someGeo is good by its form alone.
func someGeo(n *numbers) impl.Geo {
	many := 2 + n.below(7)
	active := marksWith(n, many, many-1+n.below(202-many), 1+n.below(6))
	set := ruleSetAt(active)
	g := geoOf(active, impl.Marks{}, []int{0, 1, 50, 99, 100}[n.below(5)], set[n.below(len(set))], n.below(2) == 0)
	other := frontAlike(n, active, g.Common)
	for mark := g.Common + 1; mark <= 200 && len(other) < 8; mark += 1 + n.below(3) {
		behind := layer(mark)
		if !g.Whole {
			behind = mixedLayer(n, mark, 1+n.below(6))
		}
		if other = append(other, behind); n.below(3) == 0 {
			break
		}
	}
	if len(other) == 8 && other[7].Mark == g.Common {
		return someGeo(n)
	}
	g.Place[1] = marksOf(other...)
	if g = withUp(g, n.below(4) > 0, n.below(4) > 0); n.below(2) == 0 {
		return turnedGeo(g)
	}
	return g
}

func goodGeos() []impl.Geo {
	var l []impl.Geo
	for _, g := range edgeGeos() {
		l = append(l, g, turnedGeo(g))
	}
	n := &numbers{seed: 1717}
	for range 300 {
		l = append(l, someGeo(n))
	}
	return l
}

// badGeoNumbers have one number, or one list, that is not as it is said.
func badGeoNumbers() []impl.Geo {
	var l []impl.Geo
	both := func(change func(g *impl.Geo)) {
		l = append(l, spoiledGeo(plainGeo(), change), spoiledGeo(takenGeo(), change))
	}
	for _, x := range append([]int{2, 3, 1 << 32}, wrongNumbers...) {
		both(func(g *impl.Geo) { g.Active = x })
	}
	for _, x := range append([]int{101, 102, 200, 1 << 32}, wrongNumbers...) {
		both(func(g *impl.Geo) { g.Turn = x })
	}
	for _, change := range []func(g *impl.Geo){
		func(g *impl.Geo) { g.Place = nil },
		func(g *impl.Geo) { g.Place = []impl.Marks{} },
		func(g *impl.Geo) { g.Place = g.Place[:1] },
		func(g *impl.Geo) { g.Place = g.Place[1:] },
		func(g *impl.Geo) { g.Place = append(g.Place, g.Place[1]) },
		func(g *impl.Geo) { g.Place = append(g.Place, impl.Marks{}) },
		func(g *impl.Geo) { g.Place = slices.Repeat(g.Place, 20) },
		func(g *impl.Geo) { g.Up = nil },
		func(g *impl.Geo) { g.Up = []bool{} },
		func(g *impl.Geo) { g.Up = g.Up[:1] },
		func(g *impl.Geo) { g.Up = append(g.Up, true) },
		func(g *impl.Geo) { g.Up = slices.Repeat(g.Up, 20) },
		func(g *impl.Geo) { g.Place, g.Up = g.Place[:1], g.Up[:1] },
		func(g *impl.Geo) { g.Place, g.Up = append(g.Place, g.Place[1]), append(g.Up, true) },
	} {
		both(change)
	}
	return l
}

// badGeoPlaces have one thing that is not so of what the places have.
func badGeoPlaces() []impl.Geo {
	var l []impl.Geo
	both := func(change func(g *impl.Geo)) {
		l = append(l, spoiledGeo(plainGeo(), change), spoiledGeo(takenGeo(), change))
	}
	for _, bad := range badMarks() {
		for k := range 2 {
			both(func(g *impl.Geo) { g.Place[k] = bad })
		}
	}
	// Common has a layer at neither place, at one alone, or one that is the last.
	for _, x := range append([]int{0, 1, 2, 3, 5, 6, 7, 8, 9, 10, 199, 200, 201}, wrongNumbers...) {
		both(func(g *impl.Geo) { g.Common = x })
	}
	l = append(l, emptyGeo([]int{0}, []int{0}, 0, true), emptyGeo([]int{0, 1}, []int{0}, 0, true), emptyGeo([]int{0}, []int{0, 1}, 0, true), emptyGeo([]int{0, 1}, []int{0, 1}, 1, true), emptyGeo([]int{0, 1, 2}, []int{0, 1}, 1, true),
		emptyGeo([]int{0, 1}, []int{0, 1, 2}, 1, true), emptyGeo([]int{1, 2}, []int{0, 1, 2}, 0, true), emptyGeo([]int{0, 1, 2}, []int{1, 2}, 0, true), emptyGeo([]int{199, 200}, []int{199, 200}, 200, false), emptyGeo(fromTo(1, 8), []int{0, 1}, 0, true))
	// One block is not alike at Common.
	for block := range 16 {
		for k := range 2 {
			both(func(g *impl.Geo) {
				at := ruleHas(g.Place[k], 4)
				g.Place[k].Layers[at] = ruleJoin(g.Place[k].Layers[at], layer(4, strconv.Itoa(block)+"=zz"))
			})
		}
	}
	both(func(g *impl.Geo) { g.Place[0].Layers[ruleHas(g.Place[0], 4)] = layer(4) })
	both(func(g *impl.Geo) { g.Place[1].Layers[ruleHas(g.Place[1], 4)] = layer(4) })
	// The other one is told whole, and has something behind Common: also noughts, or what is there anyway.
	for _, behind := range []impl.Layer{layer(5, "3=ab"), layer(5, "0=ef"), layer(5, "3="+zeroBlock), layer(5, "15=zz"), fullLayer(5, "ab")} {
		l = append(l, spoiledGeo(plainGeo(), func(g *impl.Geo) { g.Place[1].Layers[1] = behind }), spoiledGeo(plainGeo(), func(g *impl.Geo) { g.Place[1].Layers = append(g.Place[1].Layers[:1], behind, layer(6)) }),
			spoiledGeo(plainGeo(), func(g *impl.Geo) {
				g.Place[1].Layers = append(g.Place[1].Layers, impl.Layer{Mark: 9, Blocks: behind.Blocks, Data: behind.Data})
			}))
	}
	return append(l, spoiledGeo(takenGeo(), func(g *impl.Geo) { g.Whole = true }), spoiledGeo(plainGeo(), func(g *impl.Geo) { g.Active = 1 }))
}

// badGeos are not good, each for one reason.
func badGeos() []impl.Geo {
	var l []impl.Geo
	for _, g := range slices.Concat(badGeoNumbers(), badGeoPlaces()) {
		if l = append(l, g); within(g.Active, 0, 1) {
			l = append(l, turnedGeo(g))
		}
	}
	return append(l, impl.Geo{}, impl.Geo{Place: impl.NewGeo().Place, Whole: true}, impl.Geo{Up: []bool{true, true}, Whole: true}, impl.Geo{Place: make([]impl.Marks, 2), Up: make([]bool, 2)})
}

func TestGeoConstants(t *testing.T) {
	if impl.MaxGeoSteps != 80 || impl.GeWrite != 1 || impl.GeMark != 2 || impl.GeCopy != 3 || impl.GeFail != 4 || impl.GeTake != 5 || impl.GeHome != 6 || impl.GeBack != 7 {
		t.Error("a constant is not the document's")
	}
}

func TestNewGeo(t *testing.T) {
	want := impl.Geo{Place: []impl.Marks{emptyLayers(0, 1), emptyLayers(0, 1)}, Up: []bool{true, true}, Whole: true}
	wantGeo(t, func() string { return "new" }, impl.NewGeo(), true, want, true)
	wantToldOfGeo(t, impl.NewGeo())
	changed := impl.NewGeo()
	changed.Place[0].Layers[0], changed.Place[1], changed.Up[1] = layer(7, "3=ab"), emptyLayers(9), false
	wantGeo(t, func() string { return "new again" }, impl.NewGeo(), true, want, true)
}

func TestGoodGeo(t *testing.T) {
	for _, g := range goodGeos() {
		wantGoodGeo(t, g, true)
	}
	for _, g := range badGeos() {
		wantGoodGeo(t, g, false)
	}
	// What is not whole may have anything behind Common, and what is may have layers that have nothing.
	wantGoodGeo(t, spoiledGeo(plainGeo(), func(g *impl.Geo) { g.Place[1].Layers[1], g.Whole = fullLayer(5, "ab"), false }), true)
	wantGoodGeo(t, spoiledGeo(plainGeo(), func(g *impl.Geo) { g.Place[1].Layers = append(g.Place[1].Layers, layer(7), layer(200)) }), true)
	wantGoodGeo(t, spoiledGeo(plainGeo(), func(g *impl.Geo) { g.Whole = false }), true)
}

// Each number of places, one by one, at what it may be and may not be.
func TestGoodGeoOfEveryNumber(t *testing.T) {
	for _, x := range append(fromTo(-3, 205), wrongNumbers...) {
		for _, g := range []impl.Geo{plainGeo(), takenGeo(), turnedGeo(plainGeo()), turnedGeo(takenGeo())} {
			active, turn, common := g, g, g
			active.Active, turn.Turn, common.Common = x, x, x
			wantGoodGeo(t, active, x == g.Active || x == 1-g.Active && !g.Whole)
			wantGoodGeo(t, turn, within(x, 0, 100))
			wantGoodGeo(t, common, x == 4)
			for k := range g.Place {
				for i := range g.Place[k].Layers {
					moved := spoiledGeo(g, func(g *impl.Geo) { g.Place[k].Layers[i].Mark = x })
					wantGoodGeo(t, moved, ruleGoodGeo(moved))
				}
			}
		}
		alike := emptyGeo([]int{2, 3, 5, 9}, []int{3, 5, 7, 9}, x, true)
		wantGoodGeo(t, alike, x == 3 || x == 5)
	}
}

func TestGeosAreToldByTheRules(t *testing.T) {
	for _, g := range goodGeos() {
		wantToldOfGeo(t, g)
	}
}

// blocksOf are all blocks, told by parts as those of a layer.
func blocksOf(parts ...string) []string {
	return ruleLast(marksOf(layer(0, parts...)))
}

func TestGeoBlocksKnownByHand(t *testing.T) {
	empty, common := blocksOf(), blocksOf("0=ef", "1=ab")
	wantGeoBlocks(t, impl.NewGeo(), empty, empty, true)
	for _, up := range [][2]bool{{true, true}, {true, false}, {false, true}, {false, false}} {
		plain, taken := withUp(plainGeo(), up[0], up[1]), withUp(takenGeo(), up[0], up[1])
		wantGeoBlocks(t, plain, blocksOf("0=mn", "1=cd", "15=zz"), common, true)
		wantGeoBlocks(t, turnedGeo(plain), blocksOf("0=mn", "1=cd", "15=zz"), common, true)
		wantGeoBlocks(t, taken, blocksOf("0=xx", "1=ab", "9=uv"), common, true)
		wantGeoBlocks(t, turnedGeo(taken), blocksOf("0=xx", "1=ab", "9=uv"), common, true)
	}
	full := slices.Repeat([]string{"uv"}, 16)
	wantGeoBlocks(t, geoOf(marksOf(fullLayer(3, "uv"), layer(4)), marksOf(fullLayer(3, "uv"), fullLayer(4, "zz")), 0, 3, false), full, full, true)
}

// allGeoSteps are steps of every kind, also those that are none, with fields that they use and that they do not.
func allGeoSteps() []impl.GeoStep {
	var l []impl.GeoStep
	for kind := -1; kind <= 9; kind++ {
		l = append(l, impl.GeoStep{Kind: kind}, impl.GeoStep{Kind: kind, Block: 1}, impl.GeoStep{Kind: kind, Block: -1}, impl.GeoStep{Kind: kind, Data: "ab"}, impl.GeoStep{Kind: kind, Data: "a"}, impl.GeoStep{Kind: kind, Block: 3, Data: "ab"})
	}
	for block := -1; block <= 16; block++ {
		l = append(l, geWrite(block, "ab"), geWrite(block, zeroBlock))
	}
	return append(l, geWrite(3, "a"), geWrite(3, "abc"), geWrite(0, ""), geWrite(15, "\xff\xfe"), geWrite(15, mixedText(400, 1)))
}

func TestGeoStepsAreTheRule(t *testing.T) {
	for _, g := range goodGeos() {
		for _, s := range allGeoSteps() {
			wantGeoStep(t, g, s)
		}
	}
}

// Good places, however they were come by, are led on by some steps each.
func TestGeosLedOnAreTheRule(t *testing.T) {
	n := &numbers{seed: 7171}
	for _, g := range goodGeos() {
		turn, common := g.Turn, g.Common
		for range 25 {
			s := []impl.GeoStep{geWrite(n.below(16), fewTexts[n.below(len(fewTexts))]), geMark, geMark, geCopy, geCopy, geFail, geTake, geHome, geBack}[n.below(9)]
			if next, ok := wantGeoStep(t, g, s); ok {
				g = next
			}
			wantToldOfGeo(t, g)
			if g.Turn < turn || g.Common < common {
				t.Errorf("%s: was at turn %d and common %d", geoName(g), turn, common)
			}
			turn, common = g.Turn, g.Common
		}
	}
}

// What each kind of step asks of who is up, of what is whole and of the turn.
func TestGeoStepsOfEveryUpWholeAndTurn(t *testing.T) {
	for i := range 8 {
		a, o, whole := i&1 > 0, i&2 > 0, i&4 > 0
		for _, turn := range []int{0, 1, 50, 98, 99, 100} {
			g := withUp(withTurn(plainGeo(), turn), a, o)
			g.Whole = whole
			for s, want := range map[impl.GeoStep]bool{
				geWrite(3, "xy"): a, geMark: a, geCopy: a && o && whole, geFail: a,
				geTake: !a && o && whole && turn < 100, geHome: a && o && !whole, geBack: !a || !o,
			} {
				if _, ok := impl.StepGeo(g, s); ok != want {
					t.Errorf("%s: step %s is done %v, want %v", geoName(g), geoStepName(s), ok, want)
				}
				if _, ok := impl.StepGeo(turnedGeo(g), s); ok != want {
					t.Errorf("%s: step %s is done %v, want %v", geoName(turnedGeo(g)), geoStepName(s), ok, want)
				}
			}
		}
	}
}

func TestGeoWritesKnownByHand(t *testing.T) {
	for _, c := range []struct {
		block int
		data  string
		want  impl.Layer
	}{
		{3, "xy", layer(9, "3=xy", "15=zz")}, {15, "xy", layer(9, "15=xy")}, {0, zeroBlock, layer(9, "0="+zeroBlock, "15=zz")}, {0, "\xff\xc3", layer(9, "0=\xff\xc3", "15=zz")}, {7, "\u00e4", layer(9, "7=\u00e4", "15=zz")},
	} {
		want := spoiledGeo(plainGeo(), func(g *impl.Geo) { g.Place[0].Layers[5] = c.want })
		wantGeoDone(t, plainGeo(), geWrite(c.block, c.data), want)
		wantGeoDone(t, withUp(plainGeo(), true, false), geWrite(c.block, c.data), withUp(want, true, false))
		wantGeoRefused(t, withUp(plainGeo(), false, true), geWrite(c.block, c.data))
		wantGeoRefused(t, withUp(plainGeo(), false, false), geWrite(c.block, c.data))
	}
	wantGeoDone(t, takenGeo(), geWrite(0, "xy"), spoiledGeo(takenGeo(), func(g *impl.Geo) { g.Place[0].Layers[2] = layer(6, "0=xy", "9=uv") }))
	for _, g := range []impl.Geo{plainGeo(), takenGeo(), impl.NewGeo()} {
		for _, block := range append([]int{16, 17, 1 << 32}, wrongNumbers...) {
			wantGeoRefused(t, g, geWrite(block, "xy"))
		}
		for _, data := range []string{"", "x", "xyz", "\x00", "xyxy", mixedText(500, 1), "\u00e4\u00f6"} {
			for block := -1; block <= 16; block++ {
				wantGeoRefused(t, g, geWrite(block, data))
			}
		}
	}
}

func TestGeoMarksKnownByHand(t *testing.T) {
	for _, g := range []impl.Geo{plainGeo(), takenGeo(), impl.NewGeo()} {
		want := spoiledGeo(g, func(g *impl.Geo) {
			active := &g.Place[g.Active]
			active.Layers = append(active.Layers, layer(slices.Max(marksAre(*active))+1))
		})
		wantGeoDone(t, g, geMark, want)
		wantGeoDone(t, withUp(g, true, false), geMark, withUp(want, true, false))
		wantGeoRefused(t, withUp(g, false, true), geMark)
		wantGeoRefused(t, withUp(g, false, false), geMark)
	}
}

// A mark is set where there is no room by dropping the first one, if that is less than Common.
func TestGeoMarksWithoutRoom(t *testing.T) {
	full := marksOf(layer(2, "0=ab", "3=ab"), layer(3, "3=cd"), layer(4, "1=ab"), layer(5, "0=cd", "3=ef"), layer(6), layer(7, "5=ab"), layer(8, "0=ef"), layer(9, "7=ab"))
	room := marksOf(append([]impl.Layer{layer(3, "0=ab", "3=cd")}, append(slices.Clone(full.Layers[2:]), layer(10))...)...)
	for common := 2; common <= 8; common++ {
		for _, whole := range []bool{true, false} {
			g := geoOf(full, ruleAlone(full, common), 5, common, whole)
			if common == 2 {
				// The first one is the one that both have.
				wantGeoRefused(t, g, geMark)
				continue
			}
			want := spoiledGeo(g, func(g *impl.Geo) { g.Place[0] = room })
			wantGeoDone(t, g, geMark, want)
			wantGeoDone(t, withUp(g, true, false), geMark, withUp(want, true, false))
			wantGeoRefused(t, withUp(g, false, true), geMark)
		}
	}
	// Above Common it can't be: then the places are not good.
	wantGoodGeo(t, geoOf(full, marksOf(layer(1), layer(2)), 5, 1, true), false)
	wantGeoRefused(t, geoOf(full, marksOf(layer(1), layer(2)), 5, 1, true), geMark)
	// One by one, until the first one is Common.
	g := geoOf(full, ruleAlone(full, 4), 5, 4, true)
	for last := 10; last <= 11; last++ {
		next, ok := impl.StepGeo(g, geMark)
		if !ok || !slices.Equal(marksAre(next.Place[0]), fromTo(last-7, last)) {
			t.Fatalf("%s: want the marks %v", geoName(next), fromTo(last-7, last))
		}
		g = next
	}
	wantGeoRefused(t, g, geMark)
	copied, ok := impl.StepGeo(g, geCopy)
	next, is := impl.StepGeo(copied, geMark)
	if !ok || !is || !slices.Equal(marksAre(next.Place[0]), fromTo(5, 12)) {
		t.Errorf("%s: want the marks %v", geoName(next), fromTo(5, 12))
	}
	wantGeoRefused(t, next, geMark)
}

// Where there is room nothing is dropped, and where no greater mark can be a drop makes no room.
func TestGeoMarksWithRoomOrNone(t *testing.T) {
	for many := 2; many <= 7; many++ {
		marks, common := fromTo(20, 20+many-1), 20+many-2
		wantGeoDone(t, emptyGeo(marks, []int{common, common + 1}, common, true), geMark, emptyGeo(append(marks, 20+many), []int{common, common + 1}, common, true))
		wantGeoRefused(t, emptyGeo(append(marks, 200), []int{common, common + 1}, common, true), geMark)
	}
	wantGeoDone(t, emptyGeo([]int{0, 1, 199}, []int{1, 2}, 1, true), geMark, emptyGeo([]int{0, 1, 199, 200}, []int{1, 2}, 1, true))
	wantGeoDone(t, emptyGeo(append(fromTo(0, 6), 199), []int{5, 6}, 5, true), geMark, emptyGeo(append(fromTo(1, 6), 199, 200), []int{5, 6}, 5, true))
	wantGeoRefused(t, emptyGeo(append(fromTo(0, 6), 200), []int{5, 6}, 5, true), geMark)
	wantGeoRefused(t, emptyGeo([]int{199, 200}, []int{199, 200}, 199, true), geMark)
}

func TestGeoCopiesKnownByHand(t *testing.T) {
	// The least one behind Common, then the next one; the last layer is no mark that is set.
	five := spoiledGeo(plainGeo(), func(g *impl.Geo) { g.Place[1], g.Common = remoteOf(layer(5, "0=ef", "1=cd", "3=ab")), 5 })
	wantGeoDone(t, plainGeo(), geCopy, five)
	eight := spoiledGeo(plainGeo(), func(g *impl.Geo) { g.Place[1], g.Common = remoteOf(layer(8, "0=mn", "1=cd")), 8 })
	wantGeoDone(t, five, geCopy, eight)
	wantGeoRefused(t, eight, geCopy)
	wantGeoRefused(t, impl.NewGeo(), geCopy)
	for _, g := range []impl.Geo{withUp(plainGeo(), true, false), withUp(plainGeo(), false, true), withUp(plainGeo(), false, false), takenGeo(), spoiledGeo(plainGeo(), func(g *impl.Geo) { g.Whole = false })} {
		wantGeoRefused(t, g, geCopy)
	}
	for _, c := range []struct {
		active, other impl.Marks
		want          impl.Layer
		ok            bool
	}{
		{marksOf(layer(0), layer(1, "3=ab")), remoteOf(layer(0)), impl.Layer{}, false},
		{marksOf(layer(0), layer(1, "3=ab"), layer(2, "3=cd")), remoteOf(layer(0)), layer(1, "3=ab"), true},
		{marksOf(layer(0), layer(1, "3=ab"), layer(2, "3=cd"), layer(3, "3=ef")), remoteOf(layer(0)), layer(1, "3=ab"), true},
		{marksOf(layer(0, "3=ab"), layer(1), layer(2, "3=cd")), remoteOf(layer(0, "3=ab")), layer(1, "3=ab"), true},
		{marksOf(layer(0), layer(150, "0=ab", "15=cd"), layer(200, "3=cd")), remoteOf(layer(0)), layer(150, "0=ab", "15=cd"), true},
		{marksOf(layer(0), layer(199, "3=ab"), layer(200)), remoteOf(layer(0)), layer(199, "3=ab"), true},
		// Blocks that are two bytes 0 are left out; those with one byte 0 are not.
		{marksOf(layer(0, "3=ab", "4=ab"), layer(1, "3="+zeroBlock, "5="+zeroBlock), layer(2, "3=cd")), remoteOf(layer(0, "3=ab", "4=ab")), layer(1, "4=ab"), true},
		{marksOf(layer(0), layer(1, "3=\x00b", "4=a\x00", "5="+zeroBlock, "6=00"), layer(2)), remoteOf(layer(0)), layer(1, "3=\x00b", "4=a\x00", "6=00"), true},
		{marksOf(fullLayer(0, "ab"), fullLayer(1, zeroBlock), layer(2, "3=cd")), remoteOf(fullLayer(0, "ab")), layer(1), true},
		{marksOf(fullLayer(0, zeroBlock), layer(1), layer(2)), remoteOf(fullLayer(0, zeroBlock)), layer(1), true},
		{marksOf(fullLayer(0, "ab"), fullLayer(1, "cd"), layer(2)), remoteOf(fullLayer(0, "ab")), fullLayer(1, "cd"), true},
		// What the other one had is gone, with all its layers.
		{marksOf(layer(0, "3=ab"), layer(1, "3=cd"), layer(2)), marksOf(layer(0, "3=ab"), layer(7), layer(8), layer(200)), layer(1, "3=cd"), true},
	} {
		g := geoOf(c.active, c.other, 5, 0, true)
		if !c.ok {
			wantGeoRefused(t, g, geCopy)
			continue
		}
		wantGeoDone(t, g, geCopy, geoOf(c.active, remoteOf(c.want), 5, c.want.Mark, true))
	}
	// Layers ahead of Common are no marks to copy.
	ahead := marksOf(layer(0, "3=zz"), layer(1, "3=ab"), layer(2, "4=ab"), layer(5, "5=ab"), layer(6))
	wantGeoDone(t, geoOf(ahead, marksOf(layer(0, "4=zz"), layer(2, "3=ab", "4=ab"), layer(3)), 5, 2, true), geCopy, geoOf(ahead, remoteOf(layer(5, "3=ab", "4=ab", "5=ab")), 5, 5, true))
}

func TestGeoFailsKnownByHand(t *testing.T) {
	for _, g := range []impl.Geo{plainGeo(), takenGeo(), impl.NewGeo()} {
		for _, other := range []bool{true, false} {
			down := withUp(g, false, other)
			wantGeoDone(t, withUp(g, true, other), geFail, down)
			wantGeoRefused(t, down, geFail)
		}
	}
}

func TestGeoTakesKnownByHand(t *testing.T) {
	taken := func(g impl.Geo) impl.Geo {
		g.Active, g.Turn, g.Whole = 1-g.Active, g.Turn+1, false
		return g
	}
	for _, turn := range []int{0, 1, 50, 98, 99} {
		g := withUp(withTurn(plainGeo(), turn), false, true)
		wantGeoDone(t, g, geTake, taken(g))
		wantGeoRefused(t, taken(g), geTake)
	}
	wantGeoDone(t, withUp(impl.NewGeo(), false, true), geTake, taken(withUp(impl.NewGeo(), false, true)))
	wantGeoRefused(t, withUp(withTurn(plainGeo(), 100), false, true), geTake)
	for _, up := range [][2]bool{{true, true}, {true, false}, {false, false}} {
		wantGeoRefused(t, withUp(plainGeo(), up[0], up[1]), geTake)
		wantGeoRefused(t, withUp(takenGeo(), up[0], up[1]), geTake)
	}
	// Not whole: what it has behind Common is not what the active one has; even if it has nothing.
	wantGeoRefused(t, withUp(takenGeo(), false, true), geTake)
	wantGeoRefused(t, spoiledGeo(withUp(plainGeo(), false, true), func(g *impl.Geo) { g.Whole = false }), geTake)
}

func TestGeoBacksKnownByHand(t *testing.T) {
	for _, g := range []impl.Geo{plainGeo(), takenGeo(), impl.NewGeo()} {
		wantGeoRefused(t, g, geBack)
		for _, up := range [][2]bool{{true, false}, {false, true}, {false, false}} {
			wantGeoDone(t, withUp(g, up[0], up[1]), geBack, g)
		}
	}
}

func TestGeoHomesKnownByHand(t *testing.T) {
	// What the other one wrote and marked behind Common is gone.
	want := spoiledGeo(takenGeo(), func(g *impl.Geo) { g.Place[1], g.Whole = remoteOf(layer(4, "0=ef", "1=ab")), true })
	wantGeoDone(t, takenGeo(), geHome, want)
	wantGeoRefused(t, want, geHome)
	wantGeoRefused(t, plainGeo(), geHome)
	wantGeoRefused(t, impl.NewGeo(), geHome)
	for _, up := range [][2]bool{{true, false}, {false, true}, {false, false}} {
		wantGeoRefused(t, withUp(takenGeo(), up[0], up[1]), geHome)
	}
	for _, c := range []struct {
		active, other impl.Marks
		common        int
		want          impl.Layer
	}{
		{emptyLayers(0, 1), emptyLayers(0, 1), 0, layer(0)},
		{emptyLayers(0, 1), marksOf(layer(0), layer(1, "3=ab")), 0, layer(0)},
		{emptyLayers(0, 1), marksOf(layer(0), layer(1, "3=ab"), layer(2, "4=ab"), layer(3)), 0, layer(0)},
		{emptyLayers(199, 200), marksOf(layer(199), layer(200, "3=ab")), 199, layer(199)},
		{marksOf(layer(7, "3=ab"), layer(200)), marksOf(layer(3, "3=zz"), layer(7, "3=ab"), fullLayer(9, "zz"), layer(200, "3=cd")), 7, layer(7, "3=ab")},
		{marksOf(fullLayer(7, "ab"), layer(8)), marksOf(fullLayer(3, "ab"), layer(7), layer(8, "3=cd")), 7, fullLayer(7, "ab")},
		// Noughts that either has written at Common are left out.
		{marksOf(layer(7, "3=ab", "4="+zeroBlock), layer(8)), marksOf(layer(7, "3=ab"), layer(9, "5=ab")), 7, layer(7, "3=ab")},
		{marksOf(layer(7, "3=ab"), layer(8)), marksOf(layer(7, "3=ab", "4="+zeroBlock), layer(9, "5=ab")), 7, layer(7, "3=ab")},
		{marksOf(layer(7), layer(8)), marksOf(layer(3, "3=ab"), fullLayer(7, zeroBlock), layer(9, "5=ab")), 7, layer(7)},
		// Marks of both, alike in all blocks, but behind Common.
		{emptyLayers(2, 3, 4, 5), emptyLayers(2, 3, 4, 6), 2, layer(2)},
	} {
		wantGeoDone(t, geoOf(c.active, c.other, 5, c.common, false), geHome, geoOf(c.active, remoteOf(c.want), 5, c.common, true))
	}
}

// Fields that a step has no use for are empty or 0.
func TestFieldsThatAGeoStepHasNoUseFor(t *testing.T) {
	for s, g := range map[impl.GeoStep]impl.Geo{geMark: plainGeo(), geCopy: plainGeo(), geFail: plainGeo(), geTake: withUp(plainGeo(), false, true), geHome: takenGeo(), geBack: withUp(plainGeo(), false, false)} {
		if _, ok := impl.StepGeo(g, s); !ok {
			t.Errorf("%s can't be done", geoStepName(s))
		}
		for _, x := range append([]int{1, 2, 15, 16, 200}, wrongNumbers...) {
			block := s
			block.Block = x
			wantGeoRefused(t, g, block)
			block.Data = "ab"
			wantGeoRefused(t, g, block)
		}
		for _, x := range []string{"a", "ab", "\x00", zeroBlock, "abc", mixedText(600, 7)} {
			data := s
			data.Data = x
			wantGeoRefused(t, g, data)
		}
	}
}

func TestGeoKindsThatAreNone(t *testing.T) {
	for _, kind := range append([]int{0, 8, 9, 100, 1 << 32, 1<<32 + 1}, wrongNumbers...) {
		for _, g := range []impl.Geo{plainGeo(), takenGeo(), impl.NewGeo(), withUp(plainGeo(), false, true), withUp(plainGeo(), false, false)} {
			wantGeoRefused(t, g, impl.GeoStep{Kind: kind})
			wantGeoRefused(t, g, impl.GeoStep{Kind: kind, Block: 3, Data: "ab"})
		}
	}
}

// wantPromise17 plays steps, and holds the places against one that went back to the last mark copied whenever one took over, and against all blocks kept in full.
func wantPromise17(t *testing.T, l []impl.GeoStep, b geoBook, wantDid []bool) impl.Geo {
	t.Helper()
	g, did, ok := impl.PlayGeo(l)
	if !ok || !slices.Equal(did, wantDid) {
		t.Fatalf("play of %s: did %v, want %v", namesOf(l, geoStepName), did, wantDid)
	}
	now, copied, is := impl.PlayOne(l, did)
	active, isActive := impl.ActiveBlocks(g)
	common, isCommon := impl.CommonBlocks(g)
	if !is || !isActive || !isCommon || !slices.Equal(now, active) || !slices.Equal(copied, common) {
		t.Errorf("play of %s: one place has %q and %q, both have %q and %q", namesOf(l, geoStepName), now, copied, active, common)
	}
	wantOneByRule(t, l, did)
	wantAsInBook(t, g, b)
	return g
}

// wantAsInBook asks for all blocks at each mark of both places, and for all else.
func wantAsInBook(t *testing.T, g impl.Geo, b geoBook) {
	t.Helper()
	if !impl.GoodGeo(g) || !slices.Equal(g.Up, b.up[:]) || g.Active != b.active || g.Turn != b.turn || g.Common != b.common || g.Whole != b.whole {
		t.Fatalf("%s: want up %v, active %d, turn %d, common %d, whole %v", geoName(g), b.up, b.active, b.turn, b.common, b.whole)
	}
	for k, w := range b.place {
		if !slices.Equal(marksAre(g.Place[k]), w.marks) {
			t.Fatalf("%s: want the marks %v at place %d", geoName(g), w.marks, k)
		}
		for i := range w.marks {
			if !slices.Equal(ruleAll(g.Place[k], i), w.blocks[i][:]) {
				t.Errorf("%s: place %d has %q at %d, want %q", geoName(g), k, ruleAll(g.Place[k], i), w.marks[i], w.blocks[i])
			}
		}
	}
	for block := range 16 {
		here, isHere := impl.ReadAt(g.Place[0], g.Common, block)
		there, isThere := impl.ReadAt(g.Place[1], g.Common, block)
		if here != there || !isHere || !isThere {
			t.Errorf("%s: block %d is %q %v and %q %v at Common", geoName(g), block, here, isHere, there, isThere)
		}
	}
	last := b.place[b.active].blocks[len(b.place[b.active].blocks)-1]
	common := wholeAt(b.place[1-b.active], b.common)
	wantGeoBlocks(t, g, last[:], common[:], true)
}

// someGeoStep is most often one that can be done.
func someGeoStep(n *numbers, b geoBook, blocks int) impl.GeoStep {
	a, o := b.active, 1-b.active
	switch x := n.below(48); {
	case x == 0:
		return impl.GeoStep{Kind: n.below(10) - 1, Block: n.below(18) - 1, Data: []string{"", "ab", "a"}[n.below(3)]}
	case x < 3:
		return []impl.GeoStep{geCopy, geFail, geTake, geHome, geBack}[n.below(5)]
	case !b.up[a] && b.up[o] && b.whole && x < 36:
		return geTake
	case !b.up[a] && x < 44, b.up != bothUp && x < 12:
		return geBack
	case b.up == bothUp && !b.whole && x < 12:
		return geHome
	case x < 24:
		return geWrite(n.below(blocks), fewTexts[n.below(len(fewTexts))])
	case x < 34:
		return geMark
	case x < 44:
		return geCopy
	}
	return geFail
}

func someGeoPlay(n *numbers, many int, blocks int) []impl.GeoStep {
	b := newGeoBook()
	var l []impl.GeoStep
	for range many {
		s := someGeoStep(n, b, blocks)
		if next, ok := b.step(s); ok {
			b = next
		}
		l = append(l, s)
	}
	return l
}

// mixedGeoPlays are plays of all lengths, on few blocks and on all.
func mixedGeoPlays(each int, show func(l []impl.GeoStep)) {
	n := &numbers{seed: 7117}
	for range each {
		show(someGeoPlay(n, []int{0, 1, 5, 12, 25, 40, 60, 79, 80}[n.below(9)], []int{1, 2, 4, 16}[n.below(4)]))
	}
}

// geoTried counts what happened in plays, so that they do not try too little.
type geoTried struct {
	taken, lost, home, dropped, full, copied int
}

func (c *geoTried) add(l []impl.GeoStep, books []geoBook, did []bool) {
	for i, s := range l {
		b := books[i]
		marks := b.place[b.active].marks
		switch {
		case did[i] && s.Kind == 3:
			c.copied++
		case did[i] && s.Kind == 5:
			c.taken++
			if len(b.waiting()) > 0 {
				c.lost++
			}
		case did[i] && s.Kind == 6 && len(b.place[1-b.active].marks) > 2:
			c.home++
		case did[i] && s.Kind == 2 && len(marks) == 8:
			c.dropped++
		case s.Kind == 2 && b.up[b.active] && len(marks) == 8:
			c.full++
		}
	}
}

// Promise 17: whatever was written, marked, copied, failed, taken over, brought back or brought home.
func TestBothPlacesAreAsOneThatGoesBack(t *testing.T) {
	var tried geoTried
	mixedGeoPlays(3000, func(l []impl.GeoStep) {
		books, did := playGeoBook(l)
		wantPromise17(t, l, books[len(books)-1], did)
		tried.add(l, books, did)
	})
	if tried.taken < 4000 || tried.lost < 2000 || tried.home < 2000 || tried.dropped < 1000 || tried.full < 300 || tried.copied < 6000 {
		t.Errorf("the plays have %+v: they try too little", tried)
	}
}

// Promise 17 holds behind each step; the turn and the mark in common never fall.
func TestGeosAtEachStep(t *testing.T) {
	mixedGeoPlays(200, func(l []impl.GeoStep) {
		books, did := playGeoBook(l)
		g := impl.NewGeo()
		for i, s := range l {
			next, ok := wantGeoStep(t, g, s)
			if ok != did[i] {
				t.Fatalf("%s: step %s is done %v", geoName(g), geoStepName(s), ok)
			}
			if ok {
				if next.Turn < g.Turn || next.Common < g.Common {
					t.Errorf("%s: step %s has turn %d and common %d", geoName(g), geoStepName(s), next.Turn, next.Common)
				}
				g = next
			}
			if i%5 == 0 {
				wantPlayedGeo(t, l[:i+1], g, did[:i+1])
				wantPromise17(t, l[:i+1], books[i+1], did[:i+1])
			}
		}
		wantPlayedGeo(t, l, g, did)
		wantToldOfGeo(t, g)
	})
}

// geoPath is places that were played, what they are by the book, and the steps that led there, each of which was done.
type geoPath struct {
	g impl.Geo
	b geoBook
	l []impl.GeoStep
}

func (p geoPath) step(t *testing.T, s impl.GeoStep) (geoPath, bool) {
	t.Helper()
	next, ok := wantGeoStep(t, p.g, s)
	b, wantOk := p.b.step(s)
	if ok != wantOk {
		t.Errorf("%s: step %s is done %v", geoName(p.g), geoStepName(s), ok)
	}
	if next.Turn < p.g.Turn && ok || next.Common < p.g.Common && ok {
		t.Errorf("%s: step %s has turn %d and common %d", geoName(p.g), geoStepName(s), next.Turn, next.Common)
	}
	return geoPath{next, b, append(slices.Clone(p.l), s)}, ok
}

// geoStepsFrom does all steps from one path; it has those that lead to places not seen ahead.
func geoStepsFrom(t *testing.T, from geoPath, steps []impl.GeoStep, seen map[string]bool) []geoPath {
	t.Helper()
	var found []geoPath
	for _, s := range steps {
		next, ok := from.step(t, s)
		if !ok || seen[geoName(next.g)] {
			continue
		}
		seen[geoName(next.g)] = true
		played := wantPromise17(t, next.l, next.b, trues(len(next.l)))
		if !sameGeo(played, next.g) {
			t.Errorf("play of %s: got %s, want %s", namesOf(next.l, geoStepName), geoName(played), geoName(next.g))
		}
		found = append(found, next)
	}
	return found
}

// Promise 17: all places that few steps lead to, from new ones, from ones of which one has taken over, and from ones of which the active one has no room for one more mark.
func TestEveryShortPlayOfGeos(t *testing.T) {
	steps := []impl.GeoStep{geWrite(0, "ab"), geWrite(0, zeroBlock), geWrite(9, "cd"), geMark, geCopy, geFail, geTake, geHome, geBack}
	taken := []impl.GeoStep{geWrite(0, "ab"), geMark, geCopy, geWrite(9, "ab"), geMark, geWrite(9, "ef"), geFail, geTake}
	full := []impl.GeoStep{geWrite(0, "ab"), geMark, geWrite(9, "ab"), geMark, geMark, geWrite(0, "cd"), geMark, geMark, geMark}
	for _, c := range []struct {
		ahead      []impl.GeoStep
		deep, many int
	}{{nil, 7, 6000}, {taken, 8, 9000}, {full, 8, 7000}} {
		from := geoPath{g: impl.NewGeo(), b: newGeoBook()}
		for _, s := range c.ahead {
			var ok bool
			if from, ok = from.step(t, s); !ok {
				t.Fatalf("%s: step %s is not done", geoName(from.g), geoStepName(s))
			}
		}
		found, seen := []geoPath{from}, map[string]bool{geoName(from.g): true}
		for range c.deep {
			var next []geoPath
			for _, p := range found {
				next = append(next, geoStepsFrom(t, p, steps, seen)...)
			}
			found = next
		}
		if len(seen) < c.many {
			t.Errorf("%d steps deep there are only %d places", c.deep, len(seen))
		}
	}
}

// Promise 17: one that takes over, wherever it is put, with or without the way home behind it.
func TestTakesAtAnyPlace(t *testing.T) {
	n := &numbers{seed: 1771}
	for range 100 {
		l := someGeoPlay(n, 1+n.below(70), 1+n.below(16))
		for at := range len(l) + 1 {
			for _, put := range [][]impl.GeoStep{{geFail, geTake}, {geFail, geTake, geBack, geHome}, {geFail, geBack}} {
				with := slices.Insert(slices.Clone(l), at, put...)
				books, did := playGeoBook(with)
				wantPromise17(t, with, books[len(books)-1], did)
			}
		}
	}
}

func TestGeoPlayKnownByHand(t *testing.T) {
	l := []impl.GeoStep{
		geCopy, geTake, geHome, geBack, geWrite(3, "ab"), geMark, geWrite(3, "cd"), geWrite(4, "ef"), geMark, geCopy, geWrite(5, "gh"),
		// 1 is common, and 2 is lost with what was written behind it.
		geFail, geWrite(0, "zz"), geMark, geCopy, geTake, geTake, geHome, geWrite(4, "ij"), geMark, geCopy, geWrite(3, zeroBlock), geMark, geBack, geCopy, geHome, geHome,
		// 2 is another one now, that of place 1.
		geCopy, geCopy, geCopy,
	}
	did := []bool{
		false, false, false, false, true, true, true, true, true, true, true,
		true, false, false, false, true, false, false, true, true, false, true, true, true, false, true, false,
		true, true, false,
	}
	there := marksOf(layer(1, "3=ab"), layer(2, "4=ij"), layer(3, "3="+zeroBlock), layer(4))
	want := impl.Geo{Place: []impl.Marks{remoteOf(layer(3, "4=ij")), there}, Up: []bool{true, true}, Active: 1, Turn: 1, Common: 3, Whole: true}
	wantPlayedGeo(t, l, want, did)
	wantPlayOne(t, l, did, blocksOf("4=ij"), blocksOf("4=ij"), true)
	// Behind the first take, and ahead of the way home.
	lost := marksOf(layer(0), layer(1, "3=ab"), layer(2, "3=cd", "4=ef"), layer(3, "5=gh"))
	want = impl.Geo{Place: []impl.Marks{lost, remoteOf(layer(1, "3=ab"))}, Up: []bool{false, true}, Active: 1, Turn: 1, Common: 1}
	wantPlayedGeo(t, l[:18], want, did[:18])
	wantPlayOne(t, l[:18], did[:18], blocksOf("3=ab"), blocksOf("3=ab"), true)
	want.Place[1], want.Up[0] = there, true
	wantPlayedGeo(t, l[:25], want, did[:25])
	wantGeoBlocks(t, want, blocksOf("4=ij"), blocksOf("3=ab"), true)
	wantPlayOne(t, l[:25], did[:25], blocksOf("4=ij"), blocksOf("3=ab"), true)
}

// A place that is not up can't fail: StepGeo is false where nothing can be done.
func TestGeoFailsOnceUntilItIsBack(t *testing.T) {
	l := []impl.GeoStep{geFail, geFail, geTake, geFail, geFail, geBack, geFail, geFail}
	did := []bool{true, false, true, true, false, true, true, false}
	want := impl.Geo{Place: []impl.Marks{emptyLayers(0, 1), emptyLayers(0, 1)}, Up: []bool{true, false}, Active: 1, Turn: 1}
	wantPlayedGeo(t, l, want, did)
	want.Up[0] = false
	wantPlayedGeo(t, l[:5], want, did[:5])
	wantPlayOne(t, l, did, blocksOf(), blocksOf(), true)
}

// Both have failed: nobody is up until both are back, and the one that was active still is.
func TestBothPlacesFail(t *testing.T) {
	l := []impl.GeoStep{geWrite(3, "ab"), geMark, geCopy, geWrite(3, "cd"), geFail, geTake, geWrite(4, "ef"), geFail, geTake, geWrite(4, "gh"), geMark, geBack, geWrite(5, "ij")}
	did := []bool{true, true, true, true, true, true, true, true, false, false, false, true, true}
	want := impl.Geo{Place: []impl.Marks{marksOf(layer(0), layer(1, "3=ab"), layer(2, "3=cd")), marksOf(layer(1, "3=ab"), layer(2, "4=ef", "5=ij"))}, Up: []bool{true, true}, Active: 1, Turn: 1, Common: 1}
	wantPlayedGeo(t, l, want, did)
	wantPlayOne(t, l, did, blocksOf("3=ab", "4=ef", "5=ij"), blocksOf("3=ab"), true)
}

func TestGeoPlaysOfEveryManySteps(t *testing.T) {
	all := slices.Repeat([]impl.GeoStep{geWrite(0, "ab"), geMark, geCopy, geFail, geTake, geWrite(0, "cd"), geBack, geHome}, 12)
	for many := range 90 {
		if many > 80 {
			wantRefusedGeoPlay(t, all[:many])
			wantNoOne(t, all[:many], trues(many))
			continue
		}
		books, _ := playGeoBook(all[:many])
		wantPromise17(t, all[:many], books[many], trues(many))
	}
	wantPlayedGeo(t, all[:80], impl.Geo{Place: []impl.Marks{marksOf(layer(10, "0=ab"), layer(11, "0=cd")), remoteOf(layer(10, "0=ab"))}, Up: []bool{true, true}, Turn: 10, Common: 10, Whole: true}, trues(80))
	for _, none := range [][]impl.GeoStep{nil, {}} {
		wantPlayedGeo(t, none, impl.NewGeo(), nil)
	}
	wantPlayedGeo(t, make([]impl.GeoStep, 80), impl.NewGeo(), make([]bool, 80))
	for _, many := range []int{81, 82, 160, 5000} {
		wantRefusedGeoPlay(t, make([]impl.GeoStep, many))
		wantRefusedGeoPlay(t, slices.Repeat([]impl.GeoStep{geFail}, many))
	}
	// A place that is not up can't fail: the first of them alone is done.
	wantPlayedGeo(t, slices.Repeat([]impl.GeoStep{geFail}, 80), withUp(impl.NewGeo(), false, true), append([]bool{true}, make([]bool, 79)...))
	// One takes over as often as can be: a failing one, and both back home.
	l := slices.Repeat([]impl.GeoStep{geFail, geTake, geBack, geHome}, 20)
	wantPlayedGeo(t, l, withTurn(impl.NewGeo(), 20), trues(80))
}

// What was not done changes nothing, wherever it stands among what was.
func TestGeoStepsNotDoneAmongThoseThatWere(t *testing.T) {
	done := []impl.GeoStep{geWrite(3, "ab"), geMark, geCopy, geWrite(3, "cd"), geMark, geWrite(4, "ef"), geFail, geTake, geWrite(5, "gh"), geMark, geBack}
	want := impl.Geo{Place: []impl.Marks{marksOf(layer(0), layer(1, "3=ab"), layer(2, "3=cd"), layer(3, "4=ef")), marksOf(layer(1, "3=ab"), layer(2, "5=gh"), layer(3))}, Up: []bool{true, true}, Active: 1, Turn: 1, Common: 1}
	wantPlayedGeo(t, done, want, trues(len(done)))
	for _, not := range []impl.GeoStep{{}, {Kind: 8}, {Kind: -1}, geWrite(16, "ab"), geWrite(-1, "ab"), geWrite(3, "a"), geWrite(3, "abc"), {Kind: 2, Block: 1}, {Kind: 3, Data: "ab"}, {Kind: 4, Block: 3, Data: "ab"}, {Kind: 5, Block: -1}, {Kind: 6, Data: "a"}, {Kind: 7, Data: zeroBlock}} {
		for at := range len(done) + 1 {
			l, did := slices.Insert(slices.Clone(done), at, not), slices.Insert(trues(len(done)), at, false)
			wantPlayedGeo(t, l, want, did)
			wantPlayOne(t, l, did, blocksOf("3=ab", "5=gh"), blocksOf("3=ab"), true)
		}
	}
}

// Of every short list of steps, however it is told what was done.
func TestOneOfEveryShortList(t *testing.T) {
	steps := []impl.GeoStep{geWrite(0, "ab"), geWrite(0, "cd"), geWrite(15, zeroBlock), geWrite(16, "ab"), geWrite(1, "a"), geMark, geCopy, geTake, geFail}
	right, wrong := 0, 0
	eachList(4, steps, func(l []impl.GeoStep) {
		for told := range 1 << len(l) {
			did := make([]bool, len(l))
			for i := range did {
				did[i] = told>>i&1 > 0
			}
			if wantOneByRule(t, l, did) {
				right++
			} else {
				wrong++
			}
		}
	})
	if right < 10000 || wrong < 10000 {
		t.Errorf("%d lists are right and %d are not: they try too little", right, wrong)
	}
}

func TestOneOfMixedLists(t *testing.T) {
	n := &numbers{seed: 1177}
	for range 3000 {
		l, did := make([]impl.GeoStep, n.below(83)), []bool{}
		waiting := 0
		for i := range l {
			l[i] = []impl.GeoStep{geWrite(n.below(16), fewTexts[n.below(len(fewTexts))]), geWrite(n.below(4), fewTexts[n.below(len(fewTexts))]), geMark, geMark, geCopy, geTake, geFail, geHome, geBack}[n.below(9)]
			if l[i] == geTake && n.below(3) > 0 {
				l[i] = geCopy
			}
			did = append(did, n.below(5) > 0 && (l[i] != geCopy || waiting > 0 || n.below(60) == 0))
			switch {
			case did[i] && l[i] == geMark:
				waiting++
			case did[i] && l[i] == geCopy:
				waiting--
			case did[i] && l[i] == geTake:
				waiting = 0
			}
		}
		wantOneByRule(t, l, did)
	}
}

func TestOneKnownByHand(t *testing.T) {
	empty := blocksOf()
	for _, c := range []struct {
		l           []impl.GeoStep
		now, copied []string
	}{
		{nil, empty, empty},
		{[]impl.GeoStep{}, empty, empty},
		{[]impl.GeoStep{geMark}, empty, empty},
		{[]impl.GeoStep{geWrite(3, "ab")}, blocksOf("3=ab"), empty},
		{[]impl.GeoStep{geWrite(3, "ab"), geMark}, blocksOf("3=ab"), empty},
		{[]impl.GeoStep{geWrite(3, "ab"), geMark, geCopy}, blocksOf("3=ab"), blocksOf("3=ab")},
		{[]impl.GeoStep{geWrite(3, "ab"), geMark, geWrite(3, "cd"), geCopy}, blocksOf("3=cd"), blocksOf("3=ab")},
		{[]impl.GeoStep{geWrite(3, "ab"), geMark, geWrite(3, zeroBlock), geWrite(0, "ef"), geWrite(15, "gh"), geMark, geCopy}, blocksOf("0=ef", "15=gh"), blocksOf("3=ab")},
		// The first of the list, then the next one.
		{[]impl.GeoStep{geWrite(3, "ab"), geMark, geWrite(3, "cd"), geMark, geWrite(3, "ef"), geMark, geCopy, geCopy}, blocksOf("3=ef"), blocksOf("3=cd")},
		{[]impl.GeoStep{geWrite(3, "ab"), geMark, geWrite(3, "cd"), geMark, geCopy, geWrite(3, "ef"), geMark, geCopy, geCopy}, blocksOf("3=ef"), blocksOf("3=ef")},
		// Nothing was copied yet: all is empty.
		{[]impl.GeoStep{geTake}, empty, empty},
		{[]impl.GeoStep{geWrite(3, "ab"), geTake}, empty, empty},
		{[]impl.GeoStep{geWrite(3, "ab"), geMark, geTake}, empty, empty},
		{[]impl.GeoStep{geWrite(3, "ab"), geMark, geTake, geWrite(4, "cd")}, blocksOf("4=cd"), empty},
		// Back to the last mark copied, and what waited is gone.
		{[]impl.GeoStep{geWrite(3, "ab"), geMark, geWrite(3, "cd"), geMark, geCopy, geWrite(3, "ef"), geTake}, blocksOf("3=ab"), blocksOf("3=ab")},
		{[]impl.GeoStep{geWrite(3, "ab"), geMark, geWrite(3, "cd"), geMark, geCopy, geTake, geWrite(4, "gh"), geMark, geCopy}, blocksOf("3=ab", "4=gh"), blocksOf("3=ab", "4=gh")},
		{[]impl.GeoStep{geWrite(3, "ab"), geMark, geCopy, geWrite(3, "cd"), geTake, geWrite(4, "gh"), geTake, geTake}, blocksOf("3=ab"), blocksOf("3=ab")},
		// These do nothing at one place.
		{[]impl.GeoStep{geFail, geWrite(3, "ab"), geHome, geMark, geBack, geFail, geCopy, geHome, {}, {Kind: 8}, {Kind: -1, Block: 99, Data: "abc"}}, blocksOf("3=ab"), blocksOf("3=ab")},
	} {
		wantPlayOne(t, c.l, trues(len(c.l)), c.now, c.copied, true)
		wantPlayOne(t, c.l, make([]bool, len(c.l)), empty, empty, true)
	}
}

func TestOneThatCannotBe(t *testing.T) {
	// A copy that finds nothing in the list.
	for _, l := range [][]impl.GeoStep{{geCopy}, {geWrite(3, "ab"), geCopy}, {geMark, geCopy, geCopy}, {geMark, geTake, geCopy}, {geMark, geMark, geCopy, geTake, geCopy}, {geCopy, geMark}} {
		wantNoOne(t, l, trues(len(l)))
		wantPlayOne(t, l, make([]bool, len(l)), blocksOf(), blocksOf(), true)
	}
	// A mark that is told not done is not in the list.
	wantNoOne(t, []impl.GeoStep{geMark, geCopy}, []bool{false, true})
	wantPlayOne(t, []impl.GeoStep{geWrite(3, "ab"), geMark, geCopy}, []bool{true, true, false}, blocksOf("3=ab"), blocksOf(), true)
	// A write that WriteMark refuses, told done and told not done.
	var bad []impl.GeoStep
	for _, block := range append([]int{16, 17, 1 << 32}, wrongNumbers...) {
		bad = append(bad, geWrite(block, "ab"), geWrite(block, ""))
	}
	for _, data := range []string{"", "a", "abc", "\x00", mixedText(500, 1)} {
		bad = append(bad, geWrite(0, data), geWrite(15, data))
	}
	for _, s := range bad {
		wantNoOne(t, []impl.GeoStep{s}, []bool{true})
		wantNoOne(t, []impl.GeoStep{geWrite(3, "ab"), s, geMark, geTake}, trues(4))
		wantPlayOne(t, []impl.GeoStep{geWrite(3, "ab"), s, geMark, geCopy}, []bool{true, false, true, true}, blocksOf("3=ab"), blocksOf("3=ab"), true)
	}
	// Not as many told as there are steps.
	for many := range 5 {
		for told := range 6 {
			if l := slices.Repeat([]impl.GeoStep{geMark}, many); told != many {
				wantNoOne(t, l, trues(told))
				wantNoOne(t, l, make([]bool, told))
			}
		}
	}
	l := slices.Repeat([]impl.GeoStep{geMark}, 82)
	wantPlayOne(t, l[:80], trues(80), blocksOf(), blocksOf(), true)
	for _, c := range [][2]int{{80, 79}, {80, 81}, {79, 80}, {81, 80}, {81, 81}, {82, 82}} {
		wantNoOne(t, l[:c[0]], trues(c[1]))
	}
	wantNoOne(t, make([]impl.GeoStep, 5000), make([]bool, 5000))
	wantNoOne(t, nil, []bool{false})
}

// All bytes are written, copied and taken over as they are.
func TestAllBytesAreTakenOver(t *testing.T) {
	for b := range 256 {
		data := []string{string([]byte{byte(b), 0}), string([]byte{0, byte(b)}), string([]byte{byte(b), byte(b)}), string([]byte{byte(b), byte(255 - b)})}
		l := []impl.GeoStep{geWrite(0, "uv"), geMark, geCopy}
		for i, s := range data {
			l = append(l, geWrite(i+b%13, s))
		}
		g, _, ok := impl.PlayGeo(append(l, geMark, geCopy, geWrite(3, "zz"), geFail, geTake))
		all, is := impl.ActiveBlocks(g)
		if !ok || !is || g.Active != 1 || !slices.Equal(all[b%13:b%13+4], data) {
			t.Errorf("%s: want %q from block %d on", geoName(g), data, b%13)
		}
	}
}

// Promise 19: of places that are not good nothing is told and nothing is done.
func TestGeosThatAreNotGood(t *testing.T) {
	for _, g := range badGeos() {
		wantGeoBlocks(t, g, nil, nil, false)
		for _, s := range []impl.GeoStep{{}, geWrite(3, "ab"), geMark, geCopy, geFail, geTake, geHome, geBack} {
			got, ok := impl.StepGeo(g, s)
			wantGeo(t, geoStepOf(g, s), got, ok, impl.Geo{}, false)
		}
	}
}

// Promise 19: numbers that are far from all that can be, in every field at once.
func TestGeosOfWrongNumbers(t *testing.T) {
	for _, a := range append([]int{0, 1, 5, 201}, wrongNumbers...) {
		for _, b := range append([]int{0, 4, 16}, wrongNumbers...) {
			for _, g := range []impl.Geo{plainGeo(), takenGeo(), impl.NewGeo(), withUp(plainGeo(), false, true), emptyGeo([]int{199, 200}, []int{199, 200}, 199, false)} {
				for _, s := range []impl.GeoStep{{Kind: a, Block: b}, {Kind: a, Block: b, Data: "ab"}, {Kind: 1, Block: a, Data: "ab"}, {Kind: 4, Block: b}, {Kind: b}} {
					wantGeoStep(t, g, s)
				}
			}
			for _, g := range []impl.Geo{
				spoiledGeo(plainGeo(), func(g *impl.Geo) { g.Active, g.Turn = a, b }), spoiledGeo(takenGeo(), func(g *impl.Geo) { g.Active, g.Common = a, b }), spoiledGeo(takenGeo(), func(g *impl.Geo) { g.Turn, g.Common = a, b }),
				spoiledGeo(plainGeo(), func(g *impl.Geo) { g.Place[0].Layers[0].Mark, g.Place[1].Layers[1].Mark = a, b }), spoiledGeo(plainGeo(), func(g *impl.Geo) { g.Place[0].Layers[5].Mark, g.Common = a, b }),
				{Place: []impl.Marks{emptyLayers(a, b), emptyLayers(a, b)}, Up: []bool{true, true}, Active: b, Turn: b, Common: a}, {Place: []impl.Marks{emptyLayers(a, b), emptyLayers(a)}, Up: []bool{true}, Active: a, Turn: a, Common: a},
			} {
				good := ruleGoodGeo(g)
				wantGoodGeo(t, g, good)
				if !good {
					wantGeoBlocks(t, g, nil, nil, false)
					got, ok := impl.StepGeo(g, geFail)
					wantGeo(t, geoStepOf(g, geFail), got, ok, impl.Geo{}, false)
				}
			}
			l := []impl.GeoStep{{Kind: a, Block: b, Data: "a"}, geMark, {Kind: 1, Block: math.MaxInt, Data: "ab"}, {Kind: 3, Block: math.MinInt, Data: "ab"}}
			wantPlayedGeo(t, l, geoOf(emptyLayers(0, 1, 2), emptyLayers(0, 1), 0, 0, true), []bool{false, true, false, false})
			wantOneByRule(t, l, trues(4))
			wantOneByRule(t, []impl.GeoStep{{Kind: a, Block: b, Data: "ab"}, {Kind: b, Block: a, Data: "cd"}}, trues(2))
		}
	}
}

// shownGeo is places all of whose texts lie over bytes that can be looked at, and whose lists have more behind their lengths.
func shownGeo(g impl.Geo) (impl.Geo, [][]byte) {
	var places []impl.Marks
	var under [][]byte
	for _, m := range g.Place {
		shown, bytes := shownMarks(m)
		places, under = append(places, shown), append(under, bytes...)
	}
	g.Place, g.Up = longer(places, marksOf(layer(3, "4=be"), layer(4)), emptyLayers(-3)), longer(g.Up, true, false, true)
	return g, under
}

func heldGeo(g impl.Geo) []heldList {
	lists := []heldList{heldBools(g.Up), held(g.Place, func(m impl.Marks) string { return strconv.Itoa(len(m.Layers)) }, func(m impl.Marks) impl.Marks {
		return impl.Marks{Layers: make([]impl.Layer, len(m.Layers)+50)}
	})}
	for _, m := range g.Place {
		lists = append(lists, heldMarks(m)...)
	}
	return lists
}

// geoAnswers asks all functions of places, also to be refused; the places and the lists of blocks that they answer.
func geoAnswers(g impl.Geo, data string) ([]impl.Geo, [][]string) {
	var l []impl.Geo
	for _, s := range []impl.GeoStep{{}, geWrite(3, data), geWrite(15, data), geWrite(16, data), geMark, geCopy, geFail, geTake, geHome, geBack, {Kind: 2, Data: data}, {Kind: 9, Data: data}} {
		next, _ := impl.StepGeo(g, s)
		l = append(l, next)
	}
	active, _ := impl.ActiveBlocks(g)
	common, _ := impl.CommonBlocks(g)
	impl.GoodGeo(g)
	return append(l, impl.NewGeo()), [][]string{active, common}
}

// memoryGeos are good and bad ones; of the mixed and the bad ones, one in so many.
func memoryGeos(part int) []impl.Geo {
	l := edgeGeos()
	for _, g := range []impl.Geo{plainGeo(), takenGeo()} {
		l = append(l, turnedGeo(g), withUp(g, false, true), withUp(g, true, false), withUp(turnedGeo(g), false, true))
	}
	for i, g := range append(goodGeos(), badGeos()...) {
		if i%part == 0 {
			l = append(l, g)
		}
	}
	return l
}

// Promise 19: nothing that is handed in is changed, good or not, nor what lies behind it, and no text of an answer lies in it.
func TestGeoFunctionsLeaveArgumentsAlone(t *testing.T) {
	for _, g := range memoryGeos(1) {
		shown, under := shownGeo(g)
		data := []byte("xy")
		lists := heldGeo(shown)
		ahead := shownLists(lists)
		geos, blocks := geoAnswers(shown, overBytes(data))
		if behind := shownLists(lists); !slices.Equal(ahead, behind) || string(data) != "xy" {
			t.Errorf("%s: was %q, is %q", geoName(g), ahead, behind)
		}
		under = append(under, data)
		for _, answer := range geos {
			wantApart(t, textsOfMarks(answer.Place), under...)
		}
		wantApart(t, slices.Concat(blocks...), under...)
	}
}

// Promise 19: each list of an answer has memory of its own, apart from that of what was handed in and of all other lists of it.
func TestGeoAnswersAreNewMemory(t *testing.T) {
	for _, g := range memoryGeos(11) {
		shown, _ := shownGeo(g)
		geos, blocks := geoAnswers(shown, "xy")
		for _, answer := range geos {
			lists := heldGeo(answer)
			wantNoneShared(t, geoName(g), append(lists, heldGeo(shown)...), len(lists))
		}
		lists := []heldList{heldTexts(blocks[0]), heldTexts(blocks[1])}
		wantNoneShared(t, geoName(g), append(lists, heldGeo(shown)...), len(lists))
	}
}

// Promise 19: what is answered twice is twice there.
func TestGeoAnswersAreApartFromEachOther(t *testing.T) {
	for _, g := range []impl.Geo{plainGeo(), takenGeo(), impl.NewGeo(), withUp(plainGeo(), false, true)} {
		var lists []heldList
		for range 2 {
			geos, blocks := geoAnswers(g, "xy")
			for _, answer := range geos {
				lists = append(lists, heldGeo(answer)...)
			}
			lists = append(lists, heldTexts(blocks[0]), heldTexts(blocks[1]))
		}
		wantNoneShared(t, geoName(g), lists, len(lists))
	}
}

// wantGeoEmptyBehind asks that behind the lists of an answer there is just memory that is empty.
func wantGeoEmptyBehind(t *testing.T, g impl.Geo) {
	t.Helper()
	for _, m := range g.Place {
		wantNoMarksBehind(t, m)
	}
	places, up := g.Place[len(g.Place):cap(g.Place)], g.Up[len(g.Up):cap(g.Up)]
	if slices.ContainsFunc(places, func(m impl.Marks) bool { return m.Layers != nil }) || slices.Contains(up, true) {
		t.Errorf("%s: behind it there are %s and %v", geoName(g), namesOf(places, marksName), up)
	}
}

// Promise 19: what lies behind a list's length is neither read nor handed out.
func TestGeosBehindTheLengthAreNotRead(t *testing.T) {
	for _, g := range memoryGeos(1) {
		shown, _ := shownGeo(g)
		wantGoodGeo(t, shown, ruleGoodGeo(g))
		plain, plainBlocks := geoAnswers(g, "xy")
		geos, blocks := geoAnswers(shown, "xy")
		for i, answer := range geos {
			if !sameGeo(answer, plain[i]) {
				t.Errorf("%s: got %s, want %s", geoName(g), geoName(answer), geoName(plain[i]))
			}
			wantGeoEmptyBehind(t, answer)
		}
		for i, l := range blocks {
			wantTexts(t, geoName(g), l, true, plainBlocks[i], true)
			if behind := l[len(l):cap(l)]; slices.ContainsFunc(behind, func(s string) bool { return s != "" }) {
				t.Errorf("%s: behind the blocks there are %q", geoName(g), behind)
			}
		}
	}
}

// Places whose list has what it lacks behind its length are as those that lack it.
func TestGeosThatAreCut(t *testing.T) {
	for _, change := range []func(g *impl.Geo){
		func(g *impl.Geo) { g.Place = g.Place[:1] },
		func(g *impl.Geo) { g.Place = g.Place[:0] },
		func(g *impl.Geo) { g.Up = g.Up[:1] },
		func(g *impl.Geo) { g.Up = g.Up[:0] },
		func(g *impl.Geo) { g.Place[0].Layers = g.Place[0].Layers[:3] },
		func(g *impl.Geo) { g.Place[0].Layers = g.Place[0].Layers[:2] },
		func(g *impl.Geo) { g.Place[1].Layers = g.Place[1].Layers[:1] },
		func(g *impl.Geo) { g.Place[1].Layers = g.Place[1].Layers[:0] },
	} {
		g := spoiledGeo(plainGeo(), change)
		wantGoodGeo(t, g, false)
		wantGeoRefused(t, g, geFail)
		wantGeoBlocks(t, g, nil, nil, false)
	}
	// Without its last layer the mark ahead of it is not set: it is written still.
	g := spoiledGeo(plainGeo(), func(g *impl.Geo) { g.Place[0].Layers = g.Place[0].Layers[:4] })
	wantGeoRefused(t, g, geCopy)
	wantGeoBlocks(t, g, blocksOf("0=ef", "1=cd", "3=ab"), blocksOf("0=ef", "1=ab"), true)
	if behind := g.Place[0].Layers[:6]; behind[4].Mark != 8 || behind[5].Mark != 9 {
		t.Errorf("behind the length there is %s", marksName(marksOf(behind...)))
	}
}

// shownGeoSteps are steps whose texts lie over bytes that can be looked at, with more behind the length.
func shownGeoSteps(l []impl.GeoStep) ([]impl.GeoStep, [][]byte) {
	steps := longer(l, geWrite(3, "hi"), geMark)
	var under [][]byte
	for i := range steps {
		b := []byte(steps[i].Data)
		steps[i].Data = overBytes(b)
		under = append(under, b)
	}
	return steps, under
}

// Promise 19: PlayGeo and PlayOne leave what they are given alone, also behind its length, and what they answer is their own.
func TestGeoPlaysLeaveTheirStepsAlone(t *testing.T) {
	mixedGeoPlays(150, func(l []impl.GeoStep) {
		steps, under := shownGeoSteps(l)
		books, wantDid := playGeoBook(l)
		told := longer(wantDid, true, false, true)
		args := []heldList{held(steps, geoStepName, func(s impl.GeoStep) impl.GeoStep { return impl.GeoStep{Kind: s.Kind + 50} }), heldBools(told)}
		ahead := shownLists(args)
		g, did, ok := impl.PlayGeo(steps)
		wantBools(t, "did", did, ok, wantDid, true)
		wantAsInBook(t, g, books[len(books)-1])
		now, copied, is := impl.PlayOne(steps, told)
		wantNow, wantCopied, _ := rulePlayOne(l, wantDid)
		wantTexts(t, "now", now, is, wantNow, true)
		wantTexts(t, "copied", copied, is, wantCopied, true)
		if behind := shownLists(args); !slices.Equal(ahead, behind) {
			t.Errorf("was %q, is %q", ahead, behind)
		}
		wantGeoEmptyBehind(t, g)
		wantApart(t, slices.Concat(textsOfMarks(g.Place), now, copied), under...)
		lists := append(heldGeo(g), heldBools(did), heldTexts(now), heldTexts(copied))
		wantNoneShared(t, "played", append(lists, args...), len(lists))
	})
	// Refused, it leaves them alone, too.
	for _, l := range [][]impl.GeoStep{slices.Repeat([]impl.GeoStep{geMark}, 81), {geWrite(3, "ab"), geCopy}, {geWrite(3, "abc")}} {
		steps, _ := shownGeoSteps(l)
		told := longer(trues(len(l)), false)
		args := []heldList{held(steps, geoStepName, func(s impl.GeoStep) impl.GeoStep { return s }), heldBools(told)}
		ahead := shownLists(args)
		wantNoOne(t, steps, told)
		impl.PlayGeo(steps)
		if behind := shownLists(args); !slices.Equal(ahead, behind) {
			t.Errorf("was %q, is %q", ahead, behind)
		}
	}
}

// Steps that were told by more than there are, behind the length, are told by too few.
func TestOneThatIsCut(t *testing.T) {
	l, did := []impl.GeoStep{geWrite(3, "ab"), geMark, geCopy}, trues(3)
	wantNoOne(t, l, did[:2])
	wantNoOne(t, l[:2], did)
	wantPlayOne(t, l[:2], did[:2], blocksOf("3=ab"), blocksOf(), true)
	wantPlayedGeo(t, l[:2], geoOf(marksOf(layer(0), layer(1, "3=ab"), layer(2)), emptyLayers(0, 1), 0, 0, true), trues(2))
}

// A map is gone through in another order each time; no answer may hang on it, nor on what was given up ahead of it.
func TestGeoFunctionsAnswerAlikeTwice(t *testing.T) {
	for _, g := range memoryGeos(3) {
		first, firstBlocks := geoAnswers(g, "xy")
		for range 2 {
			again, blocks := geoAnswers(g, "xy")
			for i, answer := range again {
				if !sameGeo(answer, first[i]) {
					t.Errorf("%s: got %s, then %s", geoName(g), geoName(first[i]), geoName(answer))
				}
			}
			for i, l := range blocks {
				wantTexts(t, geoName(g), l, true, firstBlocks[i], true)
			}
		}
	}
}
