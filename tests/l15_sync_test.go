package tests

import (
	"math"
	"slices"
	"strconv"
	"testing"

	"loop.example/g00541/impl"
)

// These tell what the document says of good marks.

func ruleLast(m impl.Marks) []string {
	return ruleAll(m, len(m.Layers)-1)
}

func ruleSame(a impl.Marks, b impl.Marks, mark int) (bool, bool) {
	j, k := ruleHas(a, mark), ruleHas(b, mark)
	if j < 0 || k < 0 {
		return false, false
	}
	return slices.Equal(ruleAll(a, j), ruleAll(b, k)), true
}

// ruleDirty asks of each block whether a later layer has it.
func ruleDirty(m impl.Marks, mark int) ([]int, bool) {
	k := ruleHas(m, mark)
	if k < 0 {
		return nil, false
	}
	var l []int
	for block := range 16 {
		if slices.ContainsFunc(m.Layers[k+1:], func(x impl.Layer) bool { return slices.Contains(x.Blocks, block) }) {
			l = append(l, block)
		}
	}
	return l, true
}

func rulePlan(a impl.Marks, b impl.Marks, mark int) ([]int, bool) {
	if same, _ := ruleSame(a, b, mark); !same {
		return nil, false
	}
	ofA, _ := ruleDirty(a, mark)
	ofB, _ := ruleDirty(b, mark)
	var l []int
	for block := range 16 {
		if slices.Contains(ofA, block) || slices.Contains(ofB, block) {
			l = append(l, block)
		}
	}
	return l, true
}

// ruleCommon tries all marks that there can be.
func ruleCommon(a impl.Marks, b impl.Marks) (int, bool) {
	for mark := 200; mark >= 0; mark-- {
		same, _ := ruleSame(a, b, mark)
		if same && ruleHas(a, mark) < len(a.Layers)-1 && ruleHas(b, mark) < len(b.Layers)-1 {
			return mark, true
		}
	}
	return 0, false
}

// ruleUnlike are those of some blocks that are unlike in the end.
func ruleUnlike(a impl.Marks, b impl.Marks, blocks []int) []int {
	var l []int
	for _, block := range blocks {
		if ruleLast(a)[block] != ruleLast(b)[block] {
			l = append(l, block)
		}
	}
	return l
}

// ruleCopied lays a layer of what is unlike over the last one, all at once.
func ruleCopied(a impl.Marks, b impl.Marks, blocks []int) (impl.Marks, bool) {
	if !risesWithin(blocks, 15) {
		return impl.Marks{}, false
	}
	last := len(a.Layers) - 1
	over := impl.Layer{Mark: a.Layers[last].Mark, Blocks: ruleUnlike(a, b, blocks)}
	for _, block := range over.Blocks {
		over.Data = append(over.Data, ruleLast(b)[block])
	}
	return marksOf(append(slices.Clone(a.Layers[:last]), ruleJoin(a.Layers[last], over))...), true
}

func ruleSynced(a impl.Marks, b impl.Marks, mark int) (impl.Marks, int, bool) {
	plan, ok := rulePlan(a, b, mark)
	if !ok {
		return impl.Marks{}, 0, false
	}
	synced, _ := ruleCopied(a, b, plan)
	return synced, len(ruleUnlike(a, b, plan)), true
}

func mapsName(a impl.Marks, b impl.Marks) string {
	return marksName(a) + " and " + marksName(b)
}

func wantSynced(t *testing.T, what string, got impl.Marks, unlike int, ok bool, want impl.Marks, wantUnlike int, wantOk bool) {
	t.Helper()
	wantMarks(t, what+", synced", got, ok, want, wantOk)
	wantNumber(t, what+", unlike", unlike, ok, wantUnlike, wantOk)
}

// wantAtMark holds what is told of good marks at one mark, that there may be or not, against the rules. It tells whether they can be synced at it.
func wantAtMark(t *testing.T, a impl.Marks, b impl.Marks, mark int) bool {
	t.Helper()
	what := mapsName(a, b) + " at " + strconv.Itoa(mark)
	same, ok := impl.SameAt(a, b, mark)
	wantSame, wantOk := ruleSame(a, b, mark)
	wantBool(t, what+", same", same, ok, wantSame, wantOk)
	for _, m := range []impl.Marks{a, b} {
		dirty, ok := impl.DirtyIn(m, mark)
		wantDirty, wantOk := ruleDirty(m, mark)
		wantNumbers(t, marksName(m)+" dirty in "+strconv.Itoa(mark), dirty, ok, wantDirty, wantOk)
	}
	plan, ok := impl.PlanSync(a, b, mark)
	wantPlan, wantOk := rulePlan(a, b, mark)
	wantNumbers(t, what+", plan", plan, ok, wantPlan, wantOk)
	synced, unlike, ok := impl.SyncMarks(a, b, mark)
	want, wantUnlike, wantOk := ruleSynced(a, b, mark)
	wantSynced(t, what, synced, unlike, ok, want, wantUnlike, wantOk)
	if ok {
		wantPromise15(t, a, b, mark, synced, unlike)
	}
	return ok
}

// wantPromise15 asks the program itself for all blocks: those of what was synced are the other one's, those that were copied were dirty, and all others are as at the mark. What was set ahead is left alone.
func wantPromise15(t *testing.T, a impl.Marks, b impl.Marks, mark int, synced impl.Marks, unlike int) {
	t.Helper()
	what := mapsName(a, b) + " at " + strconv.Itoa(mark) + " made " + marksName(synced)
	got, ok := impl.LastBlocks(synced)
	wantTexts(t, what, got, ok, ruleLast(b), true)
	ofA, _ := impl.DirtyIn(a, mark)
	ofB, _ := impl.DirtyIn(b, mark)
	atMark, was := allAt(t, a, mark), ruleLast(a)
	changed, dirty := 0, 0
	for block := range 16 {
		if got[block] != was[block] {
			changed++
		}
		if slices.Contains(ofA, block) || slices.Contains(ofB, block) {
			dirty++
		} else if got[block] != atMark[block] {
			t.Errorf("%s: block %d is %q", what, block, got[block])
		}
	}
	if changed != unlike || changed > dirty {
		t.Errorf("%s: %d were told, %d were copied of %v and %v", what, unlike, changed, ofA, ofB)
	}
	last := len(a.Layers) - 1
	wantMarks(t, what, marksOf(synced.Layers[:last]...), last > 0, marksOf(a.Layers[:last]...), last > 0)
}

func wantLastBlocks(t *testing.T, m impl.Marks) {
	t.Helper()
	got, ok := impl.LastBlocks(m)
	wantTexts(t, "last of "+marksName(m), got, ok, ruleLast(m), true)
	wantTexts(t, "last of "+marksName(m), got, ok, allAt(t, m, slices.Max(marksAre(m))), true)
}

func wantCommon(t *testing.T, a impl.Marks, b impl.Marks) (int, bool) {
	t.Helper()
	mark, ok := impl.CommonMark(a, b)
	want, wantOk := ruleCommon(a, b)
	wantNumber(t, mapsName(a, b)+", common", mark, ok, want, wantOk)
	return mark, ok
}

func wantCopied(t *testing.T, a impl.Marks, b impl.Marks, blocks []int) {
	t.Helper()
	got, ok := impl.CopyBlocks(a, b, blocks)
	want, wantOk := ruleCopied(a, b, blocks)
	wantMarks(t, mapsName(a, b)+" copied "+numbersName(blocks), got, ok, want, wantOk)
}

// marksNear are all marks of both, and those beside them.
func marksNear(a impl.Marks, b impl.Marks) []int {
	var l []int
	for _, mark := range append(marksAre(a), marksAre(b)...) {
		l = append(l, mark-1, mark, mark+1)
	}
	slices.Sort(l)
	return slices.Compact(l)
}

// wantToldOfMaps holds all that is told of two good maps against the rules; it tells at how many marks they can be synced.
func wantToldOfMaps(t *testing.T, a impl.Marks, b impl.Marks) int {
	t.Helper()
	many := 0
	for _, mark := range marksNear(a, b) {
		if wantAtMark(t, a, b, mark) {
			many++
		}
	}
	wantLastBlocks(t, a)
	wantCommon(t, a, b)
	wantCopied(t, a, b, nil)
	wantCopied(t, a, b, allBlocks())
	return many
}

// mapPair are two maps.
type mapPair struct {
	a, b impl.Marks
}

// mixedLayer has some blocks, one in so many.
func mixedLayer(n *numbers, mark int, part int) impl.Layer {
	l := impl.Layer{Mark: mark}
	for block := range 16 {
		if n.below(part) == 0 {
			l.Blocks, l.Data = append(l.Blocks, block), append(l.Data, fewTexts[n.below(len(fewTexts))])
		}
	}
	return l
}

// wentOn are marks that went their own way: some layers more, some marks dropped, and at times another block in a layer that both have.
func wentOn(n *numbers, m impl.Marks) impl.Marks {
	m = marksOf(slices.Clone(m.Layers)...)
	for range n.below(9 - len(m.Layers)) {
		if last := slices.Max(marksAre(m)); last < 198 {
			m.Layers = append(m.Layers, mixedLayer(n, last+1+n.below(2), 2+n.below(9)))
		}
	}
	for range max(n.below(5)-2, 0) {
		if dropped, ok := ruleDrop(m, marksAre(m)[n.below(len(m.Layers))]); ok {
			m = dropped
		}
	}
	if n.below(4) == 0 {
		k := n.below(len(m.Layers))
		m.Layers[k] = ruleJoin(m.Layers[k], layer(m.Layers[k].Mark, strconv.Itoa(n.below(16))+"=zz"))
	}
	return m
}

// somePairs have marks in common, at most of which they are alike.
func somePairs() []mapPair {
	var l []mapPair
	for i := range 500 {
		n := &numbers{seed: uint64(15000 + i)}
		many := 1 + i%6
		m := marksWith(n, many, many-1+n.below(190), 1+n.below(8))
		l = append(l, mapPair{wentOn(n, m), wentOn(n, m)})
	}
	return l
}

// edgePairs lie at what the chapter names: each of the edge marks with itself, and with each other one of them.
func edgePairs() []mapPair {
	var l []mapPair
	for _, a := range edgeMarks() {
		for _, b := range edgeMarks() {
			l = append(l, mapPair{a, b})
		}
	}
	return l
}

func goodPairs() []mapPair {
	return append(edgePairs(), somePairs()...)
}

// Promise 15: all that is told of two maps is as the document says.
func TestMapsAreToldByTheRules(t *testing.T) {
	synced, common := 0, 0
	for _, p := range goodPairs() {
		synced += wantToldOfMaps(t, p.a, p.b)
		if _, ok := impl.CommonMark(p.a, p.b); ok {
			common++
		}
	}
	if synced < 900 || common < 250 {
		t.Errorf("just %d were synced, just %d had a mark in common", synced, common)
	}
}

// All marks that there are and are not, of few pairs.
func TestMapsAtEveryMark(t *testing.T) {
	for i, p := range somePairs() {
		if i%25 == 0 {
			for mark := -2; mark <= 202; mark++ {
				wantAtMark(t, p.a, p.b, mark)
			}
		}
	}
}

// place is one of two that go their own ways: what the program made of its marks, all blocks at each of them in full, and the blocks that were written under each.
type place struct {
	m       impl.Marks
	whole   wholes
	written [][16]bool
}

func newPlace(mark int) place {
	m, _ := impl.NewMarks(mark)
	return place{m: m, whole: newWholes(mark), written: make([][16]bool, 1)}
}

// step has what was written stay with the layers that have it.
func (p place) step(t *testing.T, s markStep) place {
	t.Helper()
	m, ok := doMarkStep(p.m, s)
	whole, is := p.whole.step(s)
	if ok != is {
		t.Fatalf("%v of %s: %v, want %v", s, marksName(p.m), ok, is)
	}
	if !ok {
		return p
	}
	next := place{m: m, whole: whole, written: slices.Clone(p.written)}
	k, last := slices.Index(p.whole.marks, s.mark), len(p.written)-1
	switch s.kind {
	case 0:
		next.written[last][s.block] = true
	case 1:
		next.written = append(next.written, [16]bool{})
	case 2:
		for block, is := range p.written[k] {
			next.written[k+1][block] = next.written[k+1][block] || is
		}
		next.written = slices.Delete(next.written, k, k+1)
	case 3:
		next.written = append(next.written[:k+1], [16]bool{})
	}
	return next
}

func (p place) steps(t *testing.T, steps []markStep) place {
	t.Helper()
	for _, s := range steps {
		p = p.step(t, s)
	}
	return p
}

// at are all blocks at a mark that there is.
func (p place) at(mark int) [16]string {
	return p.whole.blocks[slices.Index(p.whole.marks, mark)]
}

func (p place) last() [16]string {
	return p.whole.blocks[len(p.whole.blocks)-1]
}

// writtenSince are the blocks that were written behind a mark.
func (p place) writtenSince(mark int) [16]bool {
	var all [16]bool
	for k, written := range p.written {
		for block, is := range written {
			all[block] = all[block] || is && p.whole.marks[k] > mark
		}
	}
	return all
}

func blocksWith(is [16]bool) []int {
	var l []int
	for block := range is {
		if is[block] {
			l = append(l, block)
		}
	}
	return l
}

// eitherOf has what is true in one or the other.
func eitherOf(a [16]bool, b [16]bool) [16]bool {
	for block := range a {
		a[block] = a[block] || b[block]
	}
	return a
}

// wantPlacesSynced holds all that is told of two places against their histories; it tells at how many marks they were synced.
func wantPlacesSynced(t *testing.T, a place, b place) int {
	t.Helper()
	many, common := 0, -1
	for _, mark := range a.whole.marks {
		if !slices.Contains(b.whole.marks, mark) {
			continue
		}
		same := a.at(mark) == b.at(mark)
		got, ok := impl.SameAt(a.m, b.m, mark)
		wantBool(t, mapsName(a.m, b.m)+" same", got, ok, same, true)
		if same && mark != slices.Max(a.whole.marks) && mark != slices.Max(b.whole.marks) {
			common = mark
		}
		if same {
			many++
			wantPlacesSyncedAt(t, a, b, mark)
		} else {
			wantNoSync(t, a.m, b.m, mark)
		}
	}
	mark, ok := impl.CommonMark(a.m, b.m)
	wantNumber(t, mapsName(a.m, b.m)+" common", mark, ok, max(common, 0), common >= 0)
	return many
}

func wantPlacesSyncedAt(t *testing.T, a place, b place, mark int) {
	t.Helper()
	what := mapsName(a.m, b.m) + " at " + strconv.Itoa(mark)
	dirty, ok := impl.DirtyIn(a.m, mark)
	wantNumbers(t, what+", dirty", dirty, ok, blocksWith(a.writtenSince(mark)), true)
	plan, ok := impl.PlanSync(a.m, b.m, mark)
	either := eitherOf(a.writtenSince(mark), b.writtenSince(mark))
	wantNumbers(t, what+", plan", plan, ok, blocksWith(either), true)
	synced, unlike, ok := impl.SyncMarks(a.m, b.m, mark)
	last, is := impl.LastBlocks(synced)
	want := b.last()
	wantTexts(t, what+", last", last, ok && is, want[:], true)
	count := 0
	for block, ahead := range a.last() {
		if ahead != want[block] {
			count++
		}
		if !either[block] && last[block] != a.at(mark)[block] {
			t.Errorf("%s: block %d is %q", what, block, last[block])
		}
	}
	wantNumber(t, what+", unlike", unlike, ok, count, true)
	if unlike > len(plan) {
		t.Errorf("%s: %d were copied of %v", what, unlike, plan)
	}
	for k, earlier := range a.whole.marks[:len(a.whole.marks)-1] {
		wantTexts(t, what, allAt(t, synced, earlier), true, a.whole.blocks[k][:], true)
	}
}

// wantSyncedBack syncs what was synced: nothing is unlike any more, nor the other way round.
func wantSyncedBack(t *testing.T, a impl.Marks, b impl.Marks, mark int) {
	t.Helper()
	synced, _, _ := impl.SyncMarks(a, b, mark)
	if same, ok := impl.SameAt(synced, b, mark); !same || !ok {
		return // the mark is that of the last layer, which was written
	}
	what := mapsName(a, b) + " at " + strconv.Itoa(mark)
	again, unlike, ok := impl.SyncMarks(synced, b, mark)
	wantSynced(t, what+" again", again, unlike, ok, synced, 0, true)
	back, unlike, ok := impl.SyncMarks(b, synced, mark)
	wantSynced(t, what+" back", back, unlike, ok, b, 0, true)
}

// someMarkSteps are most often such as can be done; few blocks, so that they meet.
func someMarkSteps(t *testing.T, n *numbers, p place, many int) place {
	t.Helper()
	for range many {
		s := someStep(n, p.whole)
		if s.kind >= 2 && n.below(3) > 0 {
			s.kind = 1
		}
		s.block %= 1 + n.below(16)
		p = p.step(t, s)
	}
	return p
}

// Promise 15: places that had their marks in common, and then each wrote, set, dropped and went back on its own.
func TestPlacesThatWentTheirOwnWay(t *testing.T) {
	many := 0
	for i := range 700 {
		n := &numbers{seed: uint64(15500 + i)}
		both := someMarkSteps(t, n, newPlace([]int{0, 7, 120, 194, 197}[i%5]), n.below(25))
		both = both.step(t, markStep{kind: 1})
		a, b := someMarkSteps(t, n, both, n.below(20)), someMarkSteps(t, n, both, n.below(20))
		many += wantPlacesSynced(t, a, b)
		many += wantPlacesSynced(t, b, a)
		for _, mark := range a.whole.marks {
			if _, ok := impl.PlanSync(a.m, b.m, mark); ok {
				wantSyncedBack(t, a.m, b.m, mark)
			}
		}
	}
	if many < 1500 {
		t.Errorf("just %d were synced", many)
	}
}

// forksOf are what comes of every few steps of these.
func forksOf(t *testing.T, from place, most int) []place {
	t.Helper()
	steps := []markStep{{kind: 0, block: 0, data: "ab"}, {kind: 0, block: 0, data: "cd"}, {kind: 0, block: 9, data: "cd"}, {kind: 1}, {kind: 2, mark: 8}, {kind: 3, mark: 7}}
	var l []place
	eachList(most, steps, func(steps []markStep) { l = append(l, from.steps(t, steps)) })
	return l
}

// Promise 15: every few steps at one place, and every few ones at the other.
func TestEveryShortForkOfTwoPlaces(t *testing.T) {
	both := newPlace(7).steps(t, []markStep{{kind: 0, block: 0, data: "ab"}, {kind: 1}, {kind: 0, block: 15, data: "ab"}, {kind: 1}})
	farther := forksOf(t, both, 3)
	for _, a := range forksOf(t, both, 2) {
		for _, b := range farther {
			wantPlacesSynced(t, a, b)
			wantPlacesSynced(t, b, a)
		}
	}
}

// wantSync is for what is told by hand: the blocks that are dirty, and what is made of a.
func wantSync(t *testing.T, a impl.Marks, b impl.Marks, mark int, wantPlan []int, want impl.Marks, wantUnlike int) {
	t.Helper()
	wantAtMark(t, a, b, mark)
	what := mapsName(a, b) + " at " + strconv.Itoa(mark)
	plan, ok := impl.PlanSync(a, b, mark)
	wantNumbers(t, what+", plan", plan, ok, wantPlan, true)
	plan, ok = impl.PlanSync(b, a, mark)
	wantNumbers(t, what+", plan turned", plan, ok, wantPlan, true)
	synced, unlike, ok := impl.SyncMarks(a, b, mark)
	wantSynced(t, what, synced, unlike, ok, want, wantUnlike, true)
	copied, ok := impl.CopyBlocks(a, b, plan)
	wantMarks(t, what+", copied", copied, ok, want, true)
}

// wantNoSync asks at a mark at which they can't be synced, in both orders.
func wantNoSync(t *testing.T, a impl.Marks, b impl.Marks, mark int) {
	t.Helper()
	for _, p := range []mapPair{{a, b}, {b, a}} {
		what := mapsName(p.a, p.b) + " at " + strconv.Itoa(mark)
		plan, ok := impl.PlanSync(p.a, p.b, mark)
		wantNumbers(t, what+", plan", plan, ok, nil, false)
		synced, unlike, ok := impl.SyncMarks(p.a, p.b, mark)
		wantSynced(t, what, synced, unlike, ok, impl.Marks{}, 0, false)
	}
}

func wantSame(t *testing.T, a impl.Marks, b impl.Marks, mark int, want bool, wantOk bool) {
	t.Helper()
	for _, p := range []mapPair{{a, b}, {b, a}} {
		same, ok := impl.SameAt(p.a, p.b, mark)
		wantBool(t, mapsName(p.a, p.b)+" same at "+strconv.Itoa(mark), same, ok, want, wantOk)
	}
}

// behind has layers behind one that both have, with block 3.
func behind(layers ...impl.Layer) impl.Marks {
	return marksOf(append([]impl.Layer{layer(0, "3=ab")}, layers...)...)
}

func TestSyncsKnownByHand(t *testing.T) {
	for _, c := range []struct {
		a, b   impl.Marks
		plan   []int
		want   impl.Marks
		unlike int
	}{
		// Nothing changed at either.
		{behind(layer(1)), behind(layer(1)), nil, behind(layer(1)), 0},
		{behind(layer(1), layer(2)), behind(layer(9)), nil, behind(layer(1), layer(2)), 0},
		// Changed at one alone.
		{behind(layer(1)), behind(layer(1, "3=cd")), []int{3}, behind(layer(1, "3=cd")), 1},
		{behind(layer(1, "3=cd")), behind(layer(1)), []int{3}, behind(layer(1, "3=ab")), 1},
		{behind(layer(1, "4=cd")), behind(layer(1)), []int{4}, behind(layer(1, "4="+zeroBlock)), 1},
		{behind(layer(1, "4=cd"), layer(2)), behind(layer(1)), []int{4}, behind(layer(1, "4=cd"), layer(2, "4="+zeroBlock)), 1},
		{behind(layer(1)), behind(layer(1, "0=cd"), layer(2), layer(5, "15=ef")), []int{0, 15}, behind(layer(1, "0=cd", "15=ef")), 2},
		// Each changed one of its own.
		{behind(layer(1, "1=aa")), behind(layer(1, "2=bb")), []int{1, 2}, behind(layer(1, "1="+zeroBlock, "2=bb")), 2},
		// Dirty at both, alike and unlike.
		{behind(layer(1, "3=cd")), behind(layer(1, "3=cd")), []int{3}, behind(layer(1, "3=cd")), 0},
		{behind(layer(1, "3=cd"), layer(2)), behind(layer(4, "3=cd")), []int{3}, behind(layer(1, "3=cd"), layer(2)), 0},
		{behind(layer(1, "3=cd")), behind(layer(1, "3=ef")), []int{3}, behind(layer(1, "3=ef")), 1},
		{behind(layer(1, "3=cd", "4=cd")), behind(layer(1, "3=cd", "4=ef")), []int{3, 4}, behind(layer(1, "3=cd", "4=ef")), 1},
		// Written anew with its own bytes.
		{behind(layer(1, "3=ab")), behind(layer(1)), []int{3}, behind(layer(1, "3=ab")), 0},
		{behind(layer(1)), behind(layer(1, "3=ab")), []int{3}, behind(layer(1)), 0},
		{behind(layer(1)), behind(layer(1, "7="+zeroBlock)), []int{7}, behind(layer(1)), 0},
		// Away, and back again.
		{behind(layer(1, "3=cd"), layer(2, "3=ab")), behind(layer(1)), []int{3}, behind(layer(1, "3=cd"), layer(2, "3=ab")), 0},
		{behind(layer(1)), behind(layer(1, "3=cd"), layer(2, "3=ab")), []int{3}, behind(layer(1)), 0},
		// All of them.
		{behind(layer(1)), behind(fullLayer(1, "zz")), allBlocks(), behind(fullLayer(1, "zz")), 16},
		{behind(fullLayer(1, "zz")), behind(fullLayer(1, "zz")), allBlocks(), behind(fullLayer(1, "zz")), 0},
		// What needs no new mark can be done also where there is no room for one.
		{behind(layer(1), layer(2), layer(3), layer(4), layer(5), layer(6), layer(7)), behind(layer(1, "3=cd")), []int{3}, behind(layer(1), layer(2), layer(3), layer(4), layer(5), layer(6), layer(7, "3=cd")), 1},
		{behind(layer(200)), behind(layer(1, "3=cd")), []int{3}, behind(layer(200, "3=cd")), 1},
	} {
		wantSync(t, c.a, c.b, 0, c.plan, c.want, c.unlike)
	}
}

// A mark that is of the last layer of one, or of both, is one of theirs all the same.
func TestSyncsAtALastLayer(t *testing.T) {
	short, long := behind(layer(4, "5=ab")), marksOf(layer(4, "3=ab", "5=ab"), layer(9, "5=cd", "6="+zeroBlock))
	wantSync(t, short, long, 4, []int{5, 6}, behind(layer(4, "5=cd")), 1)
	wantSync(t, long, short, 4, []int{5, 6}, marksOf(layer(4, "3=ab", "5=ab"), layer(9, "5=ab", "6="+zeroBlock)), 1)
	wantSync(t, short, marksOf(layer(4, "3=ab", "5=ab")), 4, nil, short, 0)
	wantSync(t, short, short, 4, nil, short, 0)
	wantSync(t, short, short, 0, []int{5}, short, 0)
	one, other := marksOf(layer(7, "2=ab")), marksOf(layer(7, "2=cd"))
	wantSync(t, one, one, 7, nil, one, 0)
	wantSame(t, one, other, 7, false, true)
	wantNoSync(t, one, other, 7)
	for _, p := range []mapPair{{short, long}, {short, short}, {one, one}, {emptyLayers(0), emptyLayers(0)}, {emptyLayers(200), emptyLayers(200)}} {
		last := slices.Max(marksAre(p.a))
		wantSame(t, p.a, p.b, last, true, true)
		if mark, ok := impl.CommonMark(p.a, p.b); ok && mark >= last {
			t.Errorf("%s: %d is common", mapsName(p.a, p.b), mark)
		}
	}
}

func TestSyncsAtAMarkThatIsNotBoths(t *testing.T) {
	a, b := behind(layer(2, "3=cd"), layer(4)), marksOf(layer(0, "3=xy"), layer(3, "3=ab"), layer(4, "3=cd"), layer(6))
	for _, mark := range append([]int{1, 2, 3, 5, 6, 7, 200, 201}, wrongNumbers...) {
		wantSame(t, a, b, mark, false, false)
		wantNoSync(t, a, b, mark)
	}
	// Both have it, but some block is unlike.
	wantSame(t, a, b, 0, false, true)
	wantNoSync(t, a, b, 0)
	wantSync(t, a, b, 4, nil, a, 0)
}

func TestSameAtKnownByHand(t *testing.T) {
	// Unlike ahead of the mark, alike at it, unlike behind.
	a, b := marksOf(layer(0, "3=ab"), layer(1, "3=cd"), layer(2, "3=ef")), marksOf(layer(0, "3=ef"), layer(1, "3=cd"), layer(2))
	wantSame(t, a, b, 0, false, true)
	wantSame(t, a, b, 1, true, true)
	wantSame(t, a, b, 2, false, true)
	// By layers of other marks, and a block that is written with noughts or not at all.
	a, b = marksOf(layer(0, "3=ab"), layer(5, "4=cd"), layer(6)), marksOf(layer(2, "4=cd"), layer(4, "3=cd", "9="+zeroBlock), layer(5, "3=ab"), layer(6, "9=\x00\x01"))
	wantSame(t, a, b, 5, true, true)
	wantSame(t, a, b, 6, false, true)
	for _, mark := range []int{0, 2, 4} {
		wantSame(t, a, b, mark, false, false)
	}
	// One block alone is unlike, and by one byte.
	for block := range 16 {
		full := marksOf(fullLayer(3, "ab"), layer(8))
		for _, data := range []string{"a\x00", "\x00b", "ba", "aa", "bb"} {
			other := marksOf(ruleJoin(fullLayer(3, "ab"), layer(3, strconv.Itoa(block)+"="+data)), layer(8))
			wantSame(t, full, other, 3, false, true)
			wantSame(t, full, other, 8, false, true)
		}
		wantSame(t, full, full, 8, true, true)
	}
}

func TestLastBlocksKnownByHand(t *testing.T) {
	all := slices.Repeat([]string{zeroBlock}, 16)
	for _, c := range []struct {
		m     impl.Marks
		parts map[int]string
	}{
		{emptyLayers(0), nil}, {emptyLayers(3, 200), nil},
		{marksOf(layer(9, "0=ab", "15=cd")), map[int]string{0: "ab", 15: "cd"}},
		{marksOf(layer(9, "0=ab", "15=cd"), layer(10)), map[int]string{0: "ab", 15: "cd"}},
		{marksOf(layer(9, "0=ab", "15=cd"), layer(10, "0=ef")), map[int]string{0: "ef", 15: "cd"}},
		{marksOf(layer(0, "1=ab"), layer(1, "2=ab"), layer(2, "1="+zeroBlock, "7=xy")), map[int]string{2: "ab", 7: "xy"}},
	} {
		want := slices.Clone(all)
		for block, data := range c.parts {
			want[block] = data
		}
		got, ok := impl.LastBlocks(c.m)
		wantTexts(t, marksName(c.m), got, ok, want, true)
	}
	got, ok := impl.LastBlocks(marksOf(fullLayer(0, "ab"), layer(1), fullLayer(2, "cd")))
	wantTexts(t, "all written twice", got, ok, slices.Repeat([]string{"cd"}, 16), true)
	for _, m := range goodMarks() {
		wantLastBlocks(t, m)
	}
}

func TestDirtyInKnownByHand(t *testing.T) {
	m := marksOf(layer(2, "1=ab", "8=ab"), layer(5, "3=ab", "15=ab"), layer(6), layer(9, "0=ab", "3=cd"), layer(10, "1=ab"))
	for _, c := range []struct {
		mark int
		want []int
	}{{2, []int{0, 1, 3, 15}}, {5, []int{0, 1, 3}}, {6, []int{0, 1, 3}}, {9, []int{1}}, {10, nil}} {
		got, ok := impl.DirtyIn(m, c.mark)
		wantNumbers(t, "dirty in "+strconv.Itoa(c.mark), got, ok, c.want, true)
	}
	for _, mark := range append([]int{0, 1, 3, 4, 7, 8, 11, 200, 201}, wrongNumbers...) {
		got, ok := impl.DirtyIn(m, mark)
		wantNumbers(t, "dirty in "+strconv.Itoa(mark), got, ok, nil, false)
	}
	for _, m := range []impl.Marks{emptyLayers(0), emptyLayers(200), marksOf(fullLayer(3, "ab")), marksOf(fullLayer(3, "ab"), layer(4))} {
		got, ok := impl.DirtyIn(m, m.Layers[0].Mark)
		wantNumbers(t, marksName(m), got, ok, nil, true)
	}
	got, ok := impl.DirtyIn(marksOf(layer(3), fullLayer(4, zeroBlock), fullLayer(5, "ab")), 3)
	wantNumbers(t, "all", got, ok, allBlocks(), true)
}

func TestDirtyInIsWhatLaterLayersHave(t *testing.T) {
	for _, m := range goodMarks() {
		for mark := -1; mark <= 201; mark++ {
			got, ok := impl.DirtyIn(m, mark)
			want, wantOk := ruleDirty(m, mark)
			wantNumbers(t, marksName(m)+" dirty in "+strconv.Itoa(mark), got, ok, want, wantOk)
		}
	}
}

func TestCommonMarkKnownByHand(t *testing.T) {
	three := func(first string, second string) impl.Marks {
		return marksOf(layer(0, "3="+first), layer(1, "3="+second), layer(2))
	}
	for _, c := range []struct {
		a, b   impl.Marks
		want   int
		wantOk bool
	}{
		{emptyLayers(0, 1, 2), emptyLayers(0, 1, 2), 1, true},
		// The last layer of one or of the other is left out.
		{emptyLayers(0, 1, 2), emptyLayers(0, 1), 0, true},
		{emptyLayers(0, 1, 2), emptyLayers(0, 2), 0, true},
		{emptyLayers(0, 1, 2, 3), emptyLayers(0, 2), 0, true},
		{emptyLayers(0, 1, 2, 3), emptyLayers(0, 1, 3), 1, true},
		{emptyLayers(1, 2), emptyLayers(0, 1), 0, false},
		{emptyLayers(0, 5), emptyLayers(5, 6), 0, false},
		{emptyLayers(0, 5), emptyLayers(4, 5), 0, false},
		{emptyLayers(0), emptyLayers(0), 0, false},
		{emptyLayers(0), emptyLayers(0, 1), 0, false},
		{emptyLayers(0, 1), emptyLayers(0, 1), 0, true},
		{emptyLayers(0, 200), emptyLayers(0, 200), 0, true},
		{emptyLayers(199, 200), emptyLayers(3, 199, 200), 199, true},
		// None in common.
		{emptyLayers(0, 2, 4, 6), emptyLayers(1, 3, 5, 7), 0, false},
		{emptyLayers(0, 1, 2), emptyLayers(3, 4, 5), 0, false},
		// Unlike at some of them.
		{three("ab", "cd"), three("ab", "cd"), 1, true},
		{three("ab", "cd"), three("ab", "ef"), 0, true},
		{three("ab", "cd"), three("xy", "cd"), 1, true},
		{three("ab", "cd"), three("xy", "ef"), 0, false},
		{marksOf(layer(3, "3=ab"), layer(5, "4=ab"), layer(7, "5=ab"), layer(8)), marksOf(layer(3, "3=ab"), layer(5, "5=ab"), layer(7, "5=ab"), layer(9)), 3, true},
		{marksOf(layer(3, "3=ab"), layer(5, "4=ab"), layer(7, "5=ab"), layer(8)), marksOf(layer(3), layer(5, "3=ab", "4=ab"), layer(7, "5=cd"), layer(9)), 5, true},
		// Alike at the last layers alone.
		{marksOf(layer(0, "3=ab"), layer(1, "3=ef")), marksOf(layer(0, "3=cd"), layer(1, "3=ef")), 0, false},
	} {
		for _, p := range []mapPair{{c.a, c.b}, {c.b, c.a}} {
			got, ok := wantCommon(t, p.a, p.b)
			wantNumber(t, mapsName(p.a, p.b), got, ok, c.want, c.wantOk)
		}
	}
}

// All marks of two of few layers: which there are, and which is the last one.
func TestCommonMarkOfAllFewLayers(t *testing.T) {
	var all []impl.Marks
	for many := 1; many <= 6; many++ {
		eachOf(fromTo(0, 5), many, func(some []int) {
			m := emptyLayers(some...)
			all = append(all, m)
			if m.Layers[0].Mark == 1 {
				m, _ = ruleWriteMark(m, 3, "ab")
				all = append(all, m)
			}
		})
	}
	for _, a := range all {
		for _, b := range all {
			wantCommon(t, a, b)
		}
	}
}

func TestCopiesKnownByHand(t *testing.T) {
	a, b := behind(layer(1, "4=cd")), behind(layer(1, "4=cd", "5=ef"), layer(2, "9="+zeroBlock, "15=zz"))
	for _, c := range []struct {
		blocks []int
		want   impl.Marks
	}{
		{nil, a}, {[]int{}, a}, {[]int{3}, a}, {[]int{4}, a}, {[]int{9}, a}, {[]int{0, 3, 4, 9, 14}, a},
		{[]int{5}, behind(layer(1, "4=cd", "5=ef"))}, {[]int{15}, behind(layer(1, "4=cd", "15=zz"))},
		{[]int{4, 5}, behind(layer(1, "4=cd", "5=ef"))}, {[]int{0, 5, 15}, behind(layer(1, "4=cd", "5=ef", "15=zz"))},
		{allBlocks(), behind(layer(1, "4=cd", "5=ef", "15=zz"))},
	} {
		got, ok := impl.CopyBlocks(a, b, c.blocks)
		wantMarks(t, "copied "+numbersName(c.blocks), got, ok, c.want, true)
	}
	// Without any mark in common, and unlike at all of them.
	one, other := marksOf(layer(3, "0=ab")), marksOf(layer(9, "1=cd"))
	got, ok := impl.CopyBlocks(one, other, []int{0})
	wantMarks(t, "no mark in common", got, ok, marksOf(layer(3, "0="+zeroBlock)), true)
	got, ok = impl.CopyBlocks(one, other, []int{1})
	wantMarks(t, "no mark in common", got, ok, marksOf(layer(3, "0=ab", "1=cd")), true)
	got, ok = impl.CopyBlocks(one, other, allBlocks())
	wantMarks(t, "no mark in common", got, ok, marksOf(layer(3, "0="+zeroBlock, "1=cd")), true)
	got, ok = impl.CopyBlocks(marksOf(fullLayer(0, "ab"), layer(1)), emptyLayers(7), allBlocks())
	wantMarks(t, "all of them", got, ok, marksOf(fullLayer(0, "ab"), fullLayer(1, zeroBlock)), true)
}

func TestCopiesOfListsThatDoNotRise(t *testing.T) {
	a, b := behind(layer(1, "4=cd")), behind(layer(1), layer(2, "0=ab", "15=zz"))
	lists := [][]int{{-1}, {16}, {-1, 0}, {15, 16}, {0, 0}, {15, 15}, {4, 4}, {1, 0}, {15, 0}, {0, 1, 1}, {0, 2, 1}, {0, 0, 1}, {3, 4, 16}, {-1, 3, 4}, {0, -1},
		append(allBlocks(), 16), append(allBlocks(), 15), append([]int{-1}, allBlocks()...), append([]int{0}, allBlocks()...), slices.Repeat([]int{3}, 40)}
	for _, wrong := range wrongNumbers {
		lists = append(lists, []int{wrong}, []int{0, wrong}, []int{wrong, 0}, []int{0, wrong, 15})
	}
	for _, l := range lists {
		for _, p := range []mapPair{{a, b}, {b, a}, {a, a}} {
			got, ok := impl.CopyBlocks(p.a, p.b, l)
			wantMarks(t, "copied "+numbersName(l), got, ok, impl.Marks{}, false)
		}
	}
}

func TestCopiesOfEveryShortList(t *testing.T) {
	a, b := marksOf(fullLayer(0, "ab"), layer(1, "5=cd")), marksOf(layer(1, "0=cd", "3=ab", "15=cd"), layer(9, "5=cd"))
	eachList(3, fromTo(-1, 16), func(l []int) { wantCopied(t, a, b, l) })
}

// Of every list of blocks just those are written that are unlike.
func TestCopiesOfEveryListOfBlocks(t *testing.T) {
	a, b := marksOf(fullLayer(0, "ab"), layer(1, "5=cd")), marksOf(layer(1, "0=cd", "3=ab", "15=cd"), layer(9, "5=cd"))
	for list := range 1 << 16 {
		if list%13 == 0 {
			var is [16]bool
			for block := range is {
				is[block] = list>>block&1 == 1
			}
			wantCopied(t, a, b, blocksWith(is))
		}
	}
	for i, p := range goodPairs() {
		n := &numbers{seed: uint64(i)}
		for range 6 {
			wantCopied(t, p.a, p.b, mixedLayer(n, 0, 1+n.below(8)).Blocks)
		}
	}
}

// wantRefusedMaps asks all functions of two maps one of which is not good.
func wantRefusedMaps(t *testing.T, a impl.Marks, b impl.Marks, mark int) {
	t.Helper()
	wantSame(t, a, b, mark, false, false)
	wantNoSync(t, a, b, mark)
	for _, p := range []mapPair{{a, b}, {b, a}} {
		got, ok := impl.CommonMark(p.a, p.b)
		wantNumber(t, mapsName(p.a, p.b), got, ok, 0, false)
		for _, blocks := range [][]int{nil, {3}, allBlocks()} {
			copied, ok := impl.CopyBlocks(p.a, p.b, blocks)
			wantMarks(t, mapsName(p.a, p.b), copied, ok, impl.Marks{}, false)
		}
	}
}

// Promise 19: of marks that are not good nothing is told, whichever of the two they are.
func TestMapsThatAreNotGood(t *testing.T) {
	bad := badMarks()
	for i, m := range bad {
		l, ok := impl.LastBlocks(m)
		wantTexts(t, marksName(m), l, ok, nil, false)
		for _, mark := range append(marksAre(m), 0, 1, 4, 200) {
			dirty, ok := impl.DirtyIn(m, mark)
			wantNumbers(t, marksName(m), dirty, ok, nil, false)
			wantRefusedMaps(t, m, m, mark)
			wantRefusedMaps(t, m, emptyLayers(0, 1, 2, 3, 4, 5, 200), mark)
			wantRefusedMaps(t, m, marksOf(layer(0, "3=ab"), layer(4), layer(9)), mark)
			wantRefusedMaps(t, m, bad[(i*7+3)%len(bad)], mark)
		}
	}
}

// Promise 19: numbers that are far from all that can be, in every argument at once.
func TestMapsOfWrongNumbers(t *testing.T) {
	a, b := behind(layer(1, "4=cd"), layer(200)), behind(layer(1), layer(9, "0=ab"))
	for _, wrong := range append([]int{-1, 201, math.MaxInt - 200, math.MinInt + 200}, wrongNumbers...) {
		for _, p := range []mapPair{{a, b}, {b, a}, {a, a}} {
			wantAtMark(t, p.a, p.b, wrong)
			wantNoSync(t, p.a, p.b, wrong)
			for _, other := range append([]int{0, 15}, wrongNumbers...) {
				wantCopied(t, p.a, p.b, []int{wrong, other})
				wantCopied(t, p.a, p.b, []int{other, wrong})
			}
		}
		wantRefusedMaps(t, a, emptyLayers(wrong), 0)
		wantRefusedMaps(t, emptyLayers(0, wrong), b, 0)
	}
}

// syncAnswer is all that the functions of two maps answer.
type syncAnswer struct {
	marks []impl.Marks
	lists [][]int
	texts [][]string
	rest  []int
}

func (s *syncAnswer) add(numbers ...int) {
	s.rest = append(s.rest, numbers...)
}

func (s *syncAnswer) addBool(is ...bool) {
	for _, x := range is {
		s.add(len(strconv.FormatBool(x)))
	}
}

// syncAnswers asks all functions, also to be refused.
func syncAnswers(a impl.Marks, b impl.Marks, blocks []int) syncAnswer {
	var all syncAnswer
	for _, mark := range append(marksAre(a), 0, 201) {
		same, ok := impl.SameAt(a, b, mark)
		dirty, isDirty := impl.DirtyIn(a, mark)
		plan, isPlan := impl.PlanSync(a, b, mark)
		synced, unlike, isSynced := impl.SyncMarks(a, b, mark)
		all.addBool(same, ok, isDirty, isPlan, isSynced)
		all.add(unlike)
		all.lists, all.marks = append(all.lists, dirty, plan), append(all.marks, synced)
	}
	for _, l := range [][]int{blocks, nil, {16}} {
		copied, ok := impl.CopyBlocks(a, b, l)
		all.addBool(ok)
		all.marks = append(all.marks, copied)
	}
	for _, m := range []impl.Marks{a, b} {
		last, ok := impl.LastBlocks(m)
		all.addBool(ok)
		all.texts = append(all.texts, last)
	}
	common, ok := impl.CommonMark(a, b)
	all.addBool(ok)
	all.add(common)
	return all
}

func (s syncAnswer) allTexts() []string {
	return append(slices.Concat(s.texts...), textsOfMarks(s.marks)...)
}

func (s syncAnswer) held() []heldList {
	var lists []heldList
	for _, m := range s.marks {
		lists = append(lists, heldMarks(m)...)
	}
	for _, l := range s.lists {
		lists = append(lists, heldNumbers(l))
	}
	for _, l := range s.texts {
		lists = append(lists, heldTexts(l))
	}
	return lists
}

func (s syncAnswer) name() string {
	return namesOf(s.marks, marksName) + namesOf(s.lists, numbersName) + namesOf(s.texts, func(l []string) string { return namesOf(l, strconv.Quote) }) + numbersName(s.rest)
}

// shownPair are two maps and blocks whose lists have more behind their lengths, and the bytes under all texts.
func shownPair(p mapPair) (mapPair, []int, [][]byte) {
	a, bytesA := shownMarks(p.a)
	b, bytesB := shownMarks(p.b)
	return mapPair{a, b}, longer([]int{0, 3, 9, 15}, 3, -7, 99), append(bytesA, bytesB...)
}

// memoryPairs are good and bad ones.
func memoryPairs() []mapPair {
	l := append(goodPairs(), mapPair{behind(layer(1, "4=cd")), behind(layer(1, "0=ef"))})
	for _, m := range badMarks() {
		l = append(l, mapPair{m, emptyLayers(0, 4)}, mapPair{emptyLayers(0, 4), m})
	}
	return l
}

// Promise 19: nothing that is handed in is changed, good or not, nor what lies behind it, and no text of an answer lies in it.
func TestSyncFunctionsLeaveArgumentsAlone(t *testing.T) {
	for _, from := range memoryPairs() {
		p, blocks, bytes := shownPair(from)
		var were []string
		for _, b := range bytes {
			were = append(were, string(b))
		}
		lists := slices.Concat(heldMarks(p.a), heldMarks(p.b), []heldList{heldNumbers(blocks)})
		ahead := shownLists(lists)
		answer := syncAnswers(p.a, p.b, blocks)
		if behind := shownLists(lists); !slices.Equal(ahead, behind) {
			t.Errorf("%s: was %q, is %q", mapsName(from.a, from.b), ahead, behind)
		}
		for i, b := range bytes {
			if string(b) != were[i] {
				t.Errorf("%s: was %q, is %q", mapsName(from.a, from.b), were[i], b)
			}
		}
		wantApart(t, answer.allTexts(), bytes...)
	}
}

// Promise 19: each list of an answer has memory of its own, apart from that of what was handed in, of all other lists, and of what is answered another time.
func TestSyncAnswersAreNewMemory(t *testing.T) {
	for i, from := range memoryPairs() {
		// All lists are held against all others: some of the pairs are enough.
		if i%17 != 0 {
			continue
		}
		p, blocks, _ := shownPair(from)
		lists := append(syncAnswers(p.a, p.b, blocks).held(), syncAnswers(p.a, p.a, blocks).held()...)
		args := slices.Concat(heldMarks(p.a), heldMarks(p.b), []heldList{heldNumbers(blocks)})
		wantNoneShared(t, mapsName(from.a, from.b), append(lists, args...), len(lists))
	}
}

// Promise 19: what lies behind a list's length is neither read nor handed out.
func TestMapsBehindTheLengthAreNotRead(t *testing.T) {
	for _, from := range memoryPairs() {
		p, blocks, _ := shownPair(from)
		got, want := syncAnswers(p.a, p.b, blocks), syncAnswers(from.a, from.b, slices.Clone(blocks))
		if got.name() != want.name() {
			t.Errorf("%s: got %s, want %s", mapsName(from.a, from.b), got.name(), want.name())
		}
		for _, m := range got.marks {
			wantNoMarksBehind(t, m)
		}
		for _, l := range got.lists {
			if slices.ContainsFunc(l[len(l):cap(l)], func(x int) bool { return x != 0 }) {
				t.Errorf("%s: behind %v there are %v", mapsName(from.a, from.b), l, l[len(l):cap(l)])
			}
		}
		for _, l := range got.texts {
			if slices.ContainsFunc(l[len(l):cap(l)], func(s string) bool { return s != "" }) {
				t.Errorf("%s: behind %q there are %q", mapsName(from.a, from.b), l, l[len(l):cap(l)])
			}
		}
	}
}

// Lists that have what they lack behind their length are as ones that lack it.
func TestMapsThatAreCut(t *testing.T) {
	whole := marksOf(layer(0, "3=ab"), layer(1, "3=cd"), layer(2, "4=ef"), layer(3))
	cut := impl.Marks{Layers: whole.Layers[:2]}
	wantToldOfMaps(t, cut, whole)
	wantToldOfMaps(t, whole, cut)
	for _, mark := range []int{2, 3} {
		wantSame(t, cut, whole, mark, false, false)
		wantNoSync(t, cut, whole, mark)
	}
	got, ok := impl.CopyBlocks(cut, whole, []int{3, 4, 5, 16}[:2])
	wantMarks(t, "blocks that are cut", got, ok, marksOf(layer(0, "3=ab"), layer(1, "3=cd", "4=ef")), true)
	if name := marksName(impl.Marks{Layers: cut.Layers[:4]}); name != marksName(whole) {
		t.Errorf("behind the layers there is %s", name)
	}
}

// A map is gone through in another order each time; no answer may hang on it.
func TestSyncFunctionsAnswerAlikeTwice(t *testing.T) {
	for _, p := range goodPairs() {
		want := syncAnswers(p.a, p.b, []int{0, 3, 9, 15}).name()
		for range 3 {
			if got := syncAnswers(p.a, p.b, []int{0, 3, 9, 15}).name(); got != want {
				t.Errorf("%s: got %s, then %s", mapsName(p.a, p.b), want, got)
			}
		}
	}
}
