package tests

import (
	"maps"
	"math"
	"slices"
	"strconv"
	"strings"
	"testing"

	"loop.example/g00541/impl"
)

// mirrorBook tells what a mirror is without any layer: all blocks in full at each mark that the source ever set, also where it was dropped since, and all that the remote has got.
type mirrorBook struct {
	source wholes
	was    map[int][16]string
	mark   int
	remote [16]string
	to     int
	left   []int
	coming [16]string
	heard  int
}

func newMirrorBook() mirrorBook {
	b := mirrorBook{source: newWholes(0), was: map[int][16]string{}}
	b, _ = b.marked()
	b.remote = b.was[0]
	return b
}

// marked keeps what all is in full, whatever becomes of the mark.
func (b mirrorBook) marked() (mirrorBook, bool) {
	marks, blocks := b.source.marks, b.source.blocks
	next, ok := b.source.step(markStep{kind: 1})
	if !ok && marks[0] < b.heard {
		next, _ = b.source.step(markStep{kind: 2, mark: marks[0]})
		next, ok = next.step(markStep{kind: 1})
	}
	if ok {
		b.source, b.was = next, maps.Clone(b.was)
		b.was[marks[len(marks)-1]] = blocks[len(blocks)-1]
	}
	return b, ok
}

// lacked are the marks that were set and that the remote has not got.
func (b mirrorBook) lacked() []int {
	return slices.DeleteFunc(slices.Sorted(maps.Keys(b.was)), func(mark int) bool { return mark <= b.mark })
}

func unlikeIn(a [16]string, b [16]string) []int {
	var l []int
	for block := range a {
		if a[block] != b[block] {
			l = append(l, block)
		}
	}
	return l
}

// got is what comes behind a block, or behind none at all.
func (b mirrorBook) got() mirrorBook {
	if len(b.left) == 0 {
		b.remote, b.mark, b.to = b.coming, b.to, 0
	}
	return b
}

// step tells what a mirror is behind a step.
func (b mirrorBook) step(s impl.MirrorStep) (mirrorBook, bool) {
	isPlain := s == impl.MirrorStep{Kind: s.Kind}
	switch {
	case s.Kind == 1 && within(s.Block, 0, 15) && len(s.Data) == 2:
		b.source, _ = b.source.step(markStep{block: s.Block, data: s.Data})
	case s.Kind == 2 && isPlain:
		return b.marked()
	case s.Kind == 3 && isPlain && b.to == 0 && len(b.lacked()) > 0:
		b.to = b.lacked()[0]
		b.left, b.coming = unlikeIn(b.was[b.mark], b.was[b.to]), b.remote
		b = b.got()
	case s.Kind == 4 && isPlain && len(b.left) > 0:
		b.coming[b.left[0]] = b.was[b.to][b.left[0]]
		b.left = b.left[1:]
		b = b.got()
	case s.Kind == 5 && isPlain:
		b.heard = b.mark
	case s.Kind == 6 && isPlain:
		b.to, b.left = 0, nil
	default:
		return b, false
	}
	return b, true
}

// cost is how many are unlike from each mark that is lacked to the one ahead.
func (b mirrorBook) cost() int {
	many, at := 0, b.mark
	for _, to := range b.lacked() {
		many += len(unlikeIn(b.was[at], b.was[to]))
		at = to
	}
	return many
}

// playMirrorBook has what a mirror is behind each step, the new one first, and whether each was done.
func playMirrorBook(l []impl.MirrorStep) ([]mirrorBook, []bool) {
	b := newMirrorBook()
	books, did := []mirrorBook{b}, []bool{}
	for _, s := range l {
		next, ok := b.step(s)
		if ok {
			b = next
		}
		books, did = append(books, b), append(did, ok)
	}
	return books, did
}

// ruleSetAt are the marks that are set.
func ruleSetAt(m impl.Marks) []int {
	l := marksAre(m)
	return l[:max(len(l)-1, 0)]
}

// ruleMarksLacked are, of a mirror whose marks are good, those set behind what the remote has.
func ruleMarksLacked(m impl.Mirror) []int {
	var l []int
	for mark := m.Remote.Layers[0].Mark + 1; mark <= 200; mark++ {
		if slices.Contains(ruleSetAt(m.Source), mark) {
			l = append(l, mark)
		}
	}
	return l
}

// ruleGoodMirror is what the document says of good mirrors.
func ruleGoodMirror(m impl.Mirror) bool {
	if !ruleGoodMarks(m.Source) || !ruleGoodMarks(m.Remote) || len(m.Remote.Layers) != 2 {
		return false
	}
	first, last := m.Remote.Layers[0], m.Remote.Layers[1]
	set, lacked := ruleSetAt(m.Source), ruleMarksLacked(m)
	good := last.Mark == first.Mark+1 && slices.Contains(set, first.Mark) && slices.Contains(set, m.Heard) && m.Heard <= first.Mark
	if m.To == 0 {
		return good && len(m.Stage) == 0 && len(m.Data) == 0 && len(last.Blocks) == 0
	}
	good = good && len(lacked) > 0 && m.To == lacked[0] && len(m.Stage) > 0 && risesWithin(m.Stage, 15) && len(m.Data) == len(m.Stage)
	return good && !slices.ContainsFunc(m.Data, func(s string) bool { return len(s) != 2 })
}

// ruleChangedTo is a layer with the later mark that has what is unlike at it.
func ruleChangedTo(m impl.Marks, from int, to int) impl.Layer {
	l := impl.Layer{Mark: to, Blocks: ruleChanged(m, ruleHas(m, from), ruleHas(m, to))}
	for _, block := range l.Blocks {
		l.Data = append(l.Data, ruleAt(m, ruleHas(m, to), block))
	}
	return l
}

// ruleTurned is a mirror of which something was under way, and may be whole by now.
func ruleTurned(m impl.Mirror) impl.Mirror {
	if len(m.Stage) == 0 {
		l := ruleJoin(m.Remote.Layers[0], m.Remote.Layers[1])
		l.Mark = m.To
		m.Remote, m.To = marksOf(l, layer(m.To+1)), 0
	}
	return m
}

func ruleSetWithRoom(m impl.Marks, heard int) (impl.Marks, bool) {
	set, _, ok := ruleSetMark(m)
	if ok || m.Layers[0].Mark >= heard {
		return set, ok
	}
	dropped, _ := ruleDrop(m, m.Layers[0].Mark)
	set, _, ok = ruleSetMark(dropped)
	return set, ok
}

// ruleMirrorStep tells what a good mirror is behind a step.
func ruleMirrorStep(m impl.Mirror, s impl.MirrorStep) (impl.Mirror, bool) {
	at, isPlain, ok := m.Remote.Layers[0].Mark, s == impl.MirrorStep{Kind: s.Kind}, true
	switch {
	case s.Kind == 1:
		m.Source, ok = ruleWriteMark(m.Source, s.Block, s.Data)
	case s.Kind == 2 && isPlain:
		m.Source, ok = ruleSetWithRoom(m.Source, m.Heard)
	case s.Kind == 3 && isPlain && m.To == 0 && len(ruleMarksLacked(m)) > 0:
		left := ruleChangedTo(m.Source, at, ruleMarksLacked(m)[0])
		m.To, m.Stage, m.Data = left.Mark, left.Blocks, left.Data
		m = ruleTurned(m)
	case s.Kind == 4 && isPlain && len(m.Stage) > 0:
		m.Remote, _ = ruleWriteMark(m.Remote, m.Stage[0], m.Data[0])
		m.Stage, m.Data = m.Stage[1:], m.Data[1:]
		m = ruleTurned(m)
	case s.Kind == 5 && isPlain:
		m.Heard = at
	case s.Kind == 6 && isPlain:
		m.Remote = marksOf(m.Remote.Layers[0], layer(at+1))
		m.Stage, m.Data, m.To = nil, nil, 0
	default:
		ok = false
	}
	if !ok {
		return impl.Mirror{}, false
	}
	return m, true
}

// ruleSettled lays over the remote what is unlike from mark to mark, and has how many these are.
func ruleSettled(m impl.Mirror) (impl.Mirror, int) {
	many := 0
	for _, to := range ruleMarksLacked(m) {
		over := ruleChangedTo(m.Source, m.Remote.Layers[0].Mark, to)
		many += len(over.Blocks)
		m.Remote = marksOf(ruleJoin(m.Remote.Layers[0], over), layer(to+1))
		m.Stage, m.Data, m.To = nil, nil, 0
	}
	m.Heard = m.Remote.Layers[0].Mark
	return m, many
}

func miWrite(block int, data string) impl.MirrorStep {
	return impl.MirrorStep{Kind: impl.MiWrite, Block: block, Data: data}
}

func miMark() impl.MirrorStep {
	return impl.MirrorStep{Kind: impl.MiMark}
}

func miShip() impl.MirrorStep {
	return impl.MirrorStep{Kind: impl.MiShip}
}

func miCopy() impl.MirrorStep {
	return impl.MirrorStep{Kind: impl.MiCopy}
}

func miHear() impl.MirrorStep {
	return impl.MirrorStep{Kind: impl.MiHear}
}

func miCrash() impl.MirrorStep {
	return impl.MirrorStep{Kind: impl.MiCrash}
}

// mirrorName tells all that a mirror has, also one that is not good.
func mirrorName(m impl.Mirror) string {
	return "source " + marksName(m.Source) + " remote " + marksName(m.Remote) + " stage " + numbersName(m.Stage) + " " + namesOf(m.Data, strconv.Quote) + " to " + strconv.Itoa(m.To) + " heard " + strconv.Itoa(m.Heard)
}

func mirrorStepName(s impl.MirrorStep) string {
	return strconv.Itoa(s.Kind) + ":" + strconv.Itoa(s.Block) + "=" + strconv.Quote(s.Data)
}

func sameLayer(a impl.Layer, b impl.Layer) bool {
	return a.Mark == b.Mark && slices.Equal(a.Blocks, b.Blocks) && slices.Equal(a.Data, b.Data)
}

func sameMirror(a impl.Mirror, b impl.Mirror) bool {
	return slices.EqualFunc(a.Source.Layers, b.Source.Layers, sameLayer) && slices.EqualFunc(a.Remote.Layers, b.Remote.Layers, sameLayer) &&
		slices.Equal(a.Stage, b.Stage) && slices.Equal(a.Data, b.Data) && a.To == b.To && a.Heard == b.Heard
}

func wantMirror(t *testing.T, what func() string, got impl.Mirror, ok bool, want impl.Mirror, wantOk bool) {
	t.Helper()
	if !sameMirror(got, want) || ok != wantOk {
		t.Errorf("%s: got %s %v, want %s %v", what(), mirrorName(got), ok, mirrorName(want), wantOk)
	}
	if ok && (!impl.GoodMirror(got) || !ruleGoodMirror(got)) {
		t.Errorf("%s: %s is not good", what(), mirrorName(got))
	}
}

func mirrorStepOf(m impl.Mirror, s impl.MirrorStep) func() string {
	return func() string { return mirrorName(m) + ": step " + mirrorStepName(s) }
}

// wantMirrorStep holds a step of a good mirror against the rule, and has what came of it.
func wantMirrorStep(t *testing.T, m impl.Mirror, s impl.MirrorStep) (impl.Mirror, bool) {
	t.Helper()
	got, ok := impl.StepMirror(m, s)
	want, wantOk := ruleMirrorStep(m, s)
	wantMirror(t, mirrorStepOf(m, s), got, ok, want, wantOk)
	return want, wantOk
}

// wantMirrorDone and wantMirrorRefused are for what is told by hand.
func wantMirrorDone(t *testing.T, m impl.Mirror, s impl.MirrorStep, want impl.Mirror) {
	t.Helper()
	got, ok := impl.StepMirror(m, s)
	wantMirror(t, mirrorStepOf(m, s), got, ok, want, true)
}

func wantMirrorRefused(t *testing.T, m impl.Mirror, s impl.MirrorStep) {
	t.Helper()
	got, ok := impl.StepMirror(m, s)
	wantMirror(t, mirrorStepOf(m, s), got, ok, impl.Mirror{}, false)
}

func wantGoodMirror(t *testing.T, m impl.Mirror, want bool) {
	t.Helper()
	if impl.GoodMirror(m) != want || ruleGoodMirror(m) != want {
		t.Errorf("%s: good is %v, by the rule %v, want %v", mirrorName(m), impl.GoodMirror(m), ruleGoodMirror(m), want)
	}
}

func wantRemoteMark(t *testing.T, m impl.Mirror, want int, wantOk bool) {
	t.Helper()
	got, ok := impl.RemoteMark(m)
	if got != want || ok != wantOk {
		t.Errorf("%s: remote mark %d %v, want %d %v", mirrorName(m), got, ok, want, wantOk)
	}
}

func wantLag(t *testing.T, m impl.Mirror, want int, wantOk bool) {
	t.Helper()
	got, ok := impl.LagOf(m)
	if got != want || ok != wantOk {
		t.Errorf("%s: lag %d %v, want %d %v", mirrorName(m), got, ok, want, wantOk)
	}
}

// wantSettled asks for what a mirror is settled, and once more behind it, that changes nothing.
func wantSettled(t *testing.T, m impl.Mirror, want impl.Mirror, many int) {
	t.Helper()
	got, copied, ok := impl.SettleMirror(m)
	wantMirror(t, func() string { return mirrorName(m) + ": settled" }, got, ok, want, true)
	if copied != many {
		t.Errorf("%s: %d were copied, want %d", mirrorName(m), copied, many)
	}
	wantLag(t, got, 0, true)
	got, copied, ok = impl.SettleMirror(got)
	wantMirror(t, func() string { return mirrorName(m) + ": settled twice" }, got, ok, want, true)
	if copied != 0 {
		t.Errorf("%s: settled twice, %d were copied", mirrorName(m), copied)
	}
}

func wantNotSettled(t *testing.T, m impl.Mirror) {
	t.Helper()
	got, copied, ok := impl.SettleMirror(m)
	wantMirror(t, func() string { return mirrorName(m) + ": settled" }, got, ok, impl.Mirror{}, false)
	wantNumber(t, "copied", copied, ok, 0, false)
}

// wantToldOfMirror holds what is told of a good mirror against the rules.
func wantToldOfMirror(t *testing.T, m impl.Mirror) {
	t.Helper()
	wantGoodMirror(t, m, true)
	wantRemoteMark(t, m, m.Remote.Layers[0].Mark, true)
	wantLag(t, m, len(ruleMarksLacked(m)), true)
	settled, many := ruleSettled(m)
	wantSettled(t, m, settled, many)
}

func wantPlayedMirror(t *testing.T, l []impl.MirrorStep, want impl.Mirror, wantDid []bool) {
	t.Helper()
	got, did, ok := impl.PlayMirror(l)
	what := func() string { return "play of " + strconv.Itoa(len(l)) + " steps " + namesOf(l, mirrorStepName) }
	wantMirror(t, what, got, ok, want, true)
	if !slices.Equal(did, wantDid) {
		t.Errorf("%s: did %v, want %v", what(), did, wantDid)
	}
}

func wantRefusedMirrorPlay(t *testing.T, l []impl.MirrorStep) {
	t.Helper()
	got, did, ok := impl.PlayMirror(l)
	wantMirror(t, func() string { return strconv.Itoa(len(l)) + " steps" }, got, ok, impl.Mirror{}, false)
	wantBools(t, "steps", did, ok, nil, false)
}

// remoteOf has its last layer empty.
func remoteOf(first impl.Layer) impl.Marks {
	return marksOf(first, layer(first.Mark+1))
}

// underWay is a mirror of which some blocks are still to be copied, told by parts as those of a layer.
func underWay(m impl.Mirror, to int, left ...string) impl.Mirror {
	l := layer(to, left...)
	m.To, m.Stage, m.Data = l.Mark, l.Blocks, l.Data
	return m
}

// plainMirror has something of all: the remote has 4, the source knows that it has 2, and of 5 two blocks have come and three have not.
func plainMirror() impl.Mirror {
	m := impl.Mirror{
		Source: marksOf(layer(1, "0=ab"), layer(2, "1=ab", "2=cd"), layer(4, "0=ef"), layer(5, "1=cd", "3=ab", "6=ij", "7=kl", "9=gh"), layer(8, "0=mn"), layer(9, "15=zz")),
		Remote: marksOf(layer(4, "0=ef", "1=ab", "2=cd"), layer(5, "1=cd", "3=ab")),
		Heard:  2,
	}
	return underWay(m, 5, "6=ij", "7=kl", "9=gh")
}

// spoiledMirror is the plain one, changed.
func spoiledMirror(change func(m *impl.Mirror)) impl.Mirror {
	m := plainMirror()
	change(&m)
	return m
}

// stillMirror is the plain one behind a crash: nothing is under way.
func stillMirror() impl.Mirror {
	return spoiledMirror(func(m *impl.Mirror) {
		m.Remote, m.To, m.Stage, m.Data = remoteOf(m.Remote.Layers[0]), 0, nil, nil
	})
}

func spoiledStill(change func(m *impl.Mirror)) impl.Mirror {
	m := stillMirror()
	change(&m)
	return m
}

// mirrorAt has a source of empty layers, the last of which is written still.
func mirrorAt(at int, heard int, marks ...int) impl.Mirror {
	return impl.Mirror{Source: emptyLayers(marks...), Remote: remoteOf(layer(at)), Heard: heard}
}

// edgeMirrors are good ones that lie at what the chapter names.
func edgeMirrors() []impl.Mirror {
	full, still := emptyLayers(0, 1, 2, 3, 4, 5, 6, 7), stillMirror()
	l := []impl.Mirror{impl.NewMirror(), plainMirror(), still, mirrorAt(0, 0, 0, 200), mirrorAt(199, 199, 199, 200), mirrorAt(199, 0, 0, 199, 200), mirrorAt(0, 0, 0, 199, 200), mirrorAt(3, 3, 3, 4), mirrorAt(3, 3, 3, 9),
		underWay(mirrorAt(0, 0, 0, 199, 200), 199, "3=ab"), underWay(mirrorAt(198, 198, 198, 199, 200), 199, "0=ab", "15=cd"), underWay(mirrorAt(0, 0, 0, 1, 2), 1, "15=ab")}
	for at := range 7 {
		for heard := range at + 1 {
			m := impl.Mirror{Source: full, Remote: remoteOf(layer(at, "3=ab")), Heard: heard}
			l = append(l, m, mirrorAt(at, heard, 0, 1, 2, 3, 4, 5, 6, 200), mirrorAt(at, heard, 0, 1, 2, 3, 4, 5, 6, 8))
			if at < 6 {
				l = append(l, underWay(m, at+1, "3=cd"), underWay(m, at+1, "0=cd", "15=ef"))
			}
		}
	}
	// By their form alone: what is under way is not what the source has, and what the remote has got was never there.
	l = append(l, underWay(still, 5, "0=zz"), underWay(still, 5, "0=ab", "15="+zeroBlock), spoiledMirror(func(m *impl.Mirror) { m.Remote = marksOf(fullLayer(4, "uv"), fullLayer(5, "xy")) }),
		spoiledMirror(func(m *impl.Mirror) { m.Stage, m.Data = allBlocks(), slices.Repeat([]string{"zz"}, 16) }), spoiledStill(func(m *impl.Mirror) { m.Remote = remoteOf(fullLayer(4, "uv")) }),
		spoiledMirror(func(m *impl.Mirror) { m.Remote = remoteOf(layer(4)) }))
	for _, at := range []int{1, 2, 4, 5, 8} {
		l = append(l, spoiledStill(func(m *impl.Mirror) { m.Remote, m.Heard = remoteOf(layer(at, "0=ab")), 1 }), spoiledStill(func(m *impl.Mirror) { m.Remote, m.Heard = remoteOf(layer(at)), at }))
	}
	return l
}

// someMirror is good by its form alone.
func someMirror(n *numbers) impl.Mirror {
	many := 2 + n.below(7)
	m := impl.Mirror{Source: marksWith(n, many, many-1+n.below(202-many), 1+n.below(6))}
	set := ruleSetAt(m.Source)
	k := n.below(len(set))
	m.Heard = set[n.below(k+1)]
	m.Remote = remoteOf(mixedLayer(n, set[k], 1+n.below(6)))
	if left := mixedLayer(n, 0, 1+n.below(6)); k+1 < len(set) && n.below(2) == 0 && len(left.Blocks) > 0 {
		m.To, m.Stage, m.Data = set[k+1], left.Blocks, left.Data
		m.Remote.Layers[1] = mixedLayer(n, set[k]+1, 1+n.below(6))
	}
	return m
}

func goodMirrors() []impl.Mirror {
	l := edgeMirrors()
	n := &numbers{seed: 1616}
	for range 200 {
		l = append(l, someMirror(n))
	}
	return l
}

// badLoads have one thing that is not so of what is under way.
func badLoads() []impl.Mirror {
	var l []impl.Mirror
	for _, to := range append([]int{0, 1, 2, 3, 4, 6, 7, 8, 9, 10, 200, 201}, wrongNumbers...) {
		l = append(l, spoiledMirror(func(m *impl.Mirror) { m.To = to }))
		if to != 0 {
			l = append(l, spoiledStill(func(m *impl.Mirror) { m.To = to }))
		}
	}
	for _, left := range [][]string{{"6=ij", "6=ij"}, {"7=ij", "6=kl"}, {"0=ab", "2=ab", "1=ab"}, {"-1=ab"}, {"16=ab"}, {"-1=ab", "0=ab"}, {"15=ab", "16=ab"}, {"6="}, {"6=i"}, {"6=ijk"}, {"6=ij", "7=k"}, {"6=ijk", "7=l"}, {"6=" + mixedText(300, 1)}} {
		l = append(l, underWay(plainMirror(), 5, left...), underWay(stillMirror(), 5, left...))
	}
	for _, wrong := range wrongNumbers {
		for k := range 3 {
			l = append(l, spoiledMirror(func(m *impl.Mirror) { m.Stage[k] = wrong }))
		}
	}
	for _, change := range []func(m *impl.Mirror){
		func(m *impl.Mirror) { m.Stage, m.Data = nil, nil },
		func(m *impl.Mirror) { m.Stage, m.Data = []int{}, []string{} },
		func(m *impl.Mirror) { m.Stage = nil },
		func(m *impl.Mirror) { m.Data = nil },
		func(m *impl.Mirror) { m.Stage = m.Stage[:2] },
		func(m *impl.Mirror) { m.Data = m.Data[:2] },
		func(m *impl.Mirror) { m.Stage = append(m.Stage, 15) },
		func(m *impl.Mirror) { m.Data = append(m.Data, "ab") },
		func(m *impl.Mirror) { m.Stage, m.Data = append(allBlocks(), 16), slices.Repeat([]string{"ab"}, 17) },
		func(m *impl.Mirror) { m.Data = slices.Repeat([]string{"ab"}, 5000) },
	} {
		l = append(l, spoiledMirror(change))
	}
	for _, change := range []func(m *impl.Mirror){
		func(m *impl.Mirror) { m.Stage = []int{6} },
		func(m *impl.Mirror) { m.Data = []string{"ab"} },
		func(m *impl.Mirror) { m.Stage, m.Data = []int{6}, []string{"ij"} },
		func(m *impl.Mirror) { m.Data = []string{""} },
		func(m *impl.Mirror) { m.Remote.Layers[1] = layer(5, "3=ab") },
		func(m *impl.Mirror) { m.Remote.Layers[1] = layer(5, "3="+zeroBlock) },
		func(m *impl.Mirror) { m.Remote.Layers[1] = fullLayer(5, "ab") },
	} {
		l = append(l, spoiledStill(change))
	}
	return l
}

// badPlaces have one thing that is not so of the marks of a place.
func badPlaces() []impl.Mirror {
	var l []impl.Mirror
	both := func(change func(m *impl.Mirror)) {
		l = append(l, spoiledMirror(change), spoiledStill(change))
	}
	for _, bad := range badMarks() {
		both(func(m *impl.Mirror) { m.Source = bad })
		both(func(m *impl.Mirror) { m.Remote = bad })
	}
	// The layers of the remote are too few, too many, or not side by side.
	both(func(m *impl.Mirror) { m.Remote.Layers = m.Remote.Layers[:1] })
	both(func(m *impl.Mirror) { m.Remote.Layers = m.Remote.Layers[1:] })
	both(func(m *impl.Mirror) { m.Remote.Layers = append(m.Remote.Layers, layer(6)) })
	both(func(m *impl.Mirror) { m.Remote.Layers = append([]impl.Layer{layer(2)}, m.Remote.Layers...) })
	both(func(m *impl.Mirror) { m.Remote.Layers = append([]impl.Layer{layer(3)}, m.Remote.Layers...) })
	for _, mark := range append([]int{0, 3, 4, 6, 7, 8, 9, 200, 201}, wrongNumbers...) {
		both(func(m *impl.Mirror) { m.Remote.Layers[1].Mark = mark })
	}
	// The mark of the remote is not set at the source: not there, or that of its last layer; so is what the source has heard.
	for _, mark := range append([]int{0, 3, 6, 7, 9, 10, 199, 200}, wrongNumbers...) {
		both(func(m *impl.Mirror) { m.Remote.Layers[0].Mark, m.Remote.Layers[1].Mark = mark, mark+1 })
		both(func(m *impl.Mirror) { m.Heard = mark })
	}
	// It is set, but the remote has not got it.
	for _, mark := range []int{5, 8} {
		both(func(m *impl.Mirror) { m.Heard = mark })
	}
	return append(l, mirrorAt(0, 0, 0), mirrorAt(0, 0, 1, 2), mirrorAt(1, 0, 0, 1), mirrorAt(1, 1, 0, 1), mirrorAt(0, 1, 0, 1), mirrorAt(0, 1, 0, 1, 2), mirrorAt(5, 3, 5, 6), mirrorAt(200, 200, 199, 200), mirrorAt(199, 200, 199, 200),
		underWay(mirrorAt(5, 5, 5, 6), 6, "3=ab"), underWay(mirrorAt(4, 4, 4, 6), 5, "3=ab"), underWay(mirrorAt(4, 4, 4, 6, 7), 5, "3=ab"))
}

// badMirrors are not good, each for one reason.
func badMirrors() []impl.Mirror {
	l := []impl.Mirror{{}, {Source: impl.NewMirror().Source}, {Remote: impl.NewMirror().Remote}}
	return slices.Concat(l, badLoads(), badPlaces())
}

func TestMirrorConstants(t *testing.T) {
	if impl.MaxMirrorSteps != 80 || impl.MiWrite != 1 || impl.MiMark != 2 || impl.MiShip != 3 || impl.MiCopy != 4 || impl.MiHear != 5 || impl.MiCrash != 6 {
		t.Error("a constant is not the document's")
	}
}

func TestNewMirror(t *testing.T) {
	want := impl.Mirror{Source: emptyLayers(0, 1), Remote: emptyLayers(0, 1)}
	wantMirror(t, func() string { return "new" }, impl.NewMirror(), true, want, true)
	wantToldOfMirror(t, impl.NewMirror())
	changed := impl.NewMirror()
	changed.Source.Layers[0], changed.Remote.Layers[1] = layer(7, "3=ab"), layer(9)
	wantMirror(t, func() string { return "new again" }, impl.NewMirror(), true, want, true)
}

func TestGoodMirror(t *testing.T) {
	for _, m := range goodMirrors() {
		wantGoodMirror(t, m, true)
	}
	for _, m := range badMirrors() {
		wantGoodMirror(t, m, false)
	}
}

// Each number of the plain mirrors, one by one, at what it may be and may not be.
func TestGoodMirrorOfEveryNumber(t *testing.T) {
	for _, x := range append(fromTo(-3, 205), wrongNumbers...) {
		for _, m := range []impl.Mirror{plainMirror(), stillMirror()} {
			to, heard, at, behind := m, m, m, m
			to.To, heard.Heard = x, x
			at.Remote = marksOf(m.Remote.Layers[0], m.Remote.Layers[1])
			at.Remote.Layers[0].Mark, at.Remote.Layers[1].Mark = x, x+1
			behind.Remote = marksOf(m.Remote.Layers[0], m.Remote.Layers[1])
			behind.Remote.Layers[1].Mark = x
			wantGoodMirror(t, to, x == m.To)
			wantGoodMirror(t, heard, slices.Contains([]int{1, 2, 4}, x))
			// With something under way there is just one mark that it can be behind.
			wantGoodMirror(t, at, x == 4 || m.To == 0 && slices.Contains([]int{2, 5, 8}, x))
			wantGoodMirror(t, behind, x == 5)
			for k := range m.Source.Layers {
				moved := m
				moved.Source = marksOf(slices.Clone(m.Source.Layers)...)
				moved.Source.Layers[k].Mark = x
				wantGoodMirror(t, moved, ruleGoodMirror(moved))
			}
		}
	}
}

func TestGoodMirrorOfEveryStage(t *testing.T) {
	eachList(3, fromTo(-1, 16), func(l []int) {
		for many := max(len(l)-1, 0); many <= len(l)+1; many++ {
			m := spoiledMirror(func(m *impl.Mirror) { m.Stage, m.Data = l, slices.Repeat([]string{"ab"}, many) })
			if good := len(l) > 0 && many == len(l) && risesWithin(l, 15); impl.GoodMirror(m) != good {
				t.Errorf("%s: good is not %v", mirrorName(m), good)
			}
		}
	})
	for long := range 6 {
		for k := range 3 {
			wantGoodMirror(t, spoiledMirror(func(m *impl.Mirror) { m.Data[k] = mixedText(long, 3) }), long == 2)
		}
	}
	for many := range 20 {
		l := fromTo(0, many-1)
		wantGoodMirror(t, spoiledMirror(func(m *impl.Mirror) { m.Stage, m.Data = l, slices.Repeat([]string{"ab"}, many) }), within(many, 1, 16))
	}
}

func TestMirrorsAreToldByTheRules(t *testing.T) {
	for _, m := range goodMirrors() {
		wantToldOfMirror(t, m)
	}
}

func TestLagKnownByHand(t *testing.T) {
	for _, c := range []struct {
		m       impl.Mirror
		at, lag int
	}{
		{impl.NewMirror(), 0, 0}, {plainMirror(), 4, 2}, {stillMirror(), 4, 2}, {mirrorAt(0, 0, 0, 200), 0, 0}, {mirrorAt(0, 0, 0, 1, 200), 0, 1}, {mirrorAt(199, 0, 0, 199, 200), 199, 0},
		{mirrorAt(0, 0, 0, 1, 2, 3, 4, 5, 6, 7), 0, 6}, {mirrorAt(3, 0, 0, 1, 2, 3, 4, 5, 6, 7), 3, 3}, {mirrorAt(6, 0, 0, 1, 2, 3, 4, 5, 6, 7), 6, 0}, {mirrorAt(30, 9, 0, 9, 30, 31, 80, 120, 199, 200), 30, 4},
		{underWay(mirrorAt(5, 0, 0, 1, 2, 3, 4, 5, 6, 7), 6, "3=ab"), 5, 1},
	} {
		wantRemoteMark(t, c.m, c.at, true)
		wantLag(t, c.m, c.lag, true)
	}
}

// allMirrorSteps are steps of every kind, also those that are none, with fields that they use and that they do not.
func allMirrorSteps() []impl.MirrorStep {
	var l []impl.MirrorStep
	for kind := -1; kind <= 8; kind++ {
		l = append(l, impl.MirrorStep{Kind: kind}, impl.MirrorStep{Kind: kind, Block: 1}, impl.MirrorStep{Kind: kind, Block: -1}, impl.MirrorStep{Kind: kind, Data: "ab"}, impl.MirrorStep{Kind: kind, Data: "a"}, impl.MirrorStep{Kind: kind, Block: 3, Data: "ab"})
	}
	for block := -1; block <= 16; block++ {
		l = append(l, miWrite(block, "ab"), miWrite(block, zeroBlock))
	}
	return append(l, miWrite(3, "a"), miWrite(3, "abc"), miWrite(0, ""), miWrite(15, "\xff\xfe"), miWrite(15, mixedText(400, 1)))
}

func TestMirrorStepsAreTheRule(t *testing.T) {
	for _, m := range goodMirrors() {
		for _, s := range allMirrorSteps() {
			wantMirrorStep(t, m, s)
		}
	}
}

// Good mirrors, however they were come by, are led on by some steps each.
func TestMirrorsLedOnAreTheRule(t *testing.T) {
	n := &numbers{seed: 6161}
	for _, m := range goodMirrors() {
		for range 25 {
			s := []impl.MirrorStep{miWrite(n.below(16), fewTexts[n.below(len(fewTexts))]), miMark(), miShip(), miCopy(), miCopy(), miCopy(), miHear(), miCrash()}[n.below(8)]
			if next, ok := wantMirrorStep(t, m, s); ok {
				m = next
			}
			wantLag(t, m, len(ruleMarksLacked(m)), true)
		}
		wantToldOfMirror(t, m)
	}
}

// wantPromise16 holds a mirror that was played against all blocks kept in full: what the remote has at its mark is what the source was when it was set.
func wantPromise16(t *testing.T, m impl.Mirror, b mirrorBook) {
	t.Helper()
	at, ok := impl.RemoteMark(m)
	if !ok || at != b.mark || m.Heard > at || m.Heard != b.heard || m.To != b.to || !slices.Equal(m.Stage, b.left) || len(m.Data) != len(b.left) {
		t.Errorf("%s: want mark %d, to %d, left %v, heard %d", mirrorName(m), b.mark, b.to, b.left, b.heard)
	}
	for i, block := range b.left {
		if i < len(m.Data) && m.Data[i] != b.was[b.to][block] {
			t.Errorf("%s: block %d is to be %q, want %q", mirrorName(m), block, m.Data[i], b.was[b.to][block])
		}
	}
	for block, was := range b.was[b.mark] {
		there, isThere := impl.ReadAt(m.Remote, at, block)
		here, isHere := impl.ReadAt(m.Source, at, block)
		if there != here || there != was || there != b.remote[block] || !isThere || !isHere {
			t.Errorf("%s: block %d is %q %v and %q %v, was %q", mirrorName(m), block, there, isThere, here, isHere, was)
		}
	}
	wantLag(t, m, len(b.lacked()), true)
	wantPlacesOf(t, m, b)
}

// wantPlacesOf asks for all blocks at each mark of the source, and for what is being made.
func wantPlacesOf(t *testing.T, m impl.Mirror, b mirrorBook) {
	t.Helper()
	if !slices.Equal(marksAre(m.Source), b.source.marks) {
		t.Fatalf("%s: want the marks %v", mirrorName(m), b.source.marks)
	}
	for k := range b.source.marks {
		if !slices.Equal(ruleAll(m.Source, k), b.source.blocks[k][:]) {
			t.Errorf("%s: at %d it is %q, want %q", mirrorName(m), b.source.marks[k], ruleAll(m.Source, k), b.source.blocks[k])
		}
	}
	made := b.remote
	if b.to != 0 {
		made = b.coming
	}
	if !slices.Equal(ruleAll(m.Remote, 1), made[:]) {
		t.Errorf("%s: what is being made is %q, want %q", mirrorName(m), ruleAll(m.Remote, 1), made)
	}
}

// wantPromise16Settled settles a mirror that was played: the remote is what the source was at the last mark it set, at no more cost than what was unlike.
func wantPromise16Settled(t *testing.T, m impl.Mirror, b mirrorBook) {
	t.Helper()
	settled, copied, ok := impl.SettleMirror(m)
	if !ok || copied != b.cost() || !sameMirror(impl.Mirror{Source: settled.Source}, impl.Mirror{Source: m.Source}) {
		t.Errorf("%s: settled %s %v, %d were copied, want %d", mirrorName(m), mirrorName(settled), ok, copied, b.cost())
	}
	set := ruleSetAt(m.Source)
	last := set[len(set)-1]
	b.mark, b.heard, b.remote = last, last, b.was[last]
	b.to, b.left = 0, nil
	wantPromise16(t, settled, b)
	wantLag(t, settled, 0, true)
}

// someMirrorStep is most often one that can be done.
func someMirrorStep(n *numbers, b mirrorBook, blocks int) impl.MirrorStep {
	switch x := n.below(40); {
	case x == 0:
		return impl.MirrorStep{Kind: n.below(9) - 1, Block: n.below(18) - 1, Data: []string{"", "ab", "a"}[n.below(3)]}
	case x == 1:
		return miCrash()
	case x < 15:
		return miWrite(n.below(blocks), fewTexts[n.below(len(fewTexts))])
	case x < 22:
		return miMark()
	case x < 26:
		return miHear()
	case b.to == 0 || x == 26:
		return miShip()
	}
	return miCopy()
}

func someMirrorPlay(n *numbers, many int, blocks int) []impl.MirrorStep {
	b := newMirrorBook()
	var l []impl.MirrorStep
	for range many {
		s := someMirrorStep(n, b, blocks)
		if next, ok := b.step(s); ok {
			b = next
		}
		l = append(l, s)
	}
	return l
}

// mixedMirrorPlays are plays of all lengths, on few blocks and on all.
func mixedMirrorPlays(each int, show func(l []impl.MirrorStep)) {
	n := &numbers{seed: 6116}
	for range each {
		show(someMirrorPlay(n, []int{0, 1, 5, 12, 25, 40, 60, 79, 80}[n.below(9)], []int{1, 2, 4, 16}[n.below(4)]))
	}
}

// Promise 16: whatever was written, marked, dropped, shipped, copied in part or lost in a crash.
func TestTheRemoteHasJustWhatTheSourceWas(t *testing.T) {
	far, dropped, part, lag := 0, 0, 0, 0
	mixedMirrorPlays(1500, func(l []impl.MirrorStep) {
		books, wantDid := playMirrorBook(l)
		b := books[len(books)-1]
		m, did, ok := impl.PlayMirror(l)
		if !ok || !slices.Equal(did, wantDid) {
			t.Fatalf("play of %s: did %v, want %v", namesOf(l, mirrorStepName), did, wantDid)
		}
		wantPromise16(t, m, b)
		wantPromise16Settled(t, m, b)
		if b.mark > 2 {
			far++
		}
		if b.source.marks[0] > 0 {
			dropped++
		}
		if b.to != 0 && b.coming != b.remote {
			part++
		}
		if len(b.lacked()) > 1 {
			lag++
		}
	})
	if far < 500 || dropped < 100 || part < 150 || lag < 300 {
		t.Errorf("%d plays have the remote go far, %d drop a mark, %d copy in part, %d lag by several: they try too little", far, dropped, part, lag)
	}
}

func TestMirrorsAtEachStep(t *testing.T) {
	mixedMirrorPlays(200, func(l []impl.MirrorStep) {
		books, did := playMirrorBook(l)
		m := impl.NewMirror()
		for i, s := range l {
			next, ok := wantMirrorStep(t, m, s)
			if ok != did[i] {
				t.Fatalf("%s: step %s is done %v", mirrorName(m), mirrorStepName(s), ok)
			}
			if ok {
				m = next
			}
			wantPromise16(t, m, books[i+1])
			if i%7 == 0 {
				wantPlayedMirror(t, l[:i+1], m, did[:i+1])
				wantPromise16Settled(t, m, books[i+1])
			}
		}
		wantPlayedMirror(t, l, m, did)
		wantToldOfMirror(t, m)
	})
}

// mirrorPair is a mirror that was played, and what it is by the book.
type mirrorPair struct {
	m impl.Mirror
	b mirrorBook
}

// mirrorStepsFrom does all steps from one mirror; it has those that were not seen ahead.
func mirrorStepsFrom(t *testing.T, from mirrorPair, steps []impl.MirrorStep, seen map[string]bool) []mirrorPair {
	t.Helper()
	var found []mirrorPair
	for _, s := range steps {
		next, ok := wantMirrorStep(t, from.m, s)
		b, wantOk := from.b.step(s)
		if ok != wantOk {
			t.Errorf("%s: step %s is done %v", mirrorName(from.m), mirrorStepName(s), ok)
		}
		if !ok || seen[mirrorName(next)] {
			continue
		}
		seen[mirrorName(next)] = true
		wantPromise16(t, next, b)
		wantPromise16Settled(t, next, b)
		found = append(found, mirrorPair{next, b})
	}
	return found
}

// Promise 16: all mirrors that few steps lead to, from a new one, from one that has something under way, and from one whose source has no room for one more mark.
func TestEveryShortPlayOfMirrors(t *testing.T) {
	steps := []impl.MirrorStep{miWrite(0, "ab"), miWrite(0, "cd"), miWrite(9, "ab"), miMark(), miShip(), miCopy(), miHear(), miCrash()}
	one := []impl.MirrorStep{miWrite(0, "ab"), miWrite(9, "ab"), miMark()}
	full := append(slices.Clone(one), miShip(), miCopy(), miCopy(), miHear(), miMark(), miWrite(0, "cd"), miMark(), miMark(), miMark(), miMark())
	for _, c := range []struct {
		ahead      []impl.MirrorStep
		deep, many int
	}{{nil, 7, 2500}, {append(one, miShip(), miWrite(0, "cd"), miMark()), 7, 3000}, {full, 7, 550}} {
		from := mirrorPair{m: impl.NewMirror(), b: newMirrorBook()}
		for _, s := range c.ahead {
			next, _ := wantMirrorStep(t, from.m, s)
			b, ok := from.b.step(s)
			if !ok {
				t.Fatalf("%s: step %s is not done", mirrorName(from.m), mirrorStepName(s))
			}
			from = mirrorPair{next, b}
		}
		found, seen := []mirrorPair{from}, map[string]bool{mirrorName(from.m): true}
		for range c.deep {
			var next []mirrorPair
			for _, p := range found {
				next = append(next, mirrorStepsFrom(t, p, steps, seen)...)
			}
			found = next
		}
		if len(seen) < c.many {
			t.Errorf("%d steps deep there are only %d mirrors", c.deep, len(seen))
		}
	}
}

// Promise 16: a crash, wherever it is put, takes away what was under way alone; settled, all is the same.
func TestCrashesAtAnyPlace(t *testing.T) {
	n := &numbers{seed: 1661}
	for range 150 {
		l := someMirrorPlay(n, 1+n.below(70), 1+n.below(16))
		for at := range len(l) + 1 {
			crashed := slices.Insert(slices.Clone(l), at, miCrash())
			books, wantDid := playMirrorBook(crashed)
			m, did, ok := impl.PlayMirror(crashed)
			if !ok || !slices.Equal(did, wantDid) {
				t.Fatalf("play of %s: did %v, want %v", namesOf(crashed, mirrorStepName), did, wantDid)
			}
			wantPromise16(t, m, books[len(books)-1])
			if at%8 == 0 {
				wantPromise16Settled(t, m, books[len(books)-1])
			}
		}
	}
}

// Between MiShip and the last MiCopy, behind it, and with nothing under way.
func TestCrashesBetweenCopies(t *testing.T) {
	l := []impl.MirrorStep{miWrite(2, "ab"), miMark(), miShip(), miCopy(), miWrite(2, "cd"), miWrite(5, "ef"), miWrite(9, "gh"), miMark(), miShip(), miCopy(), miCopy(), miCopy()}
	source := marksOf(layer(0), layer(1, "2=ab"), layer(2, "2=cd", "5=ef", "9=gh"), layer(3))
	whole := impl.Mirror{Source: source, Remote: remoteOf(layer(2, "2=cd", "5=ef", "9=gh"))}
	for many := 8; many <= 12; many++ {
		want := impl.Mirror{Source: source, Remote: remoteOf(layer(1, "2=ab"))}
		if many == 12 {
			want = whole
		}
		wantPlayedMirror(t, append(slices.Clone(l[:many]), miCrash()), want, trues(many+1))
		wantPlayedMirror(t, append(slices.Clone(l[:many]), miCrash(), miCrash()), want, trues(many+2))
		wantMirrorRefused(t, want, miCopy())
		if many < 12 {
			// It is begun anew, with all of its blocks.
			again := append(slices.Clone(l[:many]), miCrash(), miShip(), miCopy(), miCopy(), miCopy())
			wantPlayedMirror(t, again, whole, trues(many+5))
			wantMirrorDone(t, want, miShip(), underWay(want, 2, "2=cd", "5=ef", "9=gh"))
		} else {
			wantMirrorRefused(t, want, miShip())
		}
	}
	wantMirrorDone(t, impl.NewMirror(), miCrash(), impl.NewMirror())
	wantMirrorDone(t, plainMirror(), miCrash(), stillMirror())
	wantMirrorDone(t, stillMirror(), miCrash(), stillMirror())
}

func TestMirrorPlayKnownByHand(t *testing.T) {
	l := []impl.MirrorStep{miCopy(), miShip(), miWrite(3, "ab"), miShip(), miMark(), miWrite(3, "cd"), miWrite(4, "ef"), miShip(), miShip(), miMark(), miCopy(), miCopy(), miWrite(4, zeroBlock), miMark(), miHear(), miShip(), miCopy()}
	did := []bool{false, false, true, false, true, true, true, true, false, true, true, false, true, true, true, true, true}
	want := impl.Mirror{
		Source: marksOf(layer(0), layer(1, "3=ab"), layer(2, "3=cd", "4=ef"), layer(3, "4="+zeroBlock), layer(4)),
		Remote: marksOf(layer(1, "3=ab"), layer(2, "3=cd")), Heard: 1,
	}
	wantPlayedMirror(t, l, underWay(want, 2, "4=ef"), did)
	want.Remote = remoteOf(layer(2, "3=cd", "4=ef"))
	wantPlayedMirror(t, append(slices.Clone(l), miCopy()), want, append(slices.Clone(did), true))
	// Settled, 2 is begun anew, and 3 comes behind it.
	settled := want
	settled.Remote, settled.Heard = remoteOf(layer(3, "3=cd", "4="+zeroBlock)), 3
	want.Remote = marksOf(layer(1, "3=ab"), layer(2, "3=cd"))
	wantSettled(t, underWay(want, 2, "4=ef"), settled, 3)
}

// A mark is set where there is no room by dropping the first one, if that is less than Heard.
func TestMarksWithoutRoom(t *testing.T) {
	parts := [][]string{{"0=ab", "3=ab"}, {"3=cd"}, {"1=ab"}, {"0=cd", "3=ef"}, nil, {"5=ab"}, {"0=ef"}, {"7=ab"}}
	full := marksOf()
	for mark, p := range parts {
		full.Layers = append(full.Layers, layer(mark+2, p...))
	}
	room := marksOf(append([]impl.Layer{layer(3, "0=ab", "3=cd")}, append(slices.Clone(full.Layers[2:]), layer(10))...)...)
	for at := 2; at <= 8; at++ {
		for heard := 2; heard <= at; heard++ {
			m := impl.Mirror{Source: full, Remote: remoteOf(layer(at, "0=ab")), Heard: heard}
			if heard == 2 {
				// The first one is what the source knows that the remote has.
				wantMirrorRefused(t, m, miMark())
				continue
			}
			want := m
			want.Source = room
			wantMirrorDone(t, m, miMark(), want)
			if at < 8 {
				wantMirrorDone(t, underWay(m, at+1, "0=cd", "9=ab"), miMark(), underWay(want, at+1, "0=cd", "9=ab"))
			}
		}
		// Of marks that have no layer any more the source can know nothing.
		for _, heard := range []int{0, 1} {
			wantMirrorRefused(t, impl.Mirror{Source: full, Remote: remoteOf(layer(at, "0=ab")), Heard: heard}, miMark())
		}
	}
	// One by one, until the first one is Heard.
	m := impl.Mirror{Source: full, Remote: remoteOf(layer(5)), Heard: 4}
	for last := 10; last <= 11; last++ {
		next, ok := impl.StepMirror(m, miMark())
		if want := fromTo(last-7, last); !ok || !slices.Equal(marksAre(next.Source), want) {
			t.Errorf("%s: want the marks %v", mirrorName(next), want)
		}
		m = next
	}
	wantMirrorRefused(t, m, miMark())
	m, ok := impl.StepMirror(m, miHear())
	next, is := impl.StepMirror(m, miMark())
	if want := fromTo(5, 12); !ok || !is || !slices.Equal(marksAre(next.Source), want) {
		t.Errorf("%s: want the marks %v", mirrorName(next), want)
	}
	wantMirrorRefused(t, next, miMark())
}

// Where there is room nothing is dropped, and where no greater mark can be a drop makes no room.
func TestMarksWithRoomOrNone(t *testing.T) {
	for many := 2; many <= 7; many++ {
		marks := fromTo(20, 20+many-1)
		m := mirrorAt(20+many-2, 20+many-2, marks...)
		want := mirrorAt(20+many-2, 20+many-2, append(marks, 20+many)...)
		wantMirrorDone(t, m, miMark(), want)
	}
	for many := 2; many <= 8; many++ {
		marks := append(fromTo(20, 20+many-2), 200)
		wantMirrorRefused(t, mirrorAt(20, 20, marks...), miMark())
		wantMirrorRefused(t, mirrorAt(20+many-2, 20+many-2, marks...), miMark())
	}
	wantMirrorDone(t, mirrorAt(1, 0, 0, 1, 199), miMark(), mirrorAt(1, 0, 0, 1, 199, 200))
	wantMirrorDone(t, mirrorAt(6, 5, 0, 1, 2, 3, 4, 5, 6, 199), miMark(), mirrorAt(6, 5, 1, 2, 3, 4, 5, 6, 199, 200))
	wantMirrorRefused(t, mirrorAt(6, 5, 0, 1, 2, 3, 4, 5, 6, 200), miMark())
}

func TestShipsKnownByHand(t *testing.T) {
	// The least mark behind what the remote has, though others are set.
	still := stillMirror()
	wantMirrorDone(t, still, miShip(), underWay(still, 5, "1=cd", "3=ab", "6=ij", "7=kl", "9=gh"))
	// Something is under way, even if it is the last one.
	wantMirrorRefused(t, plainMirror(), miShip())
	wantMirrorRefused(t, underWay(plainMirror(), 5, "9=gh"), miShip())
	for _, c := range []struct {
		name   string
		source impl.Marks
		at     int
		want   impl.Mirror
		ok     bool
	}{
		{"none but the first", marksOf(layer(0), layer(1, "3=ab")), 0, impl.Mirror{}, false},
		{"none behind the last that is set", marksOf(layer(0), layer(1, "3=ab"), layer(2, "3=cd")), 1, impl.Mirror{}, false},
		{"one", marksOf(layer(0), layer(1, "3=ab"), layer(2, "3=cd")), 0, underWay(impl.Mirror{Remote: remoteOf(layer(0))}, 1, "3=ab"), true},
		{"several", marksOf(layer(0), layer(1, "3=ab"), layer(2, "3=cd"), layer(3)), 0, underWay(impl.Mirror{Remote: remoteOf(layer(0))}, 1, "3=ab"), true},
		{"one that is far", marksOf(layer(0), layer(150, "3=ab"), layer(200, "3=cd")), 0, underWay(impl.Mirror{Remote: remoteOf(layer(0))}, 150, "3=ab"), true},
		{"nothing written", marksOf(layer(0, "3=ab"), layer(1), layer(2, "3=cd")), 0, impl.Mirror{Remote: remoteOf(layer(1, "3=ab"))}, true},
		{"the same written", marksOf(layer(0, "3=ab"), layer(1, "3=ab", "4="+zeroBlock), layer(2)), 0, impl.Mirror{Remote: remoteOf(layer(1, "3=ab"))}, true},
		{"nothing written, up to the end", marksOf(layer(0, "3=ab"), layer(199), layer(200, "3=cd")), 0, impl.Mirror{Remote: remoteOf(layer(199, "3=ab"))}, true},
		{"there and back at a mark further", marksOf(layer(0, "3=ab"), layer(1, "3=cd"), layer(2, "3=ab"), layer(3)), 0, underWay(impl.Mirror{Remote: remoteOf(layer(0, "3=ab"))}, 1, "3=cd"), true},
		{"noughts", marksOf(layer(0, "3=ab"), layer(1, "3="+zeroBlock), layer(2)), 0, underWay(impl.Mirror{Remote: remoteOf(layer(0, "3=ab"))}, 1, "3="+zeroBlock), true},
		{"all blocks", marksOf(layer(0, "3=ab"), fullLayer(1, "zz"), layer(2)), 0, impl.Mirror{Remote: remoteOf(layer(0, "3=ab")), To: 1, Stage: allBlocks(), Data: slices.Repeat([]string{"zz"}, 16)}, true},
		{"no block of an earlier one", marksOf(layer(0, "3=ab"), layer(1, "4=ab"), layer(2, "4=cd"), layer(3)), 1, underWay(impl.Mirror{Remote: remoteOf(layer(1, "3=ab", "4=ab"))}, 2, "4=cd"), true},
	} {
		remote := impl.Layer{Mark: c.at}
		for block, data := range ruleAll(c.source, ruleHas(c.source, c.at)) {
			if data != zeroBlock {
				remote.Blocks, remote.Data = append(remote.Blocks, block), append(remote.Data, data)
			}
		}
		m := impl.Mirror{Source: c.source, Remote: remoteOf(remote)}
		if c.ok {
			c.want.Source = c.source
		}
		got, ok := impl.StepMirror(m, miShip())
		wantMirror(t, func() string { return c.name }, got, ok, c.want, c.ok)
	}
}

func TestCopiesOfMirrorsKnownByHand(t *testing.T) {
	m := plainMirror()
	one := spoiledMirror(func(m *impl.Mirror) { m.Remote.Layers[1] = layer(5, "1=cd", "3=ab", "6=ij") })
	one = underWay(one, 5, "7=kl", "9=gh")
	wantMirrorDone(t, m, miCopy(), one)
	two := spoiledMirror(func(m *impl.Mirror) { m.Remote.Layers[1] = layer(5, "1=cd", "3=ab", "6=ij", "7=kl") })
	two = underWay(two, 5, "9=gh")
	wantMirrorDone(t, one, miCopy(), two)
	// The last one: the remote is made anew. 1 is in both layers, 0 and 2 are in the first, all others in the last.
	whole := stillMirror()
	whole.Remote = remoteOf(layer(5, "0=ef", "1=cd", "2=cd", "3=ab", "6=ij", "7=kl", "9=gh"))
	wantMirrorDone(t, two, miCopy(), whole)
	wantMirrorRefused(t, whole, miCopy())
	wantMirrorRefused(t, stillMirror(), miCopy())
	wantMirrorRefused(t, impl.NewMirror(), miCopy())
}

// The remote behind a mark that is whole: what each of its layers has, or has not.
func TestRemotesThatAreWhole(t *testing.T) {
	for _, c := range []struct {
		first, last, want impl.Layer
		left              string
	}{
		{layer(4), layer(5), layer(5, "6=ij"), "6=ij"},
		{layer(4, "3=ab"), layer(5), layer(5, "3=ab", "6=ij"), "6=ij"},
		{layer(4), layer(5, "3=ab"), layer(5, "3=ab", "6=ij"), "6=ij"},
		{layer(4, "3=ab"), layer(5, "3=cd"), layer(5, "3=cd", "6=ij"), "6=ij"},
		{layer(4, "0=ab", "3=ab", "15=ab"), layer(5, "1=cd", "3=cd"), layer(5, "0=ab", "1=cd", "3=cd", "6=ij", "15=ab"), "6=ij"},
		// What comes last is in both by now.
		{layer(4, "6=ab"), layer(5), layer(5, "6=ij"), "6=ij"},
		{layer(4), layer(5, "6=cd"), layer(5, "6=ij"), "6=ij"},
		{layer(4, "6=ab"), layer(5, "6=cd"), layer(5, "6=ij"), "6=ij"},
		// Noughts are kept as all else.
		{layer(4, "3=ab", "5="+zeroBlock), layer(5, "3="+zeroBlock), layer(5, "3="+zeroBlock, "5="+zeroBlock, "6="+zeroBlock), "6=" + zeroBlock},
		{fullLayer(4, "ab"), layer(5), ruleJoin(fullLayer(5, "ab"), layer(5, "6=ij")), "6=ij"},
		{fullLayer(4, "ab"), fullLayer(5, "cd"), ruleJoin(fullLayer(5, "cd"), layer(5, "6=ij")), "6=ij"},
	} {
		m := stillMirror()
		m.Remote = marksOf(c.first, c.last)
		want := stillMirror()
		want.Remote = marksOf(c.want, layer(6))
		wantMirrorDone(t, underWay(m, 5, c.left), miCopy(), want)
	}
	// The mark may be far behind the one of the layer that was made.
	m := underWay(mirrorAt(7, 7, 7, 150, 200), 150, "3=ab")
	want := mirrorAt(7, 7, 7, 150, 200)
	want.Remote = marksOf(layer(150, "3=ab"), layer(151))
	wantMirrorDone(t, m, miCopy(), want)
	m = underWay(mirrorAt(198, 198, 198, 199, 200), 199, "3=ab")
	want = mirrorAt(198, 198, 198, 199, 200)
	want.Remote = marksOf(layer(199, "3=ab"), layer(200))
	wantMirrorDone(t, m, miCopy(), want)
}

func TestHearsKnownByHand(t *testing.T) {
	for _, m := range []impl.Mirror{plainMirror(), stillMirror()} {
		for _, heard := range []int{1, 2, 4} {
			ahead, want := m, m
			ahead.Heard, want.Heard = heard, 4
			wantMirrorDone(t, ahead, miHear(), want)
		}
	}
	wantMirrorDone(t, impl.NewMirror(), miHear(), impl.NewMirror())
	wantMirrorDone(t, mirrorAt(199, 0, 0, 199, 200), miHear(), mirrorAt(199, 199, 0, 199, 200))
}

func TestMirrorWritesKnownByHand(t *testing.T) {
	want := plainMirror()
	want.Source.Layers[5] = layer(9, "6=xy", "15=zz")
	wantMirrorDone(t, plainMirror(), miWrite(6, "xy"), want)
	want.Source.Layers[5] = layer(9, "15=xy")
	wantMirrorDone(t, plainMirror(), miWrite(15, "xy"), want)
	want.Source.Layers[5] = layer(9, "0="+zeroBlock, "15=zz")
	wantMirrorDone(t, plainMirror(), miWrite(0, zeroBlock), want)
	want.Source.Layers[5] = layer(9, "0=\xff\xc3", "15=zz")
	wantMirrorDone(t, plainMirror(), miWrite(0, "\xff\xc3"), want)
	for _, block := range append([]int{16, 17}, wrongNumbers...) {
		wantMirrorRefused(t, plainMirror(), miWrite(block, "xy"))
		wantMirrorRefused(t, impl.NewMirror(), miWrite(block, "xy"))
	}
	for _, data := range []string{"", "x", "xyz", "\x00", "xyxy", mixedText(500, 1), "\u00e4\u00f6"} {
		for block := -1; block <= 16; block++ {
			wantMirrorRefused(t, plainMirror(), miWrite(block, data))
		}
	}
	// Two bytes that are one letter of another writing are two bytes.
	want.Source.Layers[5] = layer(9, "3=\u00e4", "15=zz")
	wantMirrorDone(t, plainMirror(), miWrite(3, "\u00e4"), want)
}

// All bytes come over as they are.
func TestAllBytesComeOver(t *testing.T) {
	for b := range 256 {
		data := []string{string([]byte{byte(b), 0}), string([]byte{0, byte(b)}), string([]byte{byte(b), byte(b)}), string([]byte{byte(b), byte(255 - b)})}
		l := []impl.MirrorStep{miWrite(0, "uv")}
		for i, s := range data {
			l = append(l, miWrite(i+b%13, s))
		}
		m, _, ok := impl.PlayMirror(append(l, miMark(), miShip(), miCopy(), miCopy(), miCopy(), miCopy(), miCopy()))
		for i, s := range data {
			got, is := impl.ReadAt(m.Remote, 1, i+b%13)
			wantText(t, "come over", got, ok && is, s, true)
		}
	}
}

func TestMirrorsSettledKnownByHand(t *testing.T) {
	// Nothing to do: just what was heard.
	for _, m := range []impl.Mirror{impl.NewMirror(), mirrorAt(8, 1, 1, 2, 8, 9), mirrorAt(8, 8, 1, 2, 8, 9)} {
		want := m
		want.Heard = m.Remote.Layers[0].Mark
		wantSettled(t, m, want, 0)
	}
	// What is under way is begun anew: all five blocks of 5, then one of 8.
	want := stillMirror()
	want.Remote, want.Heard = remoteOf(layer(8, "0=mn", "1=cd", "2=cd", "3=ab", "6=ij", "7=kl", "9=gh")), 8
	wantSettled(t, plainMirror(), want, 6)
	wantSettled(t, stillMirror(), want, 6)
	// What came of another thing is lost with it.
	wantSettled(t, spoiledMirror(func(m *impl.Mirror) { m.Remote.Layers[1] = fullLayer(5, "zz") }), want, 6)
	wantSettled(t, underWay(stillMirror(), 5, "14=zz"), want, 6)
	// What the source did not change is left alone, though it is not what the source has, by form alone.
	wrong := spoiledStill(func(m *impl.Mirror) { m.Remote = remoteOf(fullLayer(4, "zz")) })
	want.Remote = remoteOf(ruleJoin(fullLayer(8, "zz"), layer(8, "0=mn", "1=cd", "3=ab", "6=ij", "7=kl", "9=gh")))
	wantSettled(t, wrong, want, 6)
	// There and back: it is copied twice, as each mark is come by.
	m := impl.Mirror{Source: marksOf(layer(0, "3=ab"), layer(1, "3=cd"), layer(2), layer(3, "3=ab"), layer(4)), Remote: remoteOf(layer(0, "3=ab"))}
	back := m
	back.Remote, back.Heard = remoteOf(layer(3, "3=ab")), 3
	wantSettled(t, m, back, 2)
	// Seven marks, all blocks in each.
	m = impl.Mirror{Remote: remoteOf(layer(0))}
	for mark := range 8 {
		m.Source.Layers = append(m.Source.Layers, fullLayer(mark, strings.Repeat(string(rune('a'+mark)), 2)))
	}
	m.Remote = remoteOf(fullLayer(0, "aa"))
	back = m
	back.Remote, back.Heard = remoteOf(fullLayer(6, "gg")), 6
	wantSettled(t, m, back, 96)
}

// Fields that a step has no use for are empty or 0.
func TestFieldsThatAMirrorStepHasNoUseFor(t *testing.T) {
	for _, s := range []impl.MirrorStep{miMark(), miShip(), miCopy(), miHear(), miCrash()} {
		m := plainMirror()
		if s == miShip() {
			m = stillMirror()
		}
		if _, ok := impl.StepMirror(m, s); !ok {
			t.Errorf("%s can't be done", mirrorStepName(s))
		}
		for _, x := range append([]int{1, 2, 15, 16, 200}, wrongNumbers...) {
			block := s
			block.Block = x
			wantMirrorRefused(t, m, block)
			block.Data = "ab"
			wantMirrorRefused(t, m, block)
		}
		for _, x := range []string{"a", "ab", "\x00", zeroBlock, "abc", mixedText(600, 7)} {
			data := s
			data.Data = x
			wantMirrorRefused(t, m, data)
		}
	}
}

func TestMirrorKindsThatAreNone(t *testing.T) {
	for _, kind := range append([]int{0, 7, 8, 100, 1 << 32, 1<<32 + 1}, wrongNumbers...) {
		for _, m := range []impl.Mirror{plainMirror(), stillMirror(), impl.NewMirror()} {
			wantMirrorRefused(t, m, impl.MirrorStep{Kind: kind})
			wantMirrorRefused(t, m, impl.MirrorStep{Kind: kind, Block: 3, Data: "ab"})
		}
	}
}

func TestMirrorPlaysOfEveryManySteps(t *testing.T) {
	all := slices.Repeat([]impl.MirrorStep{miWrite(0, "ab"), miMark(), miShip(), miHear(), miWrite(0, "cd"), miMark(), miCopy(), miHear()}, 12)
	for many := range 90 {
		if many > 80 {
			wantRefusedMirrorPlay(t, all[:many])
			continue
		}
		_, wantDid := playMirrorBook(all[:many])
		_, did, ok := impl.PlayMirror(all[:many])
		wantBools(t, strconv.Itoa(many)+" steps", did, ok, wantDid, true)
	}
	for _, none := range [][]impl.MirrorStep{nil, {}} {
		wantPlayedMirror(t, none, impl.NewMirror(), nil)
	}
	wantPlayedMirror(t, make([]impl.MirrorStep, 80), impl.NewMirror(), make([]bool, 80))
	wantRefusedMirrorPlay(t, make([]impl.MirrorStep, 81))
	wantRefusedMirrorPlay(t, slices.Repeat([]impl.MirrorStep{miHear()}, 81))
	wantRefusedMirrorPlay(t, make([]impl.MirrorStep, 5000))
	// 80 marks: all but the first of them drop one that was heard of long ago.
	l := slices.Repeat([]impl.MirrorStep{miMark(), miShip(), miHear()}, 26)
	wantPlayedMirror(t, append(slices.Clone(l), miWrite(3, "ab"), miMark()), impl.Mirror{Source: marksOf(append(emptyLayers(21, 22, 23, 24, 25, 26).Layers, layer(27, "3=ab"), layer(28))...), Remote: emptyLayers(26, 27), Heard: 26}, trues(80))
}

// What was not done changes nothing, wherever it stands among what was.
func TestMirrorStepsNotDoneAmongThoseThatWere(t *testing.T) {
	done := []impl.MirrorStep{miWrite(3, "ab"), miMark(), miShip(), miCopy(), miHear(), miWrite(3, "cd"), miWrite(4, "ef"), miMark(), miShip(), miCopy(), miMark()}
	want := underWay(impl.Mirror{Source: marksOf(layer(0), layer(1, "3=ab"), layer(2, "3=cd", "4=ef"), layer(3), layer(4)), Remote: marksOf(layer(1, "3=ab"), layer(2, "3=cd")), Heard: 1}, 2, "4=ef")
	wantPlayedMirror(t, done, want, trues(len(done)))
	for _, not := range []impl.MirrorStep{{}, {Kind: 7}, {Kind: -1}, miWrite(16, "ab"), miWrite(-1, "ab"), miWrite(3, "a"), miWrite(3, "abc"), {Kind: 2, Block: 1}, {Kind: 3, Data: "ab"}, {Kind: 4, Block: 3, Data: "ab"}, {Kind: 5, Block: -1}, {Kind: 6, Data: "a"}} {
		for at := range len(done) + 1 {
			wantPlayedMirror(t, slices.Insert(slices.Clone(done), at, not), want, slices.Insert(trues(len(done)), at, false))
		}
	}
}

// Promise 19: of mirrors that are not good nothing is told and nothing is done.
func TestMirrorsThatAreNotGood(t *testing.T) {
	for _, m := range badMirrors() {
		wantRemoteMark(t, m, 0, false)
		wantLag(t, m, 0, false)
		wantNotSettled(t, m)
		for _, s := range []impl.MirrorStep{{}, miWrite(3, "ab"), miWrite(6, "ij"), miMark(), miShip(), miCopy(), miHear(), miCrash()} {
			wantMirrorRefused(t, m, s)
		}
	}
}

// Promise 19: numbers that are far from all that can be, in every field at once.
func TestMirrorsOfWrongNumbers(t *testing.T) {
	for _, a := range append([]int{0, 1, 5, 201}, wrongNumbers...) {
		for _, b := range append([]int{0, 4, 16}, wrongNumbers...) {
			for _, m := range []impl.Mirror{plainMirror(), stillMirror(), impl.NewMirror(), mirrorAt(199, 0, 0, 199, 200)} {
				for _, s := range []impl.MirrorStep{{Kind: a, Block: b}, {Kind: a, Block: b, Data: "ab"}, {Kind: 1, Block: a, Data: "ab"}, {Kind: 5, Block: b}, {Kind: b}} {
					wantMirrorStep(t, m, s)
				}
			}
			for _, m := range []impl.Mirror{
				spoiledMirror(func(m *impl.Mirror) { m.To, m.Heard = a, b }), spoiledStill(func(m *impl.Mirror) { m.To, m.Heard = a, b }),
				spoiledMirror(func(m *impl.Mirror) { m.Stage[0], m.Stage[2] = a, b }), spoiledMirror(func(m *impl.Mirror) { m.Stage, m.To = []int{a, b}, b }),
				spoiledMirror(func(m *impl.Mirror) { m.Remote.Layers[0].Mark, m.Remote.Layers[1].Mark = a, b }), spoiledStill(func(m *impl.Mirror) { m.Source.Layers[0].Mark, m.Source.Layers[5].Mark = a, b }),
				{Source: emptyLayers(a, b), Remote: emptyLayers(a, b), Stage: []int{a}, Data: []string{"ab"}, To: a, Heard: b},
			} {
				wantGoodMirror(t, m, ruleGoodMirror(m))
				if !ruleGoodMirror(m) {
					wantMirrorRefused(t, m, miCrash())
					wantNotSettled(t, m)
					wantLag(t, m, 0, false)
				}
			}
			wantPlayedMirror(t, []impl.MirrorStep{{Kind: a, Block: b, Data: "a"}, {Kind: 6}, {Kind: 1, Block: math.MaxInt, Data: "ab"}, {Kind: 4, Block: b}}, impl.NewMirror(), []bool{false, true, false, false})
		}
	}
}

// shownMirror is a mirror all of whose texts lie over bytes that can be looked at, and whose lists have more behind their lengths.
func shownMirror(m impl.Mirror) (impl.Mirror, [][]byte) {
	source, sourceBytes := shownMarks(m.Source)
	remote, remoteBytes := shownMarks(m.Remote)
	data, dataBytes := overTexts(m.Data)
	shown := impl.Mirror{Source: source, Remote: remote, Stage: longer(m.Stage, 15, 3, -7), Data: longer(data, "be", "hi", "nd it"), To: m.To, Heard: m.Heard}
	return shown, slices.Concat(sourceBytes, remoteBytes, dataBytes)
}

func heldMirror(m impl.Mirror) []heldList {
	return slices.Concat(heldMarks(m.Source), heldMarks(m.Remote), []heldList{heldNumbers(m.Stage), heldTexts(m.Data)})
}

func textsOfMirror(m impl.Mirror) []string {
	return append(textsOfMarks([]impl.Marks{m.Source, m.Remote}), m.Data...)
}

// mirrorAnswers asks all functions of a mirror, also to be refused; the mirrors that they answer.
func mirrorAnswers(m impl.Mirror, data string) []impl.Mirror {
	var l []impl.Mirror
	for _, s := range []impl.MirrorStep{{}, miWrite(3, data), miWrite(15, data), miWrite(16, data), miMark(), miShip(), miCopy(), miHear(), miCrash(), {Kind: 2, Data: data}} {
		next, _ := impl.StepMirror(m, s)
		l = append(l, next)
	}
	settled, _, _ := impl.SettleMirror(m)
	impl.GoodMirror(m)
	impl.RemoteMark(m)
	impl.LagOf(m)
	return append(l, settled, impl.NewMirror())
}

// memoryMirrors are good and bad ones; of these, and of the mixed ones, one in so many.
func memoryMirrors(part int) []impl.Mirror {
	l := edgeMirrors()
	for i, m := range append(goodMirrors(), badMirrors()...) {
		if i%part == 0 {
			l = append(l, m)
		}
	}
	return l
}

// Promise 19: nothing that is handed in is changed, good or not, nor what lies behind it, and no text of an answer lies in it.
func TestMirrorFunctionsLeaveArgumentsAlone(t *testing.T) {
	for _, m := range memoryMirrors(1) {
		shown, under := shownMirror(m)
		data := []byte("xy")
		lists := heldMirror(shown)
		ahead := shownLists(lists)
		answers := mirrorAnswers(shown, overBytes(data))
		if behind := shownLists(lists); !slices.Equal(ahead, behind) || string(data) != "xy" {
			t.Errorf("%s: was %q, is %q", mirrorName(m), ahead, behind)
		}
		for _, answer := range answers {
			wantApart(t, textsOfMirror(answer), append(under, data)...)
		}
	}
}

// Promise 19: each list of an answer has memory of its own, apart from that of what was handed in and of all other lists of it.
func TestMirrorAnswersAreNewMemory(t *testing.T) {
	for _, m := range memoryMirrors(11) {
		shown, _ := shownMirror(m)
		for _, answer := range mirrorAnswers(shown, "xy") {
			lists := heldMirror(answer)
			wantNoneShared(t, mirrorName(m), append(lists, heldMirror(shown)...), len(lists))
		}
	}
}

// Promise 19: what is answered twice is twice there.
func TestMirrorAnswersAreApartFromEachOther(t *testing.T) {
	for _, m := range []impl.Mirror{plainMirror(), stillMirror(), impl.NewMirror()} {
		var lists []heldList
		for range 2 {
			for _, answer := range mirrorAnswers(m, "xy") {
				lists = append(lists, heldMirror(answer)...)
			}
		}
		wantNoneShared(t, mirrorName(m), lists, len(lists))
	}
}

// wantMirrorEmptyBehind asks that behind the lists of an answer there is just memory that is empty: nothing that has left.
func wantMirrorEmptyBehind(t *testing.T, m impl.Mirror) {
	t.Helper()
	wantNoMarksBehind(t, m.Source)
	wantNoMarksBehind(t, m.Remote)
	stage, data := m.Stage[len(m.Stage):cap(m.Stage)], m.Data[len(m.Data):cap(m.Data)]
	if slices.ContainsFunc(stage, func(b int) bool { return b != 0 }) || slices.ContainsFunc(data, func(s string) bool { return s != "" }) {
		t.Errorf("%s: behind what is left there are %v and %q", mirrorName(m), stage, data)
	}
}

// Promise 19: what lies behind a list's length is neither read nor handed out.
func TestMirrorsBehindTheLengthAreNotRead(t *testing.T) {
	for _, m := range memoryMirrors(1) {
		shown, _ := shownMirror(m)
		wantGoodMirror(t, shown, ruleGoodMirror(m))
		plain := mirrorAnswers(m, "xy")
		for i, answer := range mirrorAnswers(shown, "xy") {
			if !sameMirror(answer, plain[i]) {
				t.Errorf("%s: got %s, want %s", mirrorName(m), mirrorName(answer), mirrorName(plain[i]))
			}
			wantMirrorEmptyBehind(t, answer)
		}
		at, ok := impl.RemoteMark(m)
		wantRemoteMark(t, shown, at, ok)
		lag, ok := impl.LagOf(m)
		wantLag(t, shown, lag, ok)
	}
}

// Mirrors whose list has what it lacks behind its length are as those that lack it.
func TestMirrorsThatAreCut(t *testing.T) {
	for _, change := range []func(m *impl.Mirror){
		func(m *impl.Mirror) { m.Stage = m.Stage[:2] },
		func(m *impl.Mirror) { m.Data = m.Data[:2] },
		func(m *impl.Mirror) { m.Stage, m.Data = m.Stage[:0], m.Data[:0] },
		func(m *impl.Mirror) { m.Remote.Layers = m.Remote.Layers[:1] },
		func(m *impl.Mirror) { m.Source.Layers = m.Source.Layers[:4] },
		func(m *impl.Mirror) { m.Source.Layers = m.Source.Layers[:0] },
	} {
		m := spoiledMirror(change)
		wantGoodMirror(t, m, false)
		wantMirrorRefused(t, m, miHear())
		wantNotSettled(t, m)
	}
	m := plainMirror()
	m.Stage, m.Data, m.Source.Layers = m.Stage[:1], m.Data[:1], m.Source.Layers[:5]
	wantLag(t, m, 1, true)
	want := m
	want.Remote, want.Stage, want.Data, want.To = remoteOf(layer(5, "0=ef", "1=cd", "2=cd", "3=ab", "6=ij")), nil, nil, 0
	wantMirrorDone(t, m, miCopy(), want)
	if m.Stage[:3][1] != 7 || m.Data[:3][2] != "gh" || m.Source.Layers[:6][5].Mark != 9 {
		t.Errorf("behind the lengths there are %v, %q and %s", m.Stage[:3], m.Data[:3], layerName(m.Source.Layers[:6][5]))
	}
}

// Promise 19: PlayMirror leaves its steps alone, also those behind their length, and what it answers is its own.
func TestPlayMirrorLeavesItsStepsAlone(t *testing.T) {
	mixedMirrorPlays(150, func(l []impl.MirrorStep) {
		steps := longer(l, miWrite(3, "hi"), miMark())
		var under [][]byte
		for i := range steps {
			b := []byte(steps[i].Data)
			steps[i].Data = overBytes(b)
			under = append(under, b)
		}
		arg := held(steps, mirrorStepName, func(s impl.MirrorStep) impl.MirrorStep { return impl.MirrorStep{Kind: s.Kind + 50} })
		ahead := arg.show()
		got, did, ok := impl.PlayMirror(steps)
		books, wantDid := playMirrorBook(l)
		wantBools(t, "did", did, ok, wantDid, true)
		wantPromise16(t, got, books[len(books)-1])
		if behind := arg.show(); behind != ahead {
			t.Errorf("was %q, is %q", ahead, behind)
		}
		wantMirrorEmptyBehind(t, got)
		wantApart(t, textsOfMirror(got), under...)
		lists := append(heldMirror(got), heldBools(did))
		wantNoneShared(t, "played", append(lists, arg), len(lists))
	})
}

// A map is gone through in another order each time; no answer may hang on it.
func TestMirrorFunctionsAnswerAlikeTwice(t *testing.T) {
	for _, m := range memoryMirrors(3) {
		again := mirrorAnswers(m, "xy")
		for range 2 {
			for i, answer := range mirrorAnswers(m, "xy") {
				if !sameMirror(answer, again[i]) {
					t.Errorf("%s: got %s, then %s", mirrorName(m), mirrorName(answer), mirrorName(again[i]))
				}
			}
		}
	}
}
