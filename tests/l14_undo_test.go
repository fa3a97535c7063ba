package tests

import (
	"maps"
	"math"
	"slices"
	"strconv"
	"testing"

	"loop.example/g00541/impl"
)

// cellSet is a cell and what somebody set it to.
type cellSet struct {
	cell int
	is   int
}

// book tells what works are without any log: what each cell is by those alone that were done in all, what of each that is open is laid over that, what is on the disk, and how many notes there would be.
type book struct {
	lasting [6]int
	over    map[int][]cellSet
	disk    [6]int
	long    int
}

func newBook() book {
	return book{over: map[int][]cellSet{}}
}

// with has what somebody set laid over the cells.
func with(cells [6]int, sets []cellSet) [6]int {
	for _, x := range sets {
		cells[x.cell] = x.is
	}
	return cells
}

// cells are the same in whatever order those that are open are taken: no two have set one cell.
func (b book) cells() [6]int {
	cells := b.lasting
	for _, sets := range b.over {
		cells = with(cells, sets)
	}
	return cells
}

func (b book) open() []int {
	return slices.Sorted(maps.Keys(b.over))
}

// isHeld tells whether one who is open, but not this one, has set a cell.
func (b book) isHeld(cell int, by int) bool {
	for who, sets := range b.over {
		if who != by && slices.ContainsFunc(sets, func(x cellSet) bool { return x.cell == cell }) {
			return true
		}
	}
	return false
}

// step tells what works are behind a step.
func (b book) step(s impl.WorkStep) (book, bool) {
	sets, open := b.over[s.Who]
	b.over = maps.Clone(b.over)
	isPlain := s == impl.WorkStep{Kind: s.Kind, Who: s.Who}
	switch {
	case s.Kind == 2 && open && within(s.Cell, 0, 5) && within(s.Is, 0, 1000) && !b.isHeld(s.Cell, s.Who):
		b.over[s.Who] = append(slices.Clone(sets), cellSet{s.Cell, s.Is})
		b.long++
	case s.Kind == 1 && isPlain && !open && within(s.Who, 1, 9):
		b.over[s.Who] = nil
		b.long++
	case s.Kind == 3 && isPlain && open:
		b.lasting = with(b.lasting, sets)
		delete(b.over, s.Who)
		b.long++
	case s.Kind == 4 && isPlain && open:
		delete(b.over, s.Who)
		b.long += len(sets) + 1
	case s == impl.WorkStep{Kind: 5}:
		b.disk = b.cells()
	case s == impl.WorkStep{Kind: 6}:
		b = book{lasting: b.lasting, over: map[int][]cellSet{}, disk: b.lasting}
	default:
		return book{}, false
	}
	return b, b.long <= 60
}

// playBook has what works are behind each step, the new ones first, and whether each was done.
func playBook(l []impl.WorkStep) ([]book, []bool) {
	b := newBook()
	books, did := []book{b}, []bool{}
	for _, s := range l {
		next, ok := b.step(s)
		if ok {
			b = next
		}
		books, did = append(books, b), append(did, ok)
	}
	return books, did
}

// openedIn goes over a log from the front on: of each who is open the places of what it set since it began.
func openedIn(log []impl.Note) map[int][]int {
	opened := map[int][]int{}
	for i, n := range log {
		places, open := opened[n.Who]
		switch {
		case n.Kind == 1:
			opened[n.Who] = nil
		case n.Kind == 2 && open:
			opened[n.Who] = append(places, i)
		case n.Kind == 3 || n.Kind == 4:
			delete(opened, n.Who)
		}
	}
	return opened
}

func ruleOpen(log []impl.Note) []int {
	return slices.Sorted(maps.Keys(openedIn(log)))
}

func ruleGoodNote(n impl.Note) bool {
	isSet := n.Kind == 2 && within(n.Cell, 0, 5) && within(n.Was, 0, 1000) && within(n.Is, 0, 1000)
	isOther := (n.Kind == 1 || n.Kind == 3 || n.Kind == 4) && n.Cell == 0 && n.Was == 0 && n.Is == 0
	return within(n.Who, 1, 9) && (isSet || isOther)
}

func ruleGoodCells(cells []int) bool {
	return len(cells) == 6 && within(slices.Min(cells), 0, 1000) && within(slices.Max(cells), 0, 1000)
}

func ruleGoodNotes(l []impl.Note) bool {
	return len(l) <= 60 && !slices.ContainsFunc(l, func(n impl.Note) bool { return !ruleGoodNote(n) })
}

func ruleGoodWorks(w impl.Works) bool {
	return ruleGoodCells(w.Cells) && ruleGoodCells(w.Disk) && ruleGoodNotes(w.Log) && within(w.Sure, 0, len(w.Log)) && slices.Equal(w.Open, ruleOpen(w.Log))
}

// ruleCell is what a cell is behind a recovery: what it was ahead of the first that an open one has set, or else what the last one set, or else what is on the disk.
func ruleCell(disk []int, log []impl.Note, cell int) int {
	first, is := len(log), disk[cell]
	for _, places := range openedIn(log) {
		for _, i := range places {
			if log[i].Cell == cell {
				first = min(first, i)
			}
		}
	}
	if first < len(log) {
		return log[first].Was
	}
	for _, n := range log {
		if n.Kind == 2 && n.Cell == cell {
			is = n.Is
		}
	}
	return is
}

func ruleRecovered(disk []int, log []impl.Note) impl.Works {
	var cells []int
	for cell := range 6 {
		cells = append(cells, ruleCell(disk, log, cell))
	}
	return impl.Works{Cells: cells, Disk: slices.Clone(cells)}
}

// ruleWhoHas is of good works; 0 is none.
func ruleWhoHas(w impl.Works, cell int) int {
	opened := openedIn(w.Log)
	for who := 1; who <= 9; who++ {
		if slices.ContainsFunc(opened[who], func(i int) bool { return w.Log[i].Cell == cell }) {
			return who
		}
	}
	return 0
}

// ruleSetBy tells whether one who is open, but not this one, has set a cell.
func ruleSetBy(w impl.Works, cell int, but int) bool {
	for who, places := range openedIn(w.Log) {
		if who != but && slices.ContainsFunc(places, func(i int) bool { return w.Log[i].Cell == cell }) {
			return true
		}
	}
	return false
}

// ruleDropped has the notes of a drop behind the log.
func ruleDropped(w impl.Works, who int) impl.Works {
	places := slices.Clone(openedIn(w.Log)[who])
	slices.Reverse(places)
	for _, i := range places {
		x := w.Log[i]
		w.Log = append(w.Log, noteSet(who, x.Cell, w.Cells[x.Cell], x.Was))
		w.Cells[x.Cell] = x.Was
	}
	w.Log = append(w.Log, noteDrop(who))
	return w
}

// ruleWorkStep tells what good works are behind a step.
func ruleWorkStep(w impl.Works, s impl.WorkStep) (impl.Works, bool) {
	w.Cells, w.Disk, w.Log = slices.Clone(w.Cells), slices.Clone(w.Disk), slices.Clone(w.Log)
	open := slices.Contains(w.Open, s.Who)
	isPlain := s == impl.WorkStep{Kind: s.Kind, Who: s.Who}
	switch {
	case s.Kind == 2 && open && within(s.Cell, 0, 5) && within(s.Is, 0, 1000) && !ruleSetBy(w, s.Cell, s.Who):
		w.Log = append(w.Log, noteSet(s.Who, s.Cell, w.Cells[s.Cell], s.Is))
		w.Cells[s.Cell] = s.Is
	case s.Kind == 1 && isPlain && !open && within(s.Who, 1, 9):
		w.Log = append(w.Log, noteBegin(s.Who))
	case s.Kind == 3 && isPlain && open:
		w.Log = append(w.Log, noteDone(s.Who))
		w.Sure = len(w.Log)
	case s.Kind == 4 && isPlain && open:
		w = ruleDropped(w, s.Who)
	case s == stepFlush():
		w.Sure, w.Disk = len(w.Log), slices.Clone(w.Cells)
	case s == stepCrash():
		return ruleRecovered(w.Disk, w.Log[:w.Sure]), true
	default:
		return impl.Works{}, false
	}
	if len(w.Log) > 60 {
		return impl.Works{}, false
	}
	w.Open = ruleOpen(w.Log)
	return w, true
}

func noteBegin(who int) impl.Note {
	return impl.Note{Kind: 1, Who: who}
}

func noteSet(who int, cell int, was int, is int) impl.Note {
	return impl.Note{Kind: 2, Who: who, Cell: cell, Was: was, Is: is}
}

func noteDone(who int) impl.Note {
	return impl.Note{Kind: 3, Who: who}
}

func noteDrop(who int) impl.Note {
	return impl.Note{Kind: 4, Who: who}
}

func stepBegin(who int) impl.WorkStep {
	return impl.WorkStep{Kind: impl.WkBegin, Who: who}
}

func stepSet(who int, cell int, is int) impl.WorkStep {
	return impl.WorkStep{Kind: impl.WkSet, Who: who, Cell: cell, Is: is}
}

func stepDone(who int) impl.WorkStep {
	return impl.WorkStep{Kind: impl.WkDone, Who: who}
}

func stepDrop(who int) impl.WorkStep {
	return impl.WorkStep{Kind: impl.WkDrop, Who: who}
}

func stepFlush() impl.WorkStep {
	return impl.WorkStep{Kind: impl.WkFlush}
}

func stepCrash() impl.WorkStep {
	return impl.WorkStep{Kind: impl.WkCrash}
}

func noteName(n impl.Note) string {
	return strconv.Itoa(n.Kind) + ":" + strconv.Itoa(n.Who) + "@" + strconv.Itoa(n.Cell) + "," + strconv.Itoa(n.Was) + ">" + strconv.Itoa(n.Is)
}

// worksName tells all that works have, also those that are not good.
func worksName(w impl.Works) string {
	return "cells " + numbersName(w.Cells) + " disk " + numbersName(w.Disk) + " log " + namesOf(w.Log, noteName) + " sure " + strconv.Itoa(w.Sure) + " open " + numbersName(w.Open)
}

func workStepName(s impl.WorkStep) string {
	return strconv.Itoa(s.Kind) + ":" + strconv.Itoa(s.Who) + "@" + strconv.Itoa(s.Cell) + ">" + strconv.Itoa(s.Is)
}

func sameWorks(a impl.Works, b impl.Works) bool {
	return slices.Equal(a.Cells, b.Cells) && slices.Equal(a.Disk, b.Disk) && slices.Equal(a.Log, b.Log) && a.Sure == b.Sure && slices.Equal(a.Open, b.Open)
}

func wantWorks(t *testing.T, what func() string, got impl.Works, ok bool, want impl.Works, wantOk bool) {
	t.Helper()
	if !sameWorks(got, want) || ok != wantOk {
		t.Errorf("%s: got %s %v, want %s %v", what(), worksName(got), ok, worksName(want), wantOk)
	}
	if ok && (!impl.GoodWorks(got) || !ruleGoodWorks(got)) {
		t.Errorf("%s: %s is not good", what(), worksName(got))
	}
}

func stepOf(w impl.Works, s impl.WorkStep) func() string {
	return func() string { return worksName(w) + ": step " + workStepName(s) }
}

// wantWorkStep holds a step of good works against the rule, and has what came of it.
func wantWorkStep(t *testing.T, w impl.Works, s impl.WorkStep) (impl.Works, bool) {
	t.Helper()
	got, ok := impl.StepWorks(w, s)
	want, wantOk := ruleWorkStep(w, s)
	wantWorks(t, stepOf(w, s), got, ok, want, wantOk)
	return want, wantOk
}

// wantWorkDone and wantWorkRefused are for what is told by hand.
func wantWorkDone(t *testing.T, w impl.Works, s impl.WorkStep, want impl.Works) {
	t.Helper()
	got, ok := impl.StepWorks(w, s)
	wantWorks(t, stepOf(w, s), got, ok, want, true)
}

func wantWorkRefused(t *testing.T, w impl.Works, s impl.WorkStep) {
	t.Helper()
	got, ok := impl.StepWorks(w, s)
	wantWorks(t, stepOf(w, s), got, ok, impl.Works{}, false)
}

func wantGoodWorks(t *testing.T, w impl.Works, want bool) {
	t.Helper()
	if impl.GoodWorks(w) != want || ruleGoodWorks(w) != want {
		t.Errorf("%s: good is %v, by the rule %v, want %v", worksName(w), impl.GoodWorks(w), ruleGoodWorks(w), want)
	}
}

func wantDoneBy(t *testing.T, l []impl.Note, want []int, wantOk bool) {
	t.Helper()
	got, ok := impl.DoneBy(l)
	wantNumbers(t, "done by "+namesOf(l, noteName), got, ok, want, wantOk)
}

func wantWhoHas(t *testing.T, w impl.Works, cell int, want int) {
	t.Helper()
	got, ok := impl.WhoHas(w, cell)
	wantNumber(t, worksName(w)+": who has "+strconv.Itoa(cell), got, ok, want, want != 0)
}

// wantRecovered asks for a recovery, and for another one behind it, that changes nothing.
func wantRecovered(t *testing.T, w impl.Works, cells []int) {
	t.Helper()
	want := impl.Works{Cells: cells, Disk: cells}
	got, ok := impl.RecoverWorks(w)
	wantWorks(t, func() string { return worksName(w) + ": recovered" }, got, ok, want, true)
	got, ok = impl.RecoverWorks(got)
	wantWorks(t, func() string { return worksName(w) + ": recovered twice" }, got, ok, want, true)
}

// wantToldOfWorks holds what is told of good works against the rules.
func wantToldOfWorks(t *testing.T, w impl.Works) {
	t.Helper()
	wantGoodWorks(t, w, true)
	for cell := range 6 {
		wantWhoHas(t, w, cell, ruleWhoHas(w, cell))
	}
	for _, cell := range append([]int{6, 7, 60}, wrongNumbers...) {
		wantWhoHas(t, w, cell, 0)
	}
	var done []int
	for who := 1; who <= 9; who++ {
		if slices.Contains(w.Log, noteDone(who)) {
			done = append(done, who)
		}
	}
	wantDoneBy(t, w.Log, done, true)
	wantRecovered(t, w, ruleRecovered(w.Disk, w.Log).Cells)
}

func wantPlayedWorks(t *testing.T, l []impl.WorkStep, want impl.Works, wantDid []bool) {
	t.Helper()
	got, did, ok := impl.PlayWorks(l)
	what := func() string { return "play of " + strconv.Itoa(len(l)) + " steps " + namesOf(l, workStepName) }
	wantWorks(t, what, got, ok, want, true)
	if !slices.Equal(did, wantDid) {
		t.Errorf("%s: did %v, want %v", what(), did, wantDid)
	}
}

func wantRefusedWorksPlay(t *testing.T, l []impl.WorkStep) {
	t.Helper()
	got, did, ok := impl.PlayWorks(l)
	wantWorks(t, func() string { return strconv.Itoa(len(l)) + " steps" }, got, ok, impl.Works{}, false)
	wantBools(t, "steps", did, ok, nil, false)
}

// worksOf are works of which nothing is on the disk, with the cells as the log has them.
func worksOf(sure int, log ...impl.Note) impl.Works {
	w := impl.Works{Cells: make([]int, 6), Disk: make([]int, 6), Log: log, Sure: sure, Open: ruleOpen(log)}
	for _, n := range log {
		if n.Kind == 2 && within(n.Cell, 0, 5) {
			w.Cells[n.Cell] = n.Is
		}
	}
	return w
}

// plainWorks have something of all: 1 was done and is open once more, 2 and 9 are open, 3 was dropped, and 1 and 2 have set cells.
func plainWorks() impl.Works {
	w := worksOf(6, noteBegin(1), noteSet(1, 0, 0, 5), noteBegin(2), noteDone(1), noteSet(2, 1, 0, 7), noteSet(2, 1, 7, 8), noteBegin(3), noteSet(3, 2, 4, 9), noteSet(3, 2, 9, 4), noteDrop(3), noteBegin(1), noteSet(1, 0, 5, 6), noteBegin(9))
	w.Cells, w.Disk = []int{6, 8, 4, 0, 1000, 0}, []int{5, 8, 4, 0, 1000, 0}
	return w
}

// spoiledWorks are the plain ones, changed.
func spoiledWorks(change func(w *impl.Works)) impl.Works {
	w := plainWorks()
	change(&w)
	return w
}

// manySets are sets of one on one cell, each one more.
func manySets(who int, cell int, many int) []impl.Note {
	var l []impl.Note
	for i := range many {
		l = append(l, noteSet(who, cell, i, i+1))
	}
	return l
}

// logsOfTwice have one who began twice in the log, done or dropped between or not.
func logsOfTwice() [][]impl.Note {
	var l [][]impl.Note
	for _, between := range [][]impl.Note{nil, {noteDone(4)}, {noteDrop(4)}, {noteSet(4, 3, 7, 8)}, {noteSet(4, 3, 1, 8), noteDone(4)}, {noteSet(4, 3, 1, 8), noteSet(4, 3, 8, 1), noteDrop(4)}, {noteBegin(5), noteSet(5, 3, 2, 6)}, {noteDrop(4), noteDone(4)}} {
		for _, behind := range [][]impl.Note{nil, {noteDone(4)}, {noteDrop(4)}, {noteSet(4, 2, 3, 9)}, {noteSet(4, 2, 3, 9), noteSet(4, 3, 5, 6)}, {noteSet(4, 2, 3, 9), noteDone(4)}, {noteDone(4), noteBegin(4), noteSet(4, 1, 1, 2)}} {
			l = append(l, slices.Concat([]impl.Note{noteBegin(4)}, between, []impl.Note{noteBegin(4)}, behind), slices.Concat([]impl.Note{noteSet(4, 2, 8, 1), noteBegin(4), noteSet(4, 1, 6, 7)}, between, []impl.Note{noteBegin(4)}, behind))
		}
	}
	return l
}

// edgeWorks are good ones that lie at what the chapter names.
func edgeWorks() []impl.Works {
	l := []impl.Works{worksOf(0), plainWorks(), spoiledWorks(func(w *impl.Works) { w.Sure = 0 }), spoiledWorks(func(w *impl.Works) { w.Sure = len(w.Log) })}
	for _, number := range []int{0, 1, 999, 1000} {
		cells := slices.Repeat([]int{number}, 6)
		l = append(l, spoiledWorks(func(w *impl.Works) { w.Cells = cells }), spoiledWorks(func(w *impl.Works) { w.Disk = cells }), worksOf(1, noteBegin(9), noteSet(9, 5, number, 1000-number), noteSet(9, 0, 1000-number, number)))
	}
	for _, log := range logsOfTwice() {
		for _, sure := range []int{0, len(log) / 2, len(log)} {
			l = append(l, worksOf(sure, log...))
		}
	}
	all := []impl.Note{}
	for who := 9; who >= 1; who-- {
		all = append(all, noteBegin(who), noteSet(who, who%6, who, who+1))
	}
	l = append(l, worksOf(18, all...), worksOf(9, all...))
	// By their form alone: sets, dones and drops of such who never began, and one cell that several have set.
	l = append(l, worksOf(1, noteSet(3, 0, 1, 2)), worksOf(0, noteDone(3), noteDrop(4)), worksOf(3, noteBegin(7), noteBegin(2), noteSet(7, 1, 3, 4), noteSet(2, 1, 4, 5), noteSet(7, 1, 5, 6)), worksOf(2, noteSet(2, 1, 7, 8), noteBegin(2), noteDone(3)))
	for _, many := range []int{27, 28, 29, 30, 56, 57, 58, 59} {
		sets := slices.Concat([]impl.Note{noteBegin(1)}, manySets(1, 4, many))
		l = append(l, worksOf(0, sets...), worksOf(len(sets), sets...))
	}
	for _, kind := range []impl.Note{noteBegin(6), noteDone(6), noteDrop(6), noteSet(6, 1, 2, 3)} {
		l = append(l, worksOf(60, slices.Repeat([]impl.Note{kind}, 60)...), worksOf(7, slices.Repeat([]impl.Note{kind, noteBegin(8)}, 30)[:59]...))
	}
	return l
}

// someNote is any good note; who it is of and what cell it speaks of come again and again.
func someNote(n *numbers, most int) impl.Note {
	who := 1 + n.below(most)
	switch n.below(7) {
	case 0, 1:
		return noteBegin(who)
	case 2:
		return noteDone(who)
	case 3:
		return noteDrop(who)
	}
	return noteSet(who, n.below(6), n.below(1001), n.below(1001))
}

// someWorks are good by their form alone.
func someWorks(n *numbers, long int, most int) impl.Works {
	var w impl.Works
	for range 6 {
		w.Cells, w.Disk = append(w.Cells, n.below(1001)), append(w.Disk, n.below(1001))
	}
	for range long {
		w.Log = append(w.Log, someNote(n, most))
	}
	w.Sure, w.Open = n.below(long+1), ruleOpen(w.Log)
	return w
}

func goodWorks() []impl.Works {
	l := edgeWorks()
	n := &numbers{seed: 1414}
	for range 200 {
		l = append(l, someWorks(n, []int{0, 1, 2, 5, 9, 20, 58, 59, 60}[n.below(9)], []int{1, 2, 3, 9}[n.below(4)]))
	}
	return l
}

// badNotes are no notes, each for one reason.
func badNotes() []impl.Note {
	l := []impl.Note{{}, {Who: 1}, {Kind: 5}, {Kind: 5, Who: 1}, {Kind: 6}, {Kind: 6, Who: 1}, {Kind: 7, Who: 1}, noteSet(1, 6, 0, 0), noteSet(1, -1, 0, 0), noteSet(1, 0, 1001, 0), noteSet(1, 0, -1, 0), noteSet(1, 0, 0, 1001), noteSet(1, 0, 0, -1), noteSet(0, 0, 0, 0), noteSet(10, 0, 0, 0)}
	for _, kind := range []int{1, 3, 4} {
		l = append(l, impl.Note{Kind: kind}, impl.Note{Kind: kind, Who: 10}, impl.Note{Kind: kind, Who: -1}, impl.Note{Kind: kind, Who: 1, Cell: 1}, impl.Note{Kind: kind, Who: 1, Was: 1}, impl.Note{Kind: kind, Who: 1, Is: 1}, impl.Note{Kind: kind, Who: 9, Cell: 5, Was: 1000, Is: 1000})
	}
	for _, wrong := range wrongNumbers {
		l = append(l, noteBegin(wrong), noteDone(wrong), noteDrop(wrong), noteSet(wrong, 0, 0, 0), noteSet(1, wrong, 0, 0), noteSet(1, 0, wrong, 0), noteSet(1, 0, 0, wrong), impl.Note{Kind: wrong, Who: 1},
			impl.Note{Kind: 1, Who: 1, Cell: wrong}, impl.Note{Kind: 3, Who: 1, Was: wrong}, impl.Note{Kind: 4, Who: 1, Is: wrong})
	}
	return l
}

// badWorks are not good, each for one reason.
func badWorks() []impl.Works {
	l := []impl.Works{{}, {Cells: make([]int, 6)}, {Disk: make([]int, 6)}}
	for _, many := range []int{0, 1, 5, 7, 12, 600} {
		l = append(l, spoiledWorks(func(w *impl.Works) { w.Cells = make([]int, many) }), spoiledWorks(func(w *impl.Works) { w.Disk = make([]int, many) }))
	}
	for _, wrong := range append([]int{1001, 1002}, wrongNumbers...) {
		for cell := range 6 {
			l = append(l, spoiledWorks(func(w *impl.Works) { w.Cells[cell] = wrong }), spoiledWorks(func(w *impl.Works) { w.Disk[cell] = wrong }))
		}
		l = append(l, spoiledWorks(func(w *impl.Works) { w.Sure = wrong }))
	}
	for _, sure := range []int{-1, 14, 15, 60} {
		l = append(l, spoiledWorks(func(w *impl.Works) { w.Sure = sure }))
	}
	for _, open := range [][]int{nil, {1}, {1, 2}, {1, 9}, {2, 9}, {1, 2, 3, 9}, {1, 2, 8, 9}, {2, 1, 9}, {9, 2, 1}, {1, 9, 2}, {1, 1, 2, 9}, {1, 2, 9, 9}, {0, 1, 2, 9}, {1, 2, 9, 10}, {-1, 1, 2, 9}, {1, 2, 9, math.MaxInt}, {math.MinInt, 1, 2, 9}} {
		l = append(l, spoiledWorks(func(w *impl.Works) { w.Open = open }))
	}
	for _, n := range badNotes() {
		for _, at := range []int{0, 4, 13} {
			// Open both as it was, and as it would be with such a note.
			l = append(l, spoiledWorks(func(w *impl.Works) { w.Log = slices.Insert(w.Log, at, n) }), spoiledWorks(func(w *impl.Works) { w.Log = slices.Insert(w.Log, at, n); w.Open = ruleOpen(w.Log) }))
		}
	}
	for _, many := range []int{61, 62, 100, 1000} {
		l = append(l, worksOf(0, slices.Repeat([]impl.Note{noteDone(2)}, many)...), worksOf(many, slices.Repeat([]impl.Note{noteBegin(1)}, many)...))
	}
	return l
}

func TestWorksConstants(t *testing.T) {
	if impl.MaxCells != 6 || impl.MaxWork != 60 || impl.WkBegin != 1 || impl.WkSet != 2 || impl.WkDone != 3 || impl.WkDrop != 4 || impl.WkFlush != 5 || impl.WkCrash != 6 {
		t.Error("a constant is not the document's")
	}
}

func TestNewWorks(t *testing.T) {
	wantWorks(t, func() string { return "new" }, impl.NewWorks(), true, impl.Works{Cells: []int{0, 0, 0, 0, 0, 0}, Disk: []int{0, 0, 0, 0, 0, 0}}, true)
	wantToldOfWorks(t, impl.NewWorks())
}

func TestGoodWorks(t *testing.T) {
	for _, w := range goodWorks() {
		wantGoodWorks(t, w, true)
	}
	for _, w := range badWorks() {
		wantGoodWorks(t, w, false)
	}
}

// Each number of the plain works, one by one, at what it may be and may not be.
func TestGoodWorksOfEveryNumber(t *testing.T) {
	for _, x := range append(append(fromTo(-3, 70), fromTo(990, 1003)...), wrongNumbers...) {
		fits := within(x, 0, 1000)
		for cell := range 6 {
			wantGoodWorks(t, spoiledWorks(func(w *impl.Works) { w.Cells[cell] = x }), fits)
			wantGoodWorks(t, spoiledWorks(func(w *impl.Works) { w.Disk[cell] = x }), fits)
		}
		for i, n := range plainWorks().Log {
			isSet := n.Kind == 2
			wantGoodWorks(t, spoiledWorks(func(w *impl.Works) { w.Log[i].Was = x }), isSet && fits || x == 0)
			wantGoodWorks(t, spoiledWorks(func(w *impl.Works) { w.Log[i].Is = x }), isSet && fits || x == 0)
			wantGoodWorks(t, spoiledWorks(func(w *impl.Works) { w.Log[i].Cell = x }), isSet && within(x, 0, 5) || x == 0)
			wantGoodWorks(t, spoiledWorks(func(w *impl.Works) { w.Log[i].Who = x; w.Open = ruleOpen(w.Log) }), within(x, 1, 9))
		}
		wantGoodWorks(t, spoiledWorks(func(w *impl.Works) { w.Sure = x }), within(x, 0, 13))
	}
}

// All notes of small numbers, also those that are none, each one alone in a log.
func TestNotesOfEveryForm(t *testing.T) {
	for kind := -1; kind <= 8; kind++ {
		for who := -1; who <= 11; who++ {
			for cell := -1; cell <= 7; cell++ {
				for _, was := range []int{-1, 0, 1, 1000, 1001} {
					for _, is := range []int{-1, 0, 1, 1000, 1001} {
						n := impl.Note{Kind: kind, Who: who, Cell: cell, Was: was, Is: is}
						good := ruleGoodNote(n)
						wantGoodWorks(t, worksOf(1, n), good)
						var done []int
						if good && kind == 3 {
							done = []int{who}
						}
						wantDoneBy(t, []impl.Note{n}, done, good)
					}
				}
			}
		}
	}
}

func TestGoodWorksOfEveryLength(t *testing.T) {
	for many := range 70 {
		wantGoodWorks(t, spoiledWorks(func(w *impl.Works) { w.Cells = make([]int, many) }), many == 6)
		wantGoodWorks(t, spoiledWorks(func(w *impl.Works) { w.Disk = make([]int, many) }), many == 6)
		for _, n := range []impl.Note{noteBegin(3), noteDone(3), noteDrop(3), noteSet(3, 5, 1000, 0)} {
			log := slices.Repeat([]impl.Note{n}, many)
			for _, sure := range []int{0, many / 2, many} {
				wantGoodWorks(t, worksOf(sure, log...), many <= 60)
			}
			wantGoodWorks(t, worksOf(-1, log...), false)
			wantGoodWorks(t, worksOf(many+1, log...), false)
			var done []int
			if n.Kind == 3 && within(many, 1, 60) {
				done = []int{3}
			}
			wantDoneBy(t, log, done, many <= 60)
		}
	}
}

// Who is open, told by hand: the log is good with that alone.
func TestOpenKnownByHand(t *testing.T) {
	for _, c := range []struct {
		log  []impl.Note
		open []int
	}{
		{nil, nil},
		{[]impl.Note{noteBegin(1)}, []int{1}},
		{[]impl.Note{noteBegin(2), noteBegin(1)}, []int{1, 2}},
		{[]impl.Note{noteBegin(1), noteDone(1)}, nil},
		{[]impl.Note{noteBegin(1), noteDrop(1)}, nil},
		{[]impl.Note{noteBegin(1), noteBegin(2), noteDone(1)}, []int{2}},
		{[]impl.Note{noteBegin(1), noteBegin(2), noteDrop(2)}, []int{1}},
		{[]impl.Note{noteBegin(1), noteDone(1), noteBegin(1)}, []int{1}},
		{[]impl.Note{noteBegin(1), noteDrop(1), noteBegin(1)}, []int{1}},
		{[]impl.Note{noteBegin(1), noteBegin(1)}, []int{1}},
		{[]impl.Note{noteBegin(1), noteBegin(1), noteDone(1)}, nil},
		{[]impl.Note{noteBegin(1), noteBegin(1), noteDrop(1)}, nil},
		{[]impl.Note{noteBegin(1), noteDone(1), noteBegin(1), noteDrop(1)}, nil},
		{[]impl.Note{noteBegin(1), noteDone(1), noteDone(1)}, nil},
		{[]impl.Note{noteDone(1), noteBegin(1)}, []int{1}},
		{[]impl.Note{noteDone(1), noteDrop(2), noteSet(3, 0, 0, 1)}, nil},
		{[]impl.Note{noteBegin(3), noteSet(3, 0, 0, 1), noteSet(2, 1, 0, 1)}, []int{3}},
	} {
		eachList(3, fromTo(0, 4), func(open []int) {
			w := worksOf(0, c.log...)
			w.Open = open
			wantGoodWorks(t, w, slices.Equal(open, c.open))
		})
	}
}

func TestWorksAreToldByTheRules(t *testing.T) {
	for _, w := range goodWorks() {
		wantToldOfWorks(t, w)
	}
}

func TestDoneByKnownByHand(t *testing.T) {
	for _, c := range []struct {
		log  []impl.Note
		want []int
	}{
		{nil, nil},
		{[]impl.Note{}, nil},
		{[]impl.Note{noteDone(4)}, []int{4}},
		{[]impl.Note{noteDone(4), noteDone(4)}, []int{4}},
		{[]impl.Note{noteDone(9), noteDone(4), noteDone(1), noteDone(9), noteDone(4)}, []int{1, 4, 9}},
		{[]impl.Note{noteBegin(2), noteSet(2, 1, 0, 3), noteDrop(2)}, nil},
		{[]impl.Note{noteBegin(2), noteDone(2), noteBegin(2)}, []int{2}},
		{[]impl.Note{noteBegin(2), noteDone(2), noteBegin(2), noteDrop(2)}, []int{2}},
		{[]impl.Note{noteBegin(2), noteDone(2), noteBegin(2), noteDone(2), noteBegin(1), noteDone(1)}, []int{1, 2}},
		{slices.Repeat([]impl.Note{noteDone(8), noteDone(3), noteSet(5, 5, 1000, 1000)}, 20), []int{3, 8}},
	} {
		wantDoneBy(t, c.log, c.want, true)
	}
	wantDoneBy(t, slices.Repeat([]impl.Note{noteDone(8)}, 60), []int{8}, true)
	wantDoneBy(t, slices.Repeat([]impl.Note{noteDone(8)}, 61), nil, false)
	wantDoneBy(t, make([]impl.Note, 61), nil, false)
	for _, n := range badNotes() {
		wantDoneBy(t, []impl.Note{n}, nil, false)
		wantDoneBy(t, []impl.Note{noteDone(3), n, noteDone(1)}, nil, false)
		wantDoneBy(t, append(slices.Repeat([]impl.Note{noteDone(8)}, 59), n), nil, false)
	}
}

func TestWhoHasKnownByHand(t *testing.T) {
	w := plainWorks()
	for cell, who := range []int{1, 2, 0, 0, 0, 0} {
		wantWhoHas(t, w, cell, who)
	}
	for _, cell := range append([]int{6, 7, 1000}, wrongNumbers...) {
		wantWhoHas(t, w, cell, 0)
		wantWhoHas(t, impl.NewWorks(), cell, 0)
	}
	for _, c := range []struct {
		log  []impl.Note
		want int
	}{
		{[]impl.Note{noteBegin(5)}, 0},
		{[]impl.Note{noteBegin(5), noteSet(5, 3, 0, 1)}, 5},
		{[]impl.Note{noteBegin(5), noteSet(5, 3, 0, 0)}, 5},
		{[]impl.Note{noteBegin(5), noteSet(5, 3, 0, 1), noteDone(5)}, 0},
		{[]impl.Note{noteBegin(5), noteSet(5, 3, 0, 1), noteSet(5, 3, 1, 0), noteDrop(5)}, 0},
		// One who is done had it ahead of one who is open.
		{[]impl.Note{noteBegin(5), noteSet(5, 3, 0, 1), noteDone(5), noteBegin(7), noteSet(7, 3, 1, 2)}, 7},
		{[]impl.Note{noteBegin(5), noteSet(5, 3, 0, 1), noteDone(5), noteBegin(2), noteSet(2, 3, 1, 2), noteBegin(5)}, 2},
		// Of who began twice the last time counts: what it set ahead of that is another one's by now, or nobody's.
		{[]impl.Note{noteBegin(5), noteSet(5, 3, 0, 1), noteDone(5), noteBegin(5)}, 0},
		{[]impl.Note{noteBegin(5), noteSet(5, 3, 0, 1), noteBegin(5)}, 0},
		{[]impl.Note{noteBegin(5), noteSet(5, 3, 0, 1), noteDone(5), noteBegin(7), noteSet(7, 3, 1, 2), noteBegin(5), noteSet(5, 2, 0, 1)}, 7},
		{[]impl.Note{noteBegin(5), noteSet(5, 3, 0, 1), noteDrop(5), noteBegin(5), noteSet(5, 3, 0, 2)}, 5},
		// By form alone: one who never began, one who set ahead of its beginning, and several who have set it, of whom the least one is told.
		{[]impl.Note{noteSet(5, 3, 0, 1)}, 0},
		{[]impl.Note{noteSet(5, 3, 0, 1), noteBegin(5)}, 0},
		{[]impl.Note{noteBegin(5), noteBegin(2), noteSet(5, 3, 0, 1), noteSet(2, 3, 1, 2)}, 2},
		{[]impl.Note{noteBegin(2), noteBegin(5), noteSet(2, 3, 0, 1), noteSet(5, 3, 1, 2)}, 2},
	} {
		for cell := range 6 {
			want := 0
			switch {
			case cell == 3:
				want = c.want
			case cell == 2 && slices.Contains(c.log, noteSet(5, 2, 0, 1)):
				want = 5
			}
			wantWhoHas(t, worksOf(0, c.log...), cell, want)
			wantWhoHas(t, worksOf(len(c.log), c.log...), cell, want)
		}
	}
}

// allWorkSteps are steps of every kind, also those that are none, of everybody, also of those that there are not.
func allWorkSteps() []impl.WorkStep {
	var l []impl.WorkStep
	for kind := -1; kind <= 8; kind++ {
		for who := -1; who <= 11; who++ {
			l = append(l, impl.WorkStep{Kind: kind, Who: who}, impl.WorkStep{Kind: kind, Who: who, Cell: 1}, impl.WorkStep{Kind: kind, Who: who, Is: 1})
			for cell := -1; cell <= 7 && kind == 2; cell++ {
				l = append(l, stepSet(who, cell, 7), stepSet(who, cell, 1000))
			}
		}
	}
	return append(l, stepSet(1, 2, 1001), stepSet(2, 2, -1), stepSet(9, 5, 1001), stepSet(9, 5, -1))
}

func TestWorkStepsAreTheRule(t *testing.T) {
	for _, w := range goodWorks() {
		for _, s := range allWorkSteps() {
			wantWorkStep(t, w, s)
		}
	}
}

// someWorkStep is most often one that can be done.
func someWorkStep(n *numbers, b book, most int) impl.WorkStep {
	who := 1 + n.below(most)
	if open := b.open(); len(open) > 0 && n.below(3) > 0 {
		who = open[n.below(len(open))]
	}
	_, open := b.over[who]
	switch x := n.below(40); {
	case x == 0:
		return impl.WorkStep{Kind: n.below(9) - 1, Who: n.below(12) - 1, Cell: n.below(9) - 1, Is: n.below(3) * 500}
	case x == 1:
		return stepCrash()
	case x < 5:
		return stepFlush()
	case !open && x < 36:
		return stepBegin(who)
	case x < 24:
		return stepSet(who, n.below(6), n.below(1001))
	case x < 33:
		return stepDone(who)
	}
	return stepDrop(who)
}

func someWorkPlay(n *numbers, many int, most int) []impl.WorkStep {
	b := newBook()
	var l []impl.WorkStep
	for range many {
		s := someWorkStep(n, b, most)
		if next, ok := b.step(s); ok {
			b = next
		}
		l = append(l, s)
	}
	return l
}

// mixedWorkPlays are plays of all lengths, of few and of all.
func mixedWorkPlays(each int, show func(l []impl.WorkStep)) {
	n := &numbers{seed: 4141}
	for range each {
		show(someWorkPlay(n, []int{0, 1, 5, 12, 25, 40, 59, 60}[n.below(8)], []int{1, 2, 3, 5, 9}[n.below(5)]))
	}
}

// wantPromise14 holds works that were played against what those left that were done in all, ahead of a crash and behind it.
func wantPromise14(t *testing.T, w impl.Works, b book) {
	t.Helper()
	cells := b.cells()
	if !slices.Equal(w.Cells, cells[:]) || !slices.Equal(w.Disk, b.disk[:]) || !slices.Equal(w.Open, b.open()) || len(w.Log) != b.long {
		t.Errorf("%s: want cells %v, disk %v, open %v and %d notes", worksName(w), cells, b.disk, b.open(), b.long)
	}
	for cell := range 6 {
		want := 0
		for who, sets := range b.over {
			if slices.ContainsFunc(sets, func(x cellSet) bool { return x.cell == cell }) {
				want = who
			}
		}
		wantWhoHas(t, w, cell, want)
	}
	behind := impl.Works{Cells: b.lasting[:], Disk: b.lasting[:]}
	wantWorkDone(t, w, stepCrash(), behind)
	wantWorkDone(t, behind, stepCrash(), behind)
	wantRecovered(t, w, b.lasting[:])
}

// Promise 14: whatever was set, flushed, dropped and done, and by whom; at each step of a play.
func TestBehindACrashThereIsJustWhatWasDone(t *testing.T) {
	lost, kept, undone := 0, 0, 0
	mixedWorkPlays(2000, func(l []impl.WorkStep) {
		books, wantDid := playBook(l)
		last := books[len(books)-1]
		w, did, ok := impl.PlayWorks(l)
		if !ok || !slices.Equal(did, wantDid) {
			t.Fatalf("play of %s: did %v, want %v", namesOf(l, workStepName), did, wantDid)
		}
		wantPromise14(t, w, last)
		cells := last.cells()
		if cells != last.lasting {
			lost++
		}
		if last.lasting != last.disk && last.lasting != [6]int{} {
			kept++
		}
		if w.Sure > 0 && len(w.Open) > 0 && last.disk != last.lasting && last.disk != [6]int{} {
			undone++
		}
	})
	if lost < 600 || kept < 600 || undone < 300 {
		t.Errorf("%d plays lose what was set, %d have another thing on the disk than what was done, %d of these with some open and something flushed: they try too little", lost, kept, undone)
	}
}

func TestWorksAtEachStep(t *testing.T) {
	mixedWorkPlays(150, func(l []impl.WorkStep) {
		books, did := playBook(l)
		w := impl.NewWorks()
		for i, s := range l {
			next, ok := wantWorkStep(t, w, s)
			if ok != did[i] {
				t.Fatalf("%s: step %s is done %v", worksName(w), workStepName(s), ok)
			}
			if ok {
				w = next
			}
			wantPromise14(t, w, books[i+1])
			wantPlayedWorks(t, l[:i+1], w, did[:i+1])
		}
		wantToldOfWorks(t, w)
	})
}

// workStepsFrom does all steps from one state; it has those that were not seen ahead.
func workStepsFrom(t *testing.T, from book, w impl.Works, steps []impl.WorkStep, seen map[string]bool) ([]book, []impl.Works) {
	t.Helper()
	var books []book
	var found []impl.Works
	for _, s := range steps {
		next, ok := wantWorkStep(t, w, s)
		b, wantOk := from.step(s)
		if ok != wantOk {
			t.Errorf("%s: step %s is done %v", worksName(w), workStepName(s), ok)
		}
		if !ok {
			continue
		}
		wantPromise14(t, next, b)
		name := worksName(next)
		if !seen[name] {
			seen[name] = true
			books, found = append(books, b), append(found, next)
		}
	}
	return books, found
}

// Promise 14: all works that few steps of two, or of one, lead to.
func TestEveryShortPlayOfWorks(t *testing.T) {
	one := []impl.WorkStep{stepBegin(1), stepSet(1, 0, 7), stepSet(1, 0, 8), stepSet(1, 1, 7), stepDone(1), stepDrop(1), stepFlush(), stepCrash()}
	two := append(slices.Clone(one[:2]), stepDone(1), stepDrop(1), stepFlush(), stepCrash(), stepBegin(2), stepSet(2, 0, 9), stepSet(2, 1, 9), stepDone(2), stepDrop(2))
	for _, c := range []struct {
		steps []impl.WorkStep
		deep  int
	}{{one, 7}, {two, 6}} {
		books, found := []book{newBook()}, []impl.Works{impl.NewWorks()}
		seen := map[string]bool{worksName(found[0]): true}
		for range c.deep {
			var nextBooks []book
			var next []impl.Works
			for i, w := range found {
				moreBooks, more := workStepsFrom(t, books[i], w, c.steps, seen)
				nextBooks, next = append(nextBooks, moreBooks...), append(next, more...)
			}
			books, found = nextBooks, next
		}
		if len(seen) < 1000 {
			t.Errorf("%d steps deep there are only %d works", c.deep, len(seen))
		}
	}
}

// Promise 14: a flush, wherever it is put, is of no matter behind a crash, nor to what can be done.
func TestFlushesAreOfNoMatter(t *testing.T) {
	n := &numbers{seed: 1441}
	for range 200 {
		l := someWorkPlay(n, 1+n.below(50), 1+n.below(4))
		plain, did, _ := impl.PlayWorks(l)
		want, _ := impl.RecoverWorks(plain)
		for at := range len(l) + 1 {
			w, flushedDid, ok := impl.PlayWorks(slices.Insert(slices.Clone(l), at, stepFlush()))
			if !ok || !slices.Equal(flushedDid, slices.Insert(slices.Clone(did), at, true)) || !slices.Equal(w.Cells, plain.Cells) {
				t.Errorf("%s: a flush at %d makes %s of %s", namesOf(l, workStepName), at, worksName(w), worksName(plain))
			}
			wantWorkDone(t, w, stepCrash(), want)
			wantRecovered(t, w, want.Cells)
		}
	}
}

// ofOthers are the steps of a play that are of others than one.
func ofOthers(l []impl.WorkStep, who int) []impl.WorkStep {
	return slices.DeleteFunc(slices.Clone(l), func(s impl.WorkStep) bool { return s.Who == who })
}

// Promise 14: who drops has changed nothing. Each one has two cells of its own, so that nobody is kept from one.
func TestWhoDropsHasChangedNothing(t *testing.T) {
	n := &numbers{seed: 1144}
	for range 400 {
		var l []impl.WorkStep
		for who := 1; who <= 3; who++ {
			l = append(l, stepBegin(who))
		}
		for range n.below(20) {
			who := 1 + n.below(3)
			set := stepSet(who, who-1+3*n.below(2), n.below(1001))
			l = append(l, []impl.WorkStep{set, set, set, stepFlush()}[n.below(4)])
		}
		for _, behind := range [][]impl.WorkStep{nil, {stepFlush()}, {stepDone(1)}, {stepFlush(), stepDone(1), stepFlush()}} {
			dropped, _, _ := impl.PlayWorks(slices.Concat(l, []impl.WorkStep{stepDrop(2)}, behind))
			never, _, _ := impl.PlayWorks(slices.Concat(ofOthers(l, 2), behind))
			if !slices.Equal(dropped.Cells, never.Cells) || !slices.Equal(dropped.Open, never.Open) {
				t.Errorf("%s: dropped: %s, never there: %s", namesOf(l, workStepName), worksName(dropped), worksName(never))
			}
			want, _ := impl.StepWorks(never, stepCrash())
			wantWorkDone(t, dropped, stepCrash(), want)
			wantRecovered(t, dropped, want.Cells)
		}
	}
}

func TestWorksPlayKnownByHand(t *testing.T) {
	l := []impl.WorkStep{stepBegin(1), stepSet(1, 0, 5), stepBegin(2), stepSet(2, 0, 6), stepSet(2, 1, 7), stepBegin(1), stepFlush(), stepSet(1, 0, 4), stepDone(1), stepSet(2, 0, 6), stepDrop(3), stepBegin(3), stepSet(3, 2, 8), stepDrop(3)}
	did := []bool{true, true, true, false, true, false, true, true, true, true, false, true, true, true}
	want := impl.Works{Cells: []int{6, 7, 0, 0, 0, 0}, Disk: []int{5, 7, 0, 0, 0, 0}, Sure: 6, Open: []int{2},
		Log: []impl.Note{noteBegin(1), noteSet(1, 0, 0, 5), noteBegin(2), noteSet(2, 1, 0, 7), noteSet(1, 0, 5, 4), noteDone(1), noteSet(2, 0, 4, 6), noteBegin(3), noteSet(3, 2, 0, 8), noteSet(3, 2, 8, 0), noteDrop(3)}}
	wantPlayedWorks(t, l, want, did)
	crashed := impl.Works{Cells: []int{4, 0, 0, 0, 0, 0}, Disk: []int{4, 0, 0, 0, 0, 0}}
	wantPlayedWorks(t, append(slices.Clone(l), stepCrash()), crashed, append(slices.Clone(did), true))
	wantRecovered(t, want, []int{4, 0, 0, 0, 0, 0})
	// 2 is done in all as well: behind a crash there is what both left.
	wantPlayedWorks(t, append(slices.Clone(l), stepDone(2), stepCrash()), impl.Works{Cells: []int{6, 7, 0, 0, 0, 0}, Disk: []int{6, 7, 0, 0, 0, 0}}, append(slices.Clone(did), true, true))
}

func TestBeginsKnownByHand(t *testing.T) {
	for who := 1; who <= 9; who++ {
		wantWorkDone(t, impl.NewWorks(), stepBegin(who), worksOf(0, noteBegin(who)))
		wantWorkRefused(t, worksOf(1, noteBegin(who)), stepBegin(who))
		wantWorkDone(t, worksOf(2, noteBegin(who), noteDone(who)), stepBegin(who), worksOf(2, noteBegin(who), noteDone(who), noteBegin(who)))
		wantWorkDone(t, worksOf(0, noteBegin(who), noteDrop(who)), stepBegin(who), worksOf(0, noteBegin(who), noteDrop(who), noteBegin(who)))
	}
	w := worksOf(1, noteBegin(9), noteSet(9, 1, 0, 3))
	want := worksOf(1, noteBegin(9), noteSet(9, 1, 0, 3), noteBegin(4))
	wantWorkDone(t, w, stepBegin(4), want)
	if !slices.Equal(want.Open, []int{4, 9}) {
		t.Fatal(want.Open)
	}
	for _, who := range append([]int{0, 10, 11, 9}, wrongNumbers...) {
		wantWorkRefused(t, w, stepBegin(who))
	}
	for _, s := range []impl.WorkStep{{Kind: 1, Who: 4, Cell: 1}, {Kind: 1, Who: 4, Is: 1}, {Kind: 1, Who: 4, Cell: -1}, {Kind: 1, Who: 4, Is: math.MinInt}} {
		wantWorkRefused(t, w, s)
	}
}

func TestSetsKnownByHand(t *testing.T) {
	w := plainWorks()
	for _, c := range []struct {
		s   impl.WorkStep
		was int
	}{
		{stepSet(1, 0, 0), 6}, {stepSet(1, 0, 1000), 6}, {stepSet(1, 0, 6), 6}, {stepSet(2, 1, 3), 8}, {stepSet(2, 1, 8), 8}, {stepSet(9, 3, 1), 0}, {stepSet(1, 5, 0), 0}, {stepSet(2, 4, 1000), 1000},
		// 3 has dropped what it had set.
		{stepSet(1, 2, 3), 4}, {stepSet(9, 2, 3), 4},
	} {
		want := plainWorks()
		want.Log, want.Cells[c.s.Cell] = append(want.Log, noteSet(c.s.Who, c.s.Cell, c.was, c.s.Is)), c.s.Is
		wantWorkDone(t, w, c.s, want)
	}
	for _, s := range []impl.WorkStep{stepSet(2, 0, 1), stepSet(9, 0, 1), stepSet(1, 1, 8), stepSet(9, 1, 8), stepSet(3, 3, 1), stepSet(4, 3, 1), stepSet(0, 3, 1), stepSet(10, 3, 1), stepSet(-1, 3, 1), stepSet(1, 6, 1), stepSet(1, -1, 1), stepSet(1, 0, 1001), stepSet(1, 0, -1), stepSet(9, 5, 1001)} {
		wantWorkRefused(t, w, s)
	}
	for _, wrong := range wrongNumbers {
		wantWorkRefused(t, w, stepSet(wrong, 3, 1))
		wantWorkRefused(t, w, stepSet(1, wrong, 1))
		wantWorkRefused(t, w, stepSet(1, 0, wrong))
	}
	// The cell of one who is done by now, of one who is done and open anew, and of one who never began.
	for _, log := range [][]impl.Note{{noteBegin(1), noteSet(1, 3, 0, 7), noteDone(1), noteBegin(2)}, {noteBegin(1), noteSet(1, 3, 0, 7), noteDone(1), noteBegin(2), noteBegin(1)}, {noteSet(1, 3, 0, 7), noteBegin(2)}, {noteBegin(2), noteBegin(1), noteSet(1, 3, 0, 7), noteBegin(1)}} {
		wantWorkDone(t, worksOf(0, log...), stepSet(2, 3, 9), worksOf(0, append(log, noteSet(2, 3, 7, 9))...))
	}
	// By form alone one cell is set by two: each is kept from it by the other one.
	both := worksOf(0, noteBegin(1), noteBegin(2), noteSet(1, 3, 0, 7), noteSet(2, 3, 7, 8))
	for who := 1; who <= 2; who++ {
		wantWorkRefused(t, both, stepSet(who, 3, 9))
		if _, ok := impl.StepWorks(both, stepSet(who, 2, 9)); !ok {
			t.Errorf("%s: %d can't set cell 2", worksName(both), who)
		}
	}
}

func TestDonesKnownByHand(t *testing.T) {
	for _, sure := range []int{0, 1, 6, 12, 13} {
		w := spoiledWorks(func(w *impl.Works) { w.Sure = sure })
		for who, open := range map[int][]int{1: {2, 9}, 2: {1, 9}, 9: {1, 2}} {
			want := plainWorks()
			want.Log, want.Sure, want.Open = append(want.Log, noteDone(who)), 14, open
			wantWorkDone(t, w, stepDone(who), want)
		}
		for _, who := range append([]int{0, 3, 4, 8, 10}, wrongNumbers...) {
			wantWorkRefused(t, w, stepDone(who))
			wantWorkRefused(t, w, stepDrop(who))
		}
	}
	for _, s := range []impl.WorkStep{{Kind: 3, Who: 1, Cell: 1}, {Kind: 3, Who: 1, Is: 6}, {Kind: 4, Who: 1, Cell: 1}, {Kind: 4, Who: 1, Is: 5}, {Kind: 3, Who: 1, Cell: -1}, {Kind: 4, Who: 1, Is: math.MinInt}} {
		wantWorkRefused(t, plainWorks(), s)
	}
}

func TestDropsOfWorksKnownByHand(t *testing.T) {
	for _, c := range []struct {
		name string
		log  []impl.Note
		cell int
		more []impl.Note
		open []int
		is   int
	}{
		{"no cell set", []impl.Note{noteBegin(5)}, 3, nil, nil, 0},
		{"one", []impl.Note{noteBegin(5), noteSet(5, 3, 2, 8)}, 3, []impl.Note{noteSet(5, 3, 8, 2)}, nil, 2},
		{"one set twice", []impl.Note{noteBegin(5), noteSet(5, 3, 2, 8), noteSet(5, 3, 8, 1)}, 3, []impl.Note{noteSet(5, 3, 1, 8), noteSet(5, 3, 8, 2)}, nil, 2},
		{"set to what it was", []impl.Note{noteBegin(5), noteSet(5, 3, 0, 0)}, 3, []impl.Note{noteSet(5, 3, 0, 0)}, nil, 0},
		{"two cells, mixed", []impl.Note{noteBegin(5), noteSet(5, 3, 2, 8), noteSet(5, 4, 0, 6), noteSet(5, 3, 8, 1)}, 3, []impl.Note{noteSet(5, 3, 1, 8), noteSet(5, 4, 6, 0), noteSet(5, 3, 8, 2)}, nil, 2},
		{"others between", []impl.Note{noteBegin(2), noteBegin(5), noteSet(5, 3, 2, 8), noteSet(2, 1, 0, 5), noteSet(5, 3, 8, 1), noteSet(2, 0, 0, 4)}, 3, []impl.Note{noteSet(5, 3, 1, 8), noteSet(5, 3, 8, 2)}, []int{2}, 2},
		{"done, then once more", []impl.Note{noteBegin(5), noteSet(5, 3, 0, 7), noteDone(5), noteBegin(5), noteSet(5, 3, 7, 9)}, 3, []impl.Note{noteSet(5, 3, 9, 7)}, nil, 7},
		{"dropped, then once more", []impl.Note{noteBegin(5), noteSet(5, 3, 1, 7), noteSet(5, 3, 7, 1), noteDrop(5), noteBegin(5), noteSet(5, 3, 1, 9)}, 3, []impl.Note{noteSet(5, 3, 9, 1)}, nil, 1},
		{"began twice, not done between", []impl.Note{noteBegin(5), noteSet(5, 3, 4, 7), noteBegin(5), noteSet(5, 3, 7, 9)}, 3, []impl.Note{noteSet(5, 3, 9, 7)}, nil, 7},
		{"set ahead of its beginning", []impl.Note{noteSet(5, 3, 4, 7), noteBegin(5)}, 3, nil, nil, 7},
		// What it is now is told by the cell, though by form alone the log tells otherwise.
		{"another one set it, too", []impl.Note{noteBegin(5), noteBegin(6), noteSet(5, 3, 4, 7), noteSet(6, 3, 7, 9)}, 3, []impl.Note{noteSet(5, 3, 9, 4)}, []int{6}, 4},
	} {
		for _, sure := range []int{0, len(c.log)} {
			w := worksOf(sure, c.log...)
			want := worksOf(sure, slices.Concat(c.log, c.more, []impl.Note{noteDrop(5)})...)
			if want.Cells[c.cell] != c.is || !slices.Equal(want.Open, c.open) {
				t.Fatalf("%s: %s", c.name, worksName(want))
			}
			wantWorkDone(t, w, stepDrop(5), want)
		}
	}
	// The cells are not what the log made them: Was is what they are.
	w := worksOf(0, noteBegin(5), noteSet(5, 3, 2, 8))
	w.Cells[3] = 77
	want := worksOf(0, noteBegin(5), noteSet(5, 3, 2, 8), noteSet(5, 3, 77, 2), noteDrop(5))
	wantWorkDone(t, w, stepDrop(5), want)
}

// A drop needs room for all of its notes: one for each set, and its own.
func TestDropsWithLittleRoom(t *testing.T) {
	for sets := range 59 {
		for rest := range 60 - sets {
			l := slices.Concat(slices.Repeat([]impl.Note{noteDone(8)}, rest), []impl.Note{noteBegin(5)}, manySets(5, 2, sets))
			w := worksOf(rest, l...)
			got, ok := impl.StepWorks(w, stepDrop(5))
			room := rest+1+sets+sets+1 <= 60
			if ok != room || ok && (len(got.Log) != rest+2*sets+2 || got.Cells[2] != 0 || len(got.Open) != 0 || got.Sure != rest) {
				t.Errorf("%s: dropped: %s %v", worksName(w), worksName(got), ok)
			}
			if !room {
				wantWorkRefused(t, w, stepDrop(5))
			}
		}
	}
	// In a play: 29 sets can be dropped, 30 can't, and then it can still be done.
	for _, many := range []int{28, 29, 30, 31} {
		l := []impl.WorkStep{stepBegin(5)}
		for i := range many {
			l = append(l, stepSet(5, 2, i+1))
		}
		_, did, ok := impl.PlayWorks(append(l, stepDrop(5), stepDone(5)))
		wantBools(t, strconv.Itoa(many)+" sets", did[many+1:], ok, []bool{many <= 29, many > 29}, true)
	}
}

// Of a step that notes one thing there is room for it up to 60.
func TestRoomInTheLogOfWorks(t *testing.T) {
	for long := 56; long <= 60; long++ {
		log := append([]impl.Note{noteBegin(5)}, slices.Repeat([]impl.Note{noteDone(8)}, long-1)...)
		w := worksOf(3, log...)
		for _, c := range []struct {
			s    impl.WorkStep
			note impl.Note
			sure int
		}{{stepBegin(6), noteBegin(6), 3}, {stepSet(5, 4, 2), noteSet(5, 4, 0, 2), 3}, {stepDone(5), noteDone(5), long + 1}, {stepDrop(5), noteDrop(5), 3}} {
			if long == 60 {
				wantWorkRefused(t, w, c.s)
			} else {
				wantWorkDone(t, w, c.s, worksOf(c.sure, append(slices.Clone(log), c.note)...))
			}
		}
		wantWorkDone(t, w, stepFlush(), worksOf(long, log...))
		wantWorkDone(t, w, stepCrash(), worksOf(0))
	}
}

func TestFlushesKnownByHand(t *testing.T) {
	for _, sure := range []int{0, 6, 13} {
		want := plainWorks()
		want.Disk, want.Sure = []int{6, 8, 4, 0, 1000, 0}, 13
		wantWorkDone(t, spoiledWorks(func(w *impl.Works) { w.Sure = sure }), stepFlush(), want)
		wantWorkDone(t, want, stepFlush(), want)
	}
	// The disk has what is in the cells, whatever the log tells.
	w := spoiledWorks(func(w *impl.Works) { w.Cells = []int{1, 2, 3, 4, 5, 6} })
	want := spoiledWorks(func(w *impl.Works) { w.Cells, w.Disk, w.Sure = []int{1, 2, 3, 4, 5, 6}, []int{1, 2, 3, 4, 5, 6}, 13 })
	wantWorkDone(t, w, stepFlush(), want)
	wantWorkDone(t, impl.NewWorks(), stepFlush(), impl.NewWorks())
	wantWorkDone(t, impl.NewWorks(), stepCrash(), impl.NewWorks())
}

// A crash at each Sure: what is cut away was never there.
func TestCrashesKnownByHand(t *testing.T) {
	log := []impl.Note{noteBegin(1), noteSet(1, 0, 0, 5), noteBegin(2), noteSet(2, 1, 0, 7), noteSet(1, 0, 5, 6), noteDone(1), noteBegin(1), noteSet(1, 0, 6, 8), noteSet(2, 1, 7, 9), noteSet(2, 1, 9, 7), noteSet(2, 1, 7, 0), noteDrop(2), noteDone(1)}
	for sure := range len(log) + 1 {
		cells := make([]int, 6)
		if sure > 5 {
			cells[0] = 6
		}
		if sure > 12 {
			cells[0] = 8
		}
		w := worksOf(sure, log...)
		wantWorkDone(t, w, stepCrash(), impl.Works{Cells: cells, Disk: cells})
		// What is cut away may have the cells be anything.
		w.Cells = []int{1, 2, 3, 4, 5, 6}
		wantWorkDone(t, w, stepCrash(), impl.Works{Cells: cells, Disk: cells})
		wantRecovered(t, w, []int{8, 0, 0, 0, 0, 0})
	}
	for _, c := range []struct {
		name string
		log  []impl.Note
		sure int
		disk int
		want int
	}{
		{"a beginning is cut away", []impl.Note{noteBegin(3), noteSet(3, 2, 1, 6), noteDone(3), noteBegin(3)}, 3, 0, 6},
		{"a second beginning is cut away, the first one counts", []impl.Note{noteBegin(3), noteSet(3, 2, 1, 6), noteBegin(3)}, 2, 0, 1},
		{"it is not cut away", []impl.Note{noteBegin(3), noteSet(3, 2, 1, 6), noteBegin(3)}, 3, 0, 6},
		{"a set is cut away", []impl.Note{noteBegin(3), noteSet(3, 2, 1, 6), noteDone(3), noteBegin(4), noteSet(4, 2, 6, 9)}, 4, 0, 6},
		{"a set that is on the disk is cut away, by form alone", []impl.Note{noteBegin(4), noteSet(4, 2, 6, 9)}, 1, 9, 9},
		{"a done is cut away", []impl.Note{noteBegin(3), noteSet(3, 2, 1, 6), noteDone(3)}, 2, 0, 1},
		{"a drop is cut away, its sets are not", []impl.Note{noteBegin(3), noteSet(3, 2, 1, 6), noteSet(3, 2, 6, 1), noteDrop(3)}, 3, 0, 1},
		{"a drop and one of its sets are cut away", []impl.Note{noteBegin(3), noteSet(3, 2, 1, 6), noteSet(3, 2, 6, 8), noteSet(3, 2, 8, 6), noteSet(3, 2, 6, 1), noteDrop(3)}, 4, 0, 1},
		{"all is cut away", []impl.Note{noteBegin(3), noteSet(3, 2, 1, 6), noteDone(3)}, 0, 500, 500},
	} {
		w := worksOf(c.sure, c.log...)
		w.Disk[2] = c.disk
		got, ok := impl.StepWorks(w, stepCrash())
		cells := []int{0, 0, c.want, 0, 0, 0}
		wantWorks(t, func() string { return c.name }, got, ok, impl.Works{Cells: cells, Disk: cells}, true)
	}
}

func TestRecoversKnownByHand(t *testing.T) {
	wantRecovered(t, plainWorks(), []int{5, 0, 4, 0, 1000, 0})
	empty := worksOf(0)
	empty.Disk, empty.Cells = []int{1, 2, 3, 4, 5, 6}, []int{9, 9, 9, 9, 9, 9}
	wantRecovered(t, empty, []int{1, 2, 3, 4, 5, 6})
	for _, c := range []struct {
		name string
		log  []impl.Note
		want int
	}{
		{"no set", []impl.Note{noteBegin(1), noteDone(1), noteBegin(2)}, 500},
		{"several on one cell", []impl.Note{noteBegin(1), noteSet(1, 2, 0, 5), noteSet(1, 2, 5, 6), noteDone(1), noteBegin(2), noteSet(2, 2, 6, 7), noteDone(2)}, 7},
		{"the last one is open", []impl.Note{noteBegin(1), noteSet(1, 2, 0, 5), noteDone(1), noteBegin(2), noteSet(2, 2, 5, 7), noteSet(2, 2, 7, 8)}, 5},
		{"two open ones, undone from the last one back", []impl.Note{noteBegin(1), noteBegin(2), noteSet(1, 2, 3, 5), noteSet(2, 2, 5, 7), noteSet(1, 2, 7, 9)}, 3},
		{"likewise, the other one first", []impl.Note{noteBegin(1), noteBegin(2), noteSet(2, 2, 3, 5), noteSet(1, 2, 5, 7), noteSet(2, 2, 7, 9)}, 3},
		{"one open, one done behind it", []impl.Note{noteBegin(1), noteBegin(2), noteSet(1, 2, 3, 5), noteSet(2, 2, 5, 7), noteDone(2)}, 3},
		{"one done, its second time open", []impl.Note{noteBegin(1), noteSet(1, 2, 3, 5), noteDone(1), noteBegin(1)}, 5},
		{"likewise, with a set", []impl.Note{noteBegin(1), noteSet(1, 2, 3, 5), noteDone(1), noteBegin(1), noteSet(1, 2, 5, 8)}, 5},
		{"one dropped, its second time open", []impl.Note{noteBegin(1), noteSet(1, 2, 3, 5), noteSet(1, 2, 5, 3), noteDrop(1), noteBegin(1), noteSet(1, 2, 3, 8)}, 3},
		{"one open, its second time done", []impl.Note{noteBegin(1), noteSet(1, 2, 3, 5), noteBegin(1), noteSet(1, 2, 5, 8), noteDone(1)}, 8},
		{"one open twice", []impl.Note{noteBegin(1), noteSet(1, 2, 3, 5), noteBegin(1), noteSet(1, 2, 5, 8)}, 5},
		{"one who never began", []impl.Note{noteSet(1, 2, 3, 5)}, 5},
		{"one who never began, but was dropped", []impl.Note{noteSet(1, 2, 3, 5), noteDrop(1)}, 5},
		{"one who set ahead of its beginning", []impl.Note{noteSet(1, 2, 3, 5), noteBegin(1)}, 5},
		{"one who set behind its drop", []impl.Note{noteBegin(1), noteDrop(1), noteSet(1, 2, 3, 5)}, 5},
		{"dropped without its sets", []impl.Note{noteBegin(1), noteSet(1, 2, 3, 5), noteDrop(1)}, 5},
		{"what it was is not what it was", []impl.Note{noteBegin(1), noteSet(1, 2, 1000, 5)}, 1000},
	} {
		for _, sure := range []int{0, len(c.log)} {
			w := worksOf(sure, c.log...)
			w.Disk[2] = 500
			cells := []int{0, 0, c.want, 0, 0, 0}
			got, ok := impl.RecoverWorks(w)
			wantWorks(t, func() string { return c.name }, got, ok, impl.Works{Cells: cells, Disk: cells}, true)
			wantRecovered(t, w, cells)
		}
	}
}

// Fields that a step has no use for are zero.
func TestFieldsThatAWorkStepHasNoUseFor(t *testing.T) {
	for _, s := range []impl.WorkStep{stepBegin(4), stepDone(2), stepDrop(1), stepFlush(), stepCrash()} {
		if _, ok := impl.StepWorks(plainWorks(), s); !ok {
			t.Errorf("%s can't be done", workStepName(s))
		}
		for _, x := range append([]int{1, 2, 5, 9, 1000}, wrongNumbers...) {
			cell, is, who := s, s, s
			cell.Cell, is.Is, who.Who = x, x, x
			wantWorkRefused(t, plainWorks(), cell)
			wantWorkRefused(t, plainWorks(), is)
			if s.Kind >= impl.WkFlush {
				wantWorkRefused(t, plainWorks(), who)
			}
		}
	}
}

func TestWorkKindsThatAreNone(t *testing.T) {
	for _, kind := range append([]int{0, 7, 8, 100}, wrongNumbers...) {
		for who := range 4 {
			wantWorkRefused(t, plainWorks(), impl.WorkStep{Kind: kind, Who: who})
			wantWorkRefused(t, plainWorks(), impl.WorkStep{Kind: kind, Who: who, Cell: 3, Is: 4})
		}
	}
}

func TestWorksPlaysOfEveryManySteps(t *testing.T) {
	all := []impl.WorkStep{stepBegin(1), stepSet(1, 0, 5), stepFlush(), stepDone(1)}
	all = slices.Repeat(all, 20)
	for many := range 70 {
		if many > 60 {
			wantRefusedWorksPlay(t, all[:many])
			continue
		}
		_, did, ok := impl.PlayWorks(all[:many])
		wantBools(t, strconv.Itoa(many)+" steps", did, ok, trues(many), true)
	}
	for _, none := range [][]impl.WorkStep{nil, {}} {
		wantPlayedWorks(t, none, impl.NewWorks(), nil)
	}
	wantPlayedWorks(t, make([]impl.WorkStep, 60), impl.NewWorks(), make([]bool, 60))
	wantRefusedWorksPlay(t, make([]impl.WorkStep, 61))
	wantRefusedWorksPlay(t, slices.Repeat([]impl.WorkStep{stepFlush()}, 61))
	wantRefusedWorksPlay(t, make([]impl.WorkStep, 5000))
	// 60 notes: a log that is full.
	begins := []impl.WorkStep{stepBegin(1)}
	for i := range 59 {
		begins = append(begins, stepSet(1, 0, i+1))
	}
	wantPlayedWorks(t, begins, worksOf(0, append([]impl.Note{noteBegin(1)}, manySets(1, 0, 59)...)...), trues(60))
}

// What was not done changes nothing, wherever it stands among what was.
func TestWorkStepsNotDoneAmongThoseThatWere(t *testing.T) {
	done := []impl.WorkStep{stepBegin(1), stepBegin(2), stepSet(1, 0, 5), stepSet(2, 1, 6), stepFlush(), stepSet(1, 0, 7), stepDone(1), stepSet(2, 0, 9), stepDrop(2), stepBegin(2), stepSet(2, 4, 8)}
	want := impl.Works{Cells: []int{7, 0, 0, 0, 8, 0}, Disk: []int{5, 6, 0, 0, 0, 0}, Sure: 6, Open: []int{2},
		Log: []impl.Note{noteBegin(1), noteBegin(2), noteSet(1, 0, 0, 5), noteSet(2, 1, 0, 6), noteSet(1, 0, 5, 7), noteDone(1), noteSet(2, 0, 7, 9), noteSet(2, 0, 9, 7), noteSet(2, 1, 6, 0), noteDrop(2), noteBegin(2), noteSet(2, 4, 0, 8)}}
	wantPlayedWorks(t, done, want, trues(len(done)))
	for _, not := range []impl.WorkStep{{}, {Kind: 7}, stepBegin(0), stepBegin(10), stepSet(3, 5, 1), stepSet(1, 6, 1), stepSet(2, 0, 1001), stepDone(3), stepDrop(4), {Kind: 5, Who: 1}, {Kind: 6, Is: 1}, {Kind: 1, Who: 5, Cell: 1}} {
		for at := range len(done) + 1 {
			wantPlayedWorks(t, slices.Insert(slices.Clone(done), at, not), want, slices.Insert(trues(len(done)), at, false))
		}
	}
}

// Promise 19: of works that are not good nothing is told and nothing is done.
func TestWorksThatAreNotGood(t *testing.T) {
	for _, w := range badWorks() {
		for cell := -1; cell <= 6; cell++ {
			wantWhoHas(t, w, cell, 0)
		}
		for _, s := range []impl.WorkStep{{}, stepBegin(4), stepSet(1, 0, 5), stepSet(2, 3, 5), stepDone(1), stepDrop(2), stepDrop(9), stepFlush(), stepCrash()} {
			wantWorkRefused(t, w, s)
		}
		got, ok := impl.RecoverWorks(w)
		wantWorks(t, func() string { return worksName(w) + ": recovered" }, got, ok, impl.Works{}, false)
	}
}

// Promise 19: numbers that are far from all that can be, in every field at once.
func TestWorksOfWrongNumbers(t *testing.T) {
	for _, a := range append([]int{0, 1, 6, 1001}, wrongNumbers...) {
		for _, b := range append([]int{0, 1, 2}, wrongNumbers...) {
			for _, w := range []impl.Works{plainWorks(), impl.NewWorks(), worksOf(60, slices.Repeat([]impl.Note{noteBegin(1)}, 60)...)} {
				for kind := 1; kind <= 6; kind++ {
					for _, s := range []impl.WorkStep{{Kind: kind, Who: a, Cell: b, Is: a}, {Kind: kind, Who: 1, Cell: a, Is: b}, {Kind: kind, Who: b, Cell: a}, {Kind: b, Who: 1, Cell: a, Is: b}} {
						wantWorkStep(t, w, s)
					}
				}
			}
			w := spoiledWorks(func(w *impl.Works) {
				w.Cells[0], w.Disk[1], w.Sure, w.Open[0] = a, b, a, b
				w.Log[0] = impl.Note{Kind: a, Who: b, Cell: a, Was: b, Is: a}
				w.Log[1] = impl.Note{Kind: 2, Who: b, Cell: a, Was: b, Is: a}
			})
			wantGoodWorks(t, w, ruleGoodWorks(w))
			if !ruleGoodWorks(w) {
				wantWorkRefused(t, w, stepCrash())
				wantWorkRefused(t, w, stepDrop(2))
				wantWhoHas(t, w, 1, 0)
			}
			if !ruleGoodNotes(w.Log) {
				wantDoneBy(t, w.Log, nil, false)
			}
			wantPlayedWorks(t, []impl.WorkStep{{Kind: a, Who: b, Cell: a, Is: b}, {Kind: 6}, {Kind: 2, Who: a, Cell: b, Is: a}, {Kind: 4, Who: b, Is: math.MaxInt}}, impl.NewWorks(), []bool{false, true, false, false})
		}
	}
}

// shownWorks are works all of whose lists have more behind their lengths.
func shownWorks(w impl.Works) impl.Works {
	return impl.Works{Cells: longer(w.Cells, 7, 8), Disk: longer(w.Disk, 9, 1000), Log: longer(w.Log, noteBegin(8), noteSet(8, 1, 2, 3), noteDone(7)), Sure: w.Sure, Open: longer(w.Open, 8, 3)}
}

func heldNotes(l []impl.Note) heldList {
	return held(l, noteName, func(n impl.Note) impl.Note { return impl.Note{Kind: n.Kind + 1000} })
}

func heldWorks(w impl.Works) []heldList {
	return []heldList{heldNumbers(w.Cells), heldNumbers(w.Disk), heldNotes(w.Log), heldNumbers(w.Open)}
}

// worksAnswers asks all functions of works; the works, and the numbers, that they answer.
func worksAnswers(w impl.Works) ([]impl.Works, []int) {
	var l []impl.Works
	for _, s := range []impl.WorkStep{{}, stepBegin(1), stepBegin(4), stepBegin(8), stepSet(1, 0, 5), stepSet(2, 1, 900), stepSet(4, 5, 3), stepSet(9, 0, 1), stepDone(1), stepDone(5), stepDrop(1), stepDrop(2), stepDrop(4), stepDrop(5), stepFlush(), stepCrash()} {
		next, _ := impl.StepWorks(w, s)
		l = append(l, next)
	}
	recovered, _ := impl.RecoverWorks(w)
	impl.GoodWorks(w)
	for cell := -1; cell <= 6; cell++ {
		impl.WhoHas(w, cell)
	}
	done, _ := impl.DoneBy(w.Log)
	return append(l, recovered, impl.NewWorks()), done
}

// memoryWorks are good and bad ones.
func memoryWorks() []impl.Works {
	return append(goodWorks(), badWorks()...)
}

// Promise 19: nothing that is handed in is changed, good or not, nor what lies behind it.
func TestWorksFunctionsLeaveArgumentsAlone(t *testing.T) {
	for _, w := range memoryWorks() {
		shown := shownWorks(w)
		lists := heldWorks(shown)
		ahead := shownLists(lists)
		worksAnswers(shown)
		if behind := shownLists(lists); !slices.Equal(ahead, behind) {
			t.Errorf("%s: was %q, is %q", worksName(w), ahead, behind)
		}
	}
}

// Promise 19: each list of an answer has memory of its own, apart from that of what was handed in and of all other lists of it.
func TestWorksAnswersAreNewMemory(t *testing.T) {
	for _, w := range memoryWorks() {
		shown := shownWorks(w)
		answers, done := worksAnswers(shown)
		for _, answer := range answers {
			lists := heldWorks(answer)
			wantNoneShared(t, worksName(w), append(lists, heldWorks(shown)...), len(lists))
		}
		wantNoneShared(t, worksName(w), append(heldWorks(shown), heldNumbers(done)), 5)
	}
}

// Promise 19: what is answered twice is twice there.
func TestWorksAnswersAreApartFromEachOther(t *testing.T) {
	for _, w := range []impl.Works{plainWorks(), impl.NewWorks()} {
		var lists []heldList
		for range 2 {
			answers, done := worksAnswers(w)
			for _, answer := range answers {
				lists = append(lists, heldWorks(answer)...)
			}
			lists = append(lists, heldNumbers(done))
		}
		wantNoneShared(t, worksName(w), lists, len(lists))
	}
}

// wantWorksEmptyBehind asks that behind the lists of an answer there is just memory that is empty: no note that was cut away.
func wantWorksEmptyBehind(t *testing.T, w impl.Works) {
	t.Helper()
	for _, n := range w.Log[len(w.Log):cap(w.Log)] {
		if n != (impl.Note{}) {
			t.Errorf("%s: behind the log there is %s", worksName(w), noteName(n))
		}
	}
	for _, l := range [][]int{w.Cells, w.Disk, w.Open} {
		if behind := l[len(l):cap(l)]; slices.ContainsFunc(behind, func(x int) bool { return x != 0 }) {
			t.Errorf("%s: behind a list there is %v", worksName(w), behind)
		}
	}
}

// Promise 19: what lies behind a list's length is neither read nor handed out.
func TestWorksBehindTheLengthAreNotRead(t *testing.T) {
	for _, w := range memoryWorks() {
		shown := shownWorks(w)
		wantGoodWorks(t, shown, ruleGoodWorks(w))
		plain, plainDone := worksAnswers(w)
		answers, done := worksAnswers(shown)
		for i, answer := range answers {
			if !sameWorks(answer, plain[i]) {
				t.Errorf("%s: got %s, want %s", worksName(w), worksName(answer), worksName(plain[i]))
			}
			wantWorksEmptyBehind(t, answer)
		}
		wantNumbers(t, worksName(w)+": done by", done, true, plainDone, true)
		if behind := done[len(done):cap(done)]; slices.ContainsFunc(behind, func(x int) bool { return x != 0 }) {
			t.Errorf("%s: behind those that are done there is %v", worksName(w), behind)
		}
	}
}

// Works whose list has what it lacks behind its length are as those that lack it.
func TestWorksThatAreCut(t *testing.T) {
	for _, change := range []func(w *impl.Works){
		func(w *impl.Works) { w.Cells = w.Cells[:5] },
		func(w *impl.Works) { w.Disk = w.Disk[:5] },
		func(w *impl.Works) { w.Open = w.Open[:2] },
		func(w *impl.Works) { w.Log = w.Log[:12] },
		func(w *impl.Works) { w.Log = w.Log[:5] },
	} {
		w := spoiledWorks(change)
		wantGoodWorks(t, w, false)
		wantWorkRefused(t, w, stepFlush())
	}
	w := plainWorks()
	w.Log, w.Open, w.Sure = w.Log[:10], []int{2}, 10
	wantWorkDone(t, w, stepBegin(1), impl.Works{Cells: w.Cells, Disk: w.Disk, Log: append(slices.Clone(w.Log), noteBegin(1)), Sure: 10, Open: []int{1, 2}})
	wantDoneBy(t, w.Log[:3], nil, true)
	wantRecovered(t, w, []int{5, 0, 4, 0, 1000, 0})
	if n := w.Log[:13][12]; n != noteBegin(9) {
		t.Errorf("behind the log there is %s", noteName(n))
	}
}

// Promise 19: PlayWorks leaves its steps alone, also those behind their length, and what it answers is its own.
func TestPlayWorksLeavesItsStepsAlone(t *testing.T) {
	mixedWorkPlays(200, func(l []impl.WorkStep) {
		steps := longer(l, stepBegin(8), stepSet(8, 0, 77))
		arg := held(steps, workStepName, func(s impl.WorkStep) impl.WorkStep { return impl.WorkStep{Kind: s.Kind + 50} })
		ahead := arg.show()
		got, did, ok := impl.PlayWorks(steps)
		books, wantDid := playBook(l)
		wantBools(t, "did", did, ok, wantDid, true)
		wantPromise14(t, got, books[len(books)-1])
		if behind := arg.show(); behind != ahead {
			t.Errorf("was %q, is %q", ahead, behind)
		}
		wantWorksEmptyBehind(t, got)
		lists := append(heldWorks(got), heldBools(did))
		wantNoneShared(t, "played", append(lists, arg), len(lists))
	})
}

func TestWorksFunctionsAnswerAlikeTwice(t *testing.T) {
	for _, w := range memoryWorks() {
		again, doneAgain := worksAnswers(w)
		answers, done := worksAnswers(w)
		for i, answer := range answers {
			if !sameWorks(answer, again[i]) {
				t.Errorf("%s: got %s, then %s", worksName(w), worksName(answer), worksName(again[i]))
			}
		}
		wantNumbers(t, worksName(w)+": done by", done, true, doneAgain, true)
	}
}
