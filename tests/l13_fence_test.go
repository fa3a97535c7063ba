package tests

import (
	"math"
	"math/bits"
	"slices"
	"strconv"
	"testing"

	"loop.example/g00541/impl"
)

// ticket is a number and the place that has it.
type ticket struct {
	no    int
	place int
}

// letter is a paper told by its ends: a place asks a judge, or a judge promises a place.
type letter struct {
	promise bool
	place   int
	judge   int
	no      int
}

// court is a fence told apart: votes are bits, bit k for judge k; a ticket of number 0 is none.
type court struct {
	promised []ticket
	asked    [2]int
	votes    [2]uint
	won      []ticket
	line     []letter
	seen     int
	stored   []ticket
}

func votersIn(votes uint) []int {
	var l []int
	for k := range 64 {
		if votes>>k&1 == 1 {
			l = append(l, k)
		}
	}
	return l
}

func pairsOf(l []ticket) [][]int {
	var pairs [][]int
	for _, x := range l {
		pairs = append(pairs, []int{x.no, x.place})
	}
	return pairs
}

func paperOf(x letter) impl.Paper {
	if x.promise {
		return impl.Paper{Kind: 2, From: x.judge, To: x.place, No: x.no}
	}
	return impl.Paper{Kind: 1, From: x.place, To: x.judge, No: x.no}
}

// fenceOf writes a court out, field by field.
func fenceOf(c court) impl.Fence {
	f := impl.Fence{Place: c.asked[:], Votes: [][]int{votersIn(c.votes[0]), votersIn(c.votes[1])}, Won: pairsOf(c.won), Seen: c.seen, Stored: pairsOf(c.stored)}
	for _, x := range c.promised {
		given := x.place
		if x.no == 0 {
			given = -1
		}
		f.Judges, f.Given = append(f.Judges, x.no), append(f.Given, given)
	}
	for _, x := range c.line {
		f.Line = append(f.Line, paperOf(x))
	}
	return f
}

func within(n int, low int, high int) bool {
	return n >= low && n <= high
}

func ruleGoodPairs(l [][]int) bool {
	for _, pair := range l {
		if len(pair) != 2 || !within(pair[0], 1, 200) || !within(pair[1], 0, 1) {
			return false
		}
	}
	return len(l) <= 60
}

func ruleGoodVotes(many int, votes []int) bool {
	for i, judge := range votes {
		if !within(judge, 0, many-1) || slices.Max(append([]int{-1}, votes[:i]...)) >= judge {
			return false
		}
	}
	return true
}

func ruleGoodPaper(many int, p impl.Paper) bool {
	fromPlace := p.Kind == 1 && within(p.From, 0, 1) && within(p.To, 0, many-1)
	fromJudge := p.Kind == 2 && within(p.From, 0, many-1) && within(p.To, 0, 1)
	return (fromPlace || fromJudge) && within(p.No, 1, 200)
}

func ruleGoodFence(f impl.Fence) bool {
	many := len(f.Judges)
	if !within(many, 1, 5) || len(f.Given) != many || len(f.Place) != 2 || len(f.Votes) != 2 || len(f.Line) > 30 {
		return false
	}
	good := within(f.Seen, 0, 200) && ruleGoodPairs(f.Won) && ruleGoodPairs(f.Stored)
	for k, no := range f.Judges {
		good = good && within(no, 0, 200) && within(f.Given[k], -1, 1) && (no == 0) == (f.Given[k] == -1)
	}
	for k, no := range f.Place {
		good = good && within(no, 0, 200) && ruleGoodVotes(many, f.Votes[k])
	}
	for _, p := range f.Line {
		good = good && ruleGoodPaper(many, p)
	}
	return good
}

// sent has a letter behind all others, if there is room.
func (c court) sent(x letter) court {
	if len(c.line) < 30 {
		c.line = append(slices.Clone(c.line), x)
	}
	return c
}

func (c court) left(k int) court {
	c.line = slices.Concat(c.line[:k], c.line[k+1:])
	return c
}

func (c court) ask(place int, no int) (court, bool) {
	if place != 0 && place != 1 || no > 200 || no <= c.asked[place] {
		return court{}, false
	}
	c.asked[place], c.votes[place] = no, 0
	for judge := range c.promised {
		c = c.sent(letter{place: place, judge: judge, no: no})
	}
	return c, true
}

func (c court) came(x letter) (court, bool) {
	has := ticket{x.no, x.place}
	if !x.promise {
		if was := c.promised[x.judge]; x.no > was.no || was == has {
			c.promised = slices.Clone(c.promised)
			c.promised[x.judge] = has
			c = c.sent(letter{promise: true, place: x.place, judge: x.judge, no: x.no})
		}
		return c, true
	}
	if c.asked[x.place] != x.no {
		return c, true
	}
	c.votes[x.place] |= 1 << x.judge
	if bits.OnesCount(c.votes[x.place]) > len(c.promised)/2 && !slices.Contains(c.won, has) {
		if len(c.won) == 60 {
			return court{}, false
		}
		c.won = append(slices.Clone(c.won), has)
	}
	return c, true
}

func (c court) mayStore(place int) bool {
	return slices.Contains(c.won, ticket{c.asked[place], place}) && c.asked[place] >= c.seen
}

func (c court) store(place int) (court, bool) {
	if place != 0 && place != 1 || !c.mayStore(place) || len(c.stored) == 60 {
		return court{}, false
	}
	c.seen = c.asked[place]
	c.stored = append(slices.Clone(c.stored), ticket{c.seen, place})
	return c, true
}

// step tells what a fence is behind a step.
func (c court) step(s impl.FenceStep) (court, bool) {
	switch {
	case s.Kind == 1:
		return c.ask(s.K, s.No)
	case s.No != 0:
		return court{}, false
	case s.Kind == 5:
		return c.store(s.K)
	case s.K < 0 || s.K >= len(c.line):
		return court{}, false
	case s.Kind == 2:
		return c.left(s.K).came(c.line[s.K])
	case s.Kind == 3:
		return c.left(s.K), true
	case s.Kind == 4 && len(c.line) < 30:
		return c.sent(c.line[s.K]), true
	}
	return court{}, false
}

func newCourt(judges int) court {
	return court{promised: make([]ticket, judges)}
}

// playCourt has what a fence is behind all steps, and whether each was done.
func playCourt(judges int, l []impl.FenceStep) (court, []bool) {
	c, did := newCourt(judges), []bool{}
	for _, s := range l {
		next, ok := c.step(s)
		if ok {
			c = next
		}
		did = append(did, ok)
	}
	return c, did
}

func paperName(p impl.Paper) string {
	return strconv.Itoa(p.Kind) + ":" + strconv.Itoa(p.From) + ">" + strconv.Itoa(p.To) + "#" + strconv.Itoa(p.No)
}

// fenceName tells all that a fence has, also one that is not good.
func fenceName(f impl.Fence) string {
	return "judges " + numbersName(f.Judges) + " given " + numbersName(f.Given) + " place " + numbersName(f.Place) + " votes " + namesOf(f.Votes, numbersName) +
		" won " + namesOf(f.Won, numbersName) + " line " + namesOf(f.Line, paperName) + " seen " + strconv.Itoa(f.Seen) + " stored " + namesOf(f.Stored, numbersName)
}

func fenceStepName(s impl.FenceStep) string {
	return strconv.Itoa(s.Kind) + " of " + strconv.Itoa(s.K) + " no " + strconv.Itoa(s.No)
}

func wantFence(t *testing.T, what string, got impl.Fence, ok bool, want impl.Fence, wantOk bool) {
	t.Helper()
	if fenceName(got) != fenceName(want) || ok != wantOk {
		t.Errorf("%s: got %s %v, want %s %v", what, fenceName(got), ok, fenceName(want), wantOk)
	}
	if ok && (!impl.GoodFence(got) || !ruleGoodFence(got)) {
		t.Errorf("%s: %s is not good", what, fenceName(got))
	}
}

// wantFenceStep holds a step of a fence against the rule, and has what came of it.
func wantFenceStep(t *testing.T, c court, s impl.FenceStep) (court, bool) {
	t.Helper()
	f := fenceOf(c)
	got, ok := impl.StepFence(f, s)
	next, wantOk := c.step(s)
	want := impl.Fence{}
	if wantOk {
		want = fenceOf(next)
	}
	wantFence(t, fenceName(f)+": step "+fenceStepName(s), got, ok, want, wantOk)
	return next, wantOk
}

// wantFenceDone and wantFenceRefused are for what is told by hand.
func wantFenceDone(t *testing.T, c court, s impl.FenceStep, want court) {
	t.Helper()
	got, ok := impl.StepFence(fenceOf(c), s)
	wantFence(t, fenceName(fenceOf(c))+": step "+fenceStepName(s), got, ok, fenceOf(want), true)
}

func wantFenceRefused(t *testing.T, f impl.Fence, s impl.FenceStep) {
	t.Helper()
	got, ok := impl.StepFence(f, s)
	wantFence(t, fenceName(f)+": step "+fenceStepName(s), got, ok, impl.Fence{}, false)
}

func wantGoodFence(t *testing.T, f impl.Fence, want bool) {
	t.Helper()
	if impl.GoodFence(f) != want || ruleGoodFence(f) != want {
		t.Errorf("%s: good is %v, by the rule %v, want %v", fenceName(f), impl.GoodFence(f), ruleGoodFence(f), want)
	}
}

// wantToldOfFence holds what is told of a good fence against the rules.
func wantToldOfFence(t *testing.T, c court) {
	t.Helper()
	f := fenceOf(c)
	wantGoodFence(t, f, true)
	for no := -1; no <= 202; no++ {
		at := slices.IndexFunc(c.won, func(x ticket) bool { return x.no == no })
		want := 0
		if at >= 0 {
			want = c.won[at].place
		}
		got, ok := impl.WinnerOf(f, no)
		wantNumber(t, fenceName(f)+": winner of "+strconv.Itoa(no), got, ok, want, at >= 0)
	}
	for place := range 2 {
		got, ok := impl.MayStore(f, place)
		wantBool(t, fenceName(f)+": may store "+strconv.Itoa(place), got, ok, c.mayStore(place), true)
	}
	for _, place := range append([]int{2, 3, 5}, wrongNumbers...) {
		got, ok := impl.MayStore(f, place)
		wantBool(t, fenceName(f)+": may store "+strconv.Itoa(place), got, ok, false, false)
	}
}

func wantPlayedFence(t *testing.T, judges int, l []impl.FenceStep, want court, wantDid []bool) {
	t.Helper()
	got, did, ok := impl.PlayFence(judges, l)
	what := strconv.Itoa(judges) + " judges, play of " + strconv.Itoa(len(l)) + " steps " + namesOf(l, fenceStepName)
	wantFence(t, what, got, ok, fenceOf(want), true)
	wantBools(t, what, did, ok, wantDid, true)
}

func wantRefusedFencePlay(t *testing.T, judges int, l []impl.FenceStep) {
	t.Helper()
	got, did, ok := impl.PlayFence(judges, l)
	what := strconv.Itoa(judges) + " judges, " + strconv.Itoa(len(l)) + " steps"
	wantFence(t, what, got, ok, impl.Fence{}, false)
	wantBools(t, what, did, ok, nil, false)
}

// letters are papers of one place and one number, to or from some judges.
func letters(promise bool, place int, no int, judges ...int) []letter {
	var l []letter
	for _, judge := range judges {
		l = append(l, letter{promise, place, judge, no})
	}
	return l
}

func asking(place int, no int, judges ...int) []letter {
	return letters(false, place, no, judges...)
}

func promising(place int, no int, judges ...int) []letter {
	return letters(true, place, no, judges...)
}

func fnAsk(place int, no int) impl.FenceStep {
	return impl.FenceStep{Kind: impl.FnAsk, K: place, No: no}
}

// fnSteps are steps of one kind, one for each K.
func fnSteps(kind int, ks ...int) []impl.FenceStep {
	var l []impl.FenceStep
	for _, k := range ks {
		l = append(l, impl.FenceStep{Kind: kind, K: k})
	}
	return l
}

func trues(many int) []bool {
	return slices.Repeat([]bool{true}, many)
}

// plainCourt has something of all: place 0 has won 3 and stored under it, place 1 asks for 5 and has one promise.
func plainCourt() court {
	return court{promised: []ticket{{5, 1}, {3, 0}, {}}, asked: [2]int{3, 5}, votes: [2]uint{3, 1}, won: []ticket{{2, 1}, {3, 0}}, seen: 3, stored: []ticket{{2, 1}, {3, 0}},
		line: slices.Concat(asking(1, 5, 1, 2), promising(1, 5, 0), asking(0, 3, 2), promising(0, 2, 1))}
}

// edgeCourts are good ones that lie at what the chapter names.
func edgeCourts() []court {
	l := []court{plainCourt()}
	for judges := 1; judges <= 5; judges++ {
		c := newCourt(judges)
		l = append(l, c)
		c.promised = slices.Repeat([]ticket{{200, 1}}, judges)
		c.asked, c.votes, c.seen = [2]int{200, 200}, [2]uint{1<<judges - 1, 1 << (judges - 1)}, 200
		l = append(l, c)
		c.won, c.stored = slices.Repeat([]ticket{{200, 0}}, 60), slices.Repeat([]ticket{{1, 1}, {200, 0}}, 30)
		l = append(l, c)
		c.won, c.stored = c.won[:59], c.stored[:59]
		for _, long := range []int{1, 25, 26, 29, 30} {
			c.line = slices.Repeat(slices.Concat(asking(0, 1, judges-1), promising(1, 200, judges-1)), 15)[:long]
			l = append(l, c)
		}
		c = newCourt(judges)
		c.asked, c.votes, c.line = [2]int{1, 0}, [2]uint{0, 1}, slices.Repeat(promising(0, 1, 0), 30)
		l = append(l, c)
	}
	return l
}

func someTickets(n *numbers, most int, high int) []ticket {
	var l []ticket
	for range n.below(most + 1) {
		l = append(l, ticket{1 + n.below(high), n.below(2)})
	}
	return l
}

// someCourt is any good fence; where high is small most papers meet what they speak of.
func someCourt(n *numbers, judges int, high int) court {
	c := newCourt(judges)
	for k := range judges {
		if no := n.below(high + 1); no > 0 {
			c.promised[k] = ticket{no, n.below(2)}
		}
	}
	for place := range 2 {
		c.asked[place], c.votes[place] = n.below(high+1), uint(n.below(1<<judges))
	}
	c.won, c.stored, c.seen = someTickets(n, []int{0, 2, 6, 60}[n.below(4)], high), someTickets(n, []int{0, 3, 60}[n.below(3)], high), n.below(high+1)
	for range []int{0, 1, 5, 28, 29, 30}[n.below(6)] {
		c.line = append(c.line, letter{n.below(2) == 0, n.below(2), n.below(judges), 1 + n.below(high)})
	}
	return c
}

func goodCourts() []court {
	l := edgeCourts()
	n := &numbers{seed: 1313}
	for i := range 240 {
		l = append(l, someCourt(n, 1+i%5, []int{1, 2, 3, 6, 200}[n.below(5)]))
	}
	return l
}

// spoiledFence is the plain fence, changed.
func spoiledFence(change func(f *impl.Fence)) impl.Fence {
	f := fenceOf(plainCourt())
	change(&f)
	return f
}

// badPapers can't be on a line where there are three judges.
func badPapers() []impl.Paper {
	l := []impl.Paper{{}, {Kind: 0, No: 1}, {Kind: 3, No: 1}, {Kind: 1}, {Kind: 2}, {Kind: 1, No: 201}, {Kind: 2, No: 201}, {Kind: 1, From: 2, No: 1}, {Kind: 1, From: 2, To: 1, No: 1},
		{Kind: 1, From: -1, No: 1}, {Kind: 1, To: 3, No: 1}, {Kind: 1, To: -1, No: 1}, {Kind: 2, From: 3, No: 1}, {Kind: 2, From: -1, No: 1}, {Kind: 2, To: 2, No: 1}, {Kind: 2, From: 1, To: 2, No: 1}, {Kind: 2, To: -1, No: 1}}
	for _, wrong := range wrongNumbers {
		l = append(l, impl.Paper{Kind: wrong, No: 1}, impl.Paper{Kind: 1, From: wrong, No: 1}, impl.Paper{Kind: 1, To: wrong, No: 1}, impl.Paper{Kind: 1, No: wrong},
			impl.Paper{Kind: 2, From: wrong, No: 1}, impl.Paper{Kind: 2, To: wrong, No: 1}, impl.Paper{Kind: 2, No: wrong})
	}
	return l
}

func badPairs() [][]int {
	l := [][]int{nil, {}, {1}, {0}, {1, 0, 0}, {1, 1, 0, 1}, {0, 0}, {0, 1}, {201, 0}, {201, 1}, {1, 2}, {1, -1}, {200, 2}, {-1, 0}}
	for _, wrong := range wrongNumbers {
		l = append(l, []int{wrong, 0}, []int{1, wrong}, []int{wrong, wrong}, []int{wrong})
	}
	return l
}

// badFences are not good, each for one reason.
func badFences() []impl.Fence {
	l := []impl.Fence{{}, fenceOf(newCourt(0)), fenceOf(newCourt(6)), fenceOf(newCourt(100)), spoiledFence(func(f *impl.Fence) { f.Judges = f.Judges[:2] }),
		spoiledFence(func(f *impl.Fence) { f.Given = f.Given[:2] }), spoiledFence(func(f *impl.Fence) { f.Given = append(f.Given, -1) }), spoiledFence(func(f *impl.Fence) { f.Given = nil }),
		spoiledFence(func(f *impl.Fence) { f.Judges = append(f.Judges, 0) }), spoiledFence(func(f *impl.Fence) { f.Judges = nil }), spoiledFence(func(f *impl.Fence) { f.Judges, f.Given = nil, nil }),
		spoiledFence(func(f *impl.Fence) { f.Given[0] = -1 }), spoiledFence(func(f *impl.Fence) { f.Given[2] = 0 }), spoiledFence(func(f *impl.Fence) { f.Given[2] = 1 }), spoiledFence(func(f *impl.Fence) { f.Given[0] = 2 }),
		spoiledFence(func(f *impl.Fence) { f.Given[2] = -2 }), spoiledFence(func(f *impl.Fence) { f.Judges[0] = 0 }), spoiledFence(func(f *impl.Fence) { f.Judges[1] = 201 }), spoiledFence(func(f *impl.Fence) { f.Judges[2] = 1 }),
		spoiledFence(func(f *impl.Fence) { f.Judges[2] = -1 }), spoiledFence(func(f *impl.Fence) { f.Seen = 201 }), spoiledFence(func(f *impl.Fence) { f.Seen = -1 })}
	for _, places := range [][]int{nil, {}, {3}, {3, 5, 0}, {201, 5}, {3, 201}, {-1, 5}, {3, -1}} {
		l = append(l, spoiledFence(func(f *impl.Fence) { f.Place = places }))
	}
	for _, votes := range [][][]int{nil, {}, {{0}}, {nil}, {{0}, {1}, nil}, {nil, nil, nil}, {{0, 0}, nil}, {nil, {1, 1}}, {{1, 0}, nil}, {nil, {2, 1}}, {{0, 2, 1}, nil}, {{3}, nil}, {nil, {3}}, {{-1}, nil}, {nil, {-1, 0}}, {{0, 1, 2, 3}, nil}, {nil, {0, 1, 2, 2}}} {
		l = append(l, spoiledFence(func(f *impl.Fence) { f.Votes = votes }))
	}
	for _, pair := range badPairs() {
		for at := range 3 {
			l = append(l, spoiledFence(func(f *impl.Fence) { f.Won = slices.Insert(f.Won, at, pair) }), spoiledFence(func(f *impl.Fence) { f.Stored = slices.Insert(f.Stored, at, pair) }))
		}
	}
	for _, p := range badPapers() {
		for _, at := range []int{0, 2, 5} {
			l = append(l, spoiledFence(func(f *impl.Fence) { f.Line = slices.Insert(f.Line, at, p) }))
		}
	}
	for _, many := range []int{61, 62, 100, 500} {
		pairs := slices.Repeat([][]int{{1, 1}}, many)
		l = append(l, spoiledFence(func(f *impl.Fence) { f.Won = pairs }), spoiledFence(func(f *impl.Fence) { f.Stored = pairs }),
			spoiledFence(func(f *impl.Fence) { f.Line = slices.Repeat([]impl.Paper{{Kind: 1, No: 1}}, many-30) }))
	}
	for _, wrong := range wrongNumbers {
		l = append(l, spoiledFence(func(f *impl.Fence) { f.Seen = wrong }), spoiledFence(func(f *impl.Fence) { f.Judges[0] = wrong }), spoiledFence(func(f *impl.Fence) { f.Judges[2] = wrong }), spoiledFence(func(f *impl.Fence) { f.Given[0] = wrong }),
			spoiledFence(func(f *impl.Fence) { f.Place[0] = wrong }), spoiledFence(func(f *impl.Fence) { f.Place[1] = wrong }), spoiledFence(func(f *impl.Fence) { f.Votes[0][0] = wrong }), spoiledFence(func(f *impl.Fence) { f.Votes[1][0] = wrong }))
		if wrong != -1 {
			l = append(l, spoiledFence(func(f *impl.Fence) { f.Given[2] = wrong }))
		}
	}
	return l
}

func TestFenceConstants(t *testing.T) {
	if impl.MaxJudges != 5 || impl.MaxFenceSteps != 100 || impl.FnAsk != 1 || impl.FnTake != 2 || impl.FnLose != 3 || impl.FnTwice != 4 || impl.FnStore != 5 {
		t.Error("a constant is not the document's")
	}
}

func TestNewFence(t *testing.T) {
	for _, judges := range append([]int{0, 1, 2, 3, 4, 5, 6, 7, 30, 200}, wrongNumbers...) {
		got, ok := impl.NewFence(judges)
		if judges < 1 || judges > 5 {
			wantFence(t, strconv.Itoa(judges)+" judges", got, ok, impl.Fence{}, false)
			wantRefusedFencePlay(t, judges, nil)
			wantRefusedFencePlay(t, judges, []impl.FenceStep{fnAsk(0, 1)})
			continue
		}
		wantFence(t, strconv.Itoa(judges)+" judges", got, ok, fenceOf(newCourt(judges)), true)
	}
	three, ok := impl.NewFence(3)
	wantFence(t, "three judges", three, ok, impl.Fence{Judges: []int{0, 0, 0}, Given: []int{-1, -1, -1}, Place: []int{0, 0}, Votes: [][]int{nil, nil}}, true)
}

func TestGoodFences(t *testing.T) {
	for _, c := range goodCourts() {
		wantGoodFence(t, fenceOf(c), true)
	}
	for _, f := range badFences() {
		wantGoodFence(t, f, false)
	}
}

// Each number of the plain fence, one by one, at all that it may be and may not be.
func TestGoodFenceOfEveryNumber(t *testing.T) {
	for _, no := range append(fromTo(-3, 205), wrongNumbers...) {
		some, more := within(no, 1, 200), within(no, 0, 200)
		for place := range 2 {
			wantGoodFence(t, spoiledFence(func(f *impl.Fence) { f.Judges[0], f.Given[0] = no, place }), some)
			wantGoodFence(t, spoiledFence(func(f *impl.Fence) { f.Place[place] = no }), more)
			wantGoodFence(t, spoiledFence(func(f *impl.Fence) { f.Won[place] = []int{no, place} }), some)
			wantGoodFence(t, spoiledFence(func(f *impl.Fence) { f.Stored[place] = []int{no, place} }), some)
			wantGoodFence(t, spoiledFence(func(f *impl.Fence) { f.Won[0][1] = no }), within(no, 0, 1))
			wantGoodFence(t, spoiledFence(func(f *impl.Fence) { f.Stored[1][1] = no }), within(no, 0, 1))
		}
		wantGoodFence(t, spoiledFence(func(f *impl.Fence) { f.Judges[0], f.Given[0] = no, -1 }), no == 0)
		wantGoodFence(t, spoiledFence(func(f *impl.Fence) { f.Given[0] = no }), within(no, 0, 1))
		wantGoodFence(t, spoiledFence(func(f *impl.Fence) { f.Given[2] = no }), no == -1)
		wantGoodFence(t, spoiledFence(func(f *impl.Fence) { f.Seen = no }), more)
		wantGoodFence(t, spoiledFence(func(f *impl.Fence) { f.Votes[1][0] = no }), within(no, 0, 2))
		for at := range 5 {
			wantGoodFence(t, spoiledFence(func(f *impl.Fence) { f.Line[at].No = no }), some)
		}
	}
}

// Papers of each kind, between all ends, for each many of judges: a place and a judge are not told apart by their number alone.
func TestGoodFenceOfEveryPaper(t *testing.T) {
	for judges := 1; judges <= 5; judges++ {
		for kind := -1; kind <= 4; kind++ {
			for from := -2; from <= 7; from++ {
				for to := -2; to <= 7; to++ {
					f := fenceOf(newCourt(judges))
					f.Line = []impl.Paper{{Kind: kind, From: from, To: to, No: 7}}
					asks := kind == 1 && from >= 0 && from < 2 && to >= 0 && to < judges
					promises := kind == 2 && to >= 0 && to < 2 && from >= 0 && from < judges
					wantGoodFence(t, f, asks || promises)
				}
			}
		}
	}
}

func TestGoodFenceOfEveryLength(t *testing.T) {
	for many := range 70 {
		pairs := slices.Repeat([][]int{{200, 1}}, many)
		wantGoodFence(t, spoiledFence(func(f *impl.Fence) { f.Won = pairs }), many <= 60)
		wantGoodFence(t, spoiledFence(func(f *impl.Fence) { f.Stored = pairs }), many <= 60)
		wantGoodFence(t, spoiledFence(func(f *impl.Fence) { f.Line = slices.Repeat([]impl.Paper{{Kind: 2, From: 2, To: 1, No: 200}}, many) }), many <= 30)
		wantGoodFence(t, fenceOf(newCourt(many)), many >= 1 && many <= 5)
		wantGoodFence(t, spoiledFence(func(f *impl.Fence) { f.Place = make([]int, many) }), many == 2)
		wantGoodFence(t, spoiledFence(func(f *impl.Fence) { f.Votes = make([][]int, many) }), many == 2)
		wantGoodFence(t, spoiledFence(func(f *impl.Fence) { f.Given = slices.Repeat([]int{-1}, many); f.Judges = make([]int, 3) }), many == 3)
	}
}

// All lists of votes of at most four judges, also of those that there are not.
func TestVotesOfEveryForm(t *testing.T) {
	eachList(4, fromTo(-1, 6), func(votes []int) {
		for many := -1; many <= 7; many++ {
			good := within(many, 1, 5) && ruleGoodVotes(many, votes)
			got, ok := impl.IsMajority(many, votes)
			wantBool(t, strconv.Itoa(many)+" judges, votes "+numbersName(votes), got, ok, good && len(votes) > many/2, good)
		}
		if len(votes) < 4 {
			for place := range 2 {
				f := fenceOf(newCourt(4))
				f.Votes[place] = votes
				wantGoodFence(t, f, ruleGoodVotes(4, votes))
			}
		}
	})
}

func TestMajoritiesKnownByHand(t *testing.T) {
	for _, c := range []struct {
		many  int
		least int
	}{{1, 1}, {2, 2}, {3, 2}, {4, 3}, {5, 3}} {
		for votes := range uint(1 << c.many) {
			got, ok := impl.IsMajority(c.many, votersIn(votes))
			wantBool(t, strconv.Itoa(c.many)+" judges, votes "+numbersName(votersIn(votes)), got, ok, bits.OnesCount(votes) >= c.least, true)
		}
	}
	for _, c := range []struct {
		many  int
		votes []int
	}{{0, nil}, {6, nil}, {6, []int{0, 1, 2, 3}}, {5, []int{0, 1, 5}}, {3, []int{-1, 0, 1}}, {3, []int{0, 0}}, {3, []int{0, 1, 1}}, {3, []int{2, 1}}, {5, []int{0, 1, 2, 4, 3}}, {1, []int{0, 0}}, {1, []int{1}}, {5, fromTo(0, 5)}} {
		got, ok := impl.IsMajority(c.many, c.votes)
		wantBool(t, strconv.Itoa(c.many)+" judges, votes "+numbersName(c.votes), got, ok, false, false)
	}
	for _, wrong := range wrongNumbers {
		for _, votes := range [][]int{nil, {0}, {0, 1, 2}, {wrong}} {
			got, ok := impl.IsMajority(wrong, votes)
			wantBool(t, "wrong many", got, ok, false, false)
		}
		for many := 1; many <= 5; many++ {
			got, ok := impl.IsMajority(many, []int{wrong})
			wantBool(t, "wrong votes", got, ok, false, false)
			got, ok = impl.IsMajority(many, []int{0, wrong})
			wantBool(t, "wrong votes", got, ok, false, false)
		}
	}
}

func TestFencesAreToldByTheRules(t *testing.T) {
	for _, c := range goodCourts() {
		wantToldOfFence(t, c)
	}
}

func TestWinnersKnownByHand(t *testing.T) {
	c := newCourt(3)
	c.won = []ticket{{4, 1}, {2, 0}, {4, 0}, {200, 0}, {1, 1}, {1, 1}}
	f := fenceOf(c)
	for no, want := range map[int]int{1: 1, 2: 0, 4: 1, 200: 0} {
		got, ok := impl.WinnerOf(f, no)
		wantNumber(t, "winner of "+strconv.Itoa(no), got, ok, want, true)
	}
	for _, no := range append([]int{0, 3, 5, 199, 201}, wrongNumbers...) {
		got, ok := impl.WinnerOf(f, no)
		wantNumber(t, "winner of "+strconv.Itoa(no), got, ok, 0, false)
		got, ok = impl.WinnerOf(fenceOf(newCourt(1)), no)
		wantNumber(t, "winner of "+strconv.Itoa(no), got, ok, 0, false)
	}
	// Who stored and who was promised all has not won by that.
	c = newCourt(1)
	c.promised, c.asked, c.votes, c.stored = []ticket{{7, 1}}, [2]int{0, 7}, [2]uint{0, 1}, []ticket{{7, 1}}
	got, ok := impl.WinnerOf(fenceOf(c), 7)
	wantNumber(t, "winner of 7", got, ok, 0, false)
}

func TestMayStoreKnownByHand(t *testing.T) {
	for _, c := range []struct {
		no   int
		won  []ticket
		seen int
		want bool
	}{
		{3, []ticket{{3, 1}}, 0, true},
		{3, []ticket{{3, 1}}, 2, true},
		{3, []ticket{{3, 1}}, 3, true},
		{3, []ticket{{3, 1}}, 4, false},
		{3, []ticket{{3, 1}}, 200, false},
		{3, []ticket{{3, 0}}, 0, false},
		{3, []ticket{{3, 0}, {3, 1}}, 3, true},
		{3, []ticket{{2, 1}, {4, 1}}, 0, false},
		{3, []ticket{{4, 0}, {3, 1}, {5, 1}}, 1, true},
		{3, nil, 0, false},
		{0, nil, 0, false},
		{0, []ticket{{1, 1}, {200, 1}}, 0, false},
		{200, []ticket{{200, 1}}, 200, true},
		{1, []ticket{{1, 1}}, 1, true},
	} {
		f := newCourt(2)
		f.asked, f.won, f.seen = [2]int{9, c.no}, c.won, c.seen
		got, ok := impl.MayStore(fenceOf(f), 1)
		wantBool(t, fenceName(fenceOf(f)), got, ok, c.want, true)
		got, ok = impl.MayStore(fenceOf(f), 0)
		wantBool(t, fenceName(fenceOf(f)), got, ok, false, true)
	}
}

// Every kind, also those that are none, every K, also those that are none, and numbers of use and of none.
func TestFenceStepsAreTheRule(t *testing.T) {
	for _, c := range goodCourts() {
		for kind := -1; kind <= 7; kind++ {
			nos := []int{0, 1}
			if kind == 1 {
				nos = []int{-1, 0, 1, c.asked[0], c.asked[0] + 1, c.asked[1] - 1, c.asked[1], c.asked[1] + 1, 199, 200, 201}
			}
			for k := -2; k <= max(len(c.line), 2)+1; k++ {
				for _, no := range nos {
					wantFenceStep(t, c, impl.FenceStep{Kind: kind, K: k, No: no})
				}
			}
		}
	}
}

// wantFenceKept asks that a step took nothing back: no promise of a judge, nothing that was won, seen or stored.
func wantFenceKept(t *testing.T, ahead impl.Fence, s impl.FenceStep, behind impl.Fence) {
	t.Helper()
	what := fenceName(ahead) + ": step " + fenceStepName(s)
	if behind.Seen < ahead.Seen || len(behind.Judges) != len(ahead.Judges) {
		t.Errorf("%s: is %s", what, fenceName(behind))
		return
	}
	for k, no := range ahead.Judges {
		if behind.Judges[k] < no || behind.Judges[k] == no && behind.Given[k] != ahead.Given[k] {
			t.Errorf("%s: a promise was taken back: %s", what, fenceName(behind))
		}
	}
	for place, no := range ahead.Place {
		if behind.Place[place] < no {
			t.Errorf("%s: place %d asks for less: %s", what, place, fenceName(behind))
		}
	}
	beginsWith := func(l [][]int, with [][]int) bool {
		return len(l) >= len(with) && slices.EqualFunc(l[:len(with)], with, slices.Equal)
	}
	if !beginsWith(behind.Won, ahead.Won) || !beginsWith(behind.Stored, ahead.Stored) {
		t.Errorf("%s: what was won or stored was taken back: %s", what, fenceName(behind))
	}
}

// wantPromise13 asks of a fence that was played that no number is won twice, and that what is stored was won, under numbers that never fall.
func wantPromise13(t *testing.T, f impl.Fence) {
	t.Helper()
	what := fenceName(f)
	winner := map[int]int{}
	for _, pair := range f.Won {
		if _, is := winner[pair[0]]; is {
			t.Errorf("%s: %d is won twice", what, pair[0])
		}
		winner[pair[0]] = pair[1]
		got, ok := impl.WinnerOf(f, pair[0])
		wantNumber(t, what+": winner", got, ok, pair[1], true)
	}
	last := 0
	for _, pair := range f.Stored {
		place, is := winner[pair[0]]
		if !is || place != pair[1] || pair[0] < last {
			t.Errorf("%s: %v should not be stored", what, pair)
		}
		last = pair[0]
	}
	if f.Seen != last {
		t.Errorf("%s: the last number stored is %d", what, last)
	}
}

// playFenceOn plays step by step; it has the last fence, and whether both places had promises of one number at some step.
func playFenceOn(t *testing.T, judges int, l []impl.FenceStep) (impl.Fence, bool) {
	t.Helper()
	f, _ := impl.NewFence(judges)
	both := false
	for _, s := range l {
		next, ok := impl.StepFence(f, s)
		if !ok {
			continue
		}
		wantFenceKept(t, f, s, next)
		f = next
		both = both || f.Place[0] == f.Place[1] && len(f.Votes[0]) > 0 && len(f.Votes[1]) > 0
	}
	return f, both
}

// someFenceStep is most often one that can be done; both places ask for numbers that are near each other.
func someFenceStep(n *numbers, c court, lossy int) impl.FenceStep {
	kind := []int{2, 2, 2, 2, 5, 1, 2, 2, 5, 3, 4, 3, 4, 0, 6}[n.below(9+min(lossy, 6))]
	switch {
	case n.below(25) == 0:
		return impl.FenceStep{Kind: kind, K: n.below(40) - 3, No: n.below(5) - 1}
	case kind == 1:
		place := n.below(2)
		return fnAsk(place, max(c.asked[place]+1, c.asked[1-place]+[]int{-1, 0, 0, 0, 1}[n.below(5)]))
	case kind == 5:
		return impl.FenceStep{Kind: 5, K: n.below(2)}
	case len(c.line) == 0:
		return fnAsk(n.below(2), max(c.asked[0], c.asked[1])+1)
	}
	return impl.FenceStep{Kind: kind, K: n.below(len(c.line))}
}

func someFencePlay(n *numbers, judges int, many int, lossy int) []impl.FenceStep {
	c := newCourt(judges)
	var l []impl.FenceStep
	for range many {
		s := someFenceStep(n, c, lossy)
		if next, ok := c.step(s); ok {
			c = next
		}
		l = append(l, s)
	}
	return l
}

// mixedFencePlays are plays of all lengths, of all many judges, over lines that lose and double more and less.
func mixedFencePlays(each int, show func(judges int, l []impl.FenceStep)) {
	n := &numbers{seed: 1331}
	for i := range each {
		judges := 1 + i%5
		show(judges, someFencePlay(n, judges, []int{0, 1, 20, 99, 100, 100}[n.below(6)], n.below(7)))
	}
}

// Promise 13: whatever the line loses, doubles and mixes, and whoever asks for what.
func TestEachNumberIsWonByOnePlaceAtMost(t *testing.T) {
	bothWon, bothStored, sameAsked := 0, 0, 0
	mixedFencePlays(1500, func(judges int, l []impl.FenceStep) {
		f, _, ok := impl.PlayFence(judges, l)
		if !ok {
			t.Fatalf("%d judges, %d steps: no play", judges, len(l))
		}
		wantPromise13(t, f)
		last, both := playFenceOn(t, judges, l)
		wantFence(t, "step by step", last, true, f, true)
		ofPlace := func(place int) func([]int) bool { return func(pair []int) bool { return pair[1] == place } }
		if slices.ContainsFunc(f.Won, ofPlace(0)) && slices.ContainsFunc(f.Won, ofPlace(1)) {
			bothWon++
		}
		if slices.ContainsFunc(f.Stored, ofPlace(0)) && slices.ContainsFunc(f.Stored, ofPlace(1)) {
			bothStored++
		}
		if both {
			sameAsked++
		}
	})
	if bothWon < 200 || bothStored < 80 || sameAsked < 50 {
		t.Errorf("both won in %d plays, both stored in %d, both had votes for one number in %d: they try too little", bothWon, bothStored, sameAsked)
	}
}

// Promise 13 at each step of a play.
func TestFencesAtEachStep(t *testing.T) {
	mixedFencePlays(60, func(judges int, l []impl.FenceStep) {
		for many := range len(l) + 1 {
			f, did, ok := impl.PlayFence(judges, l[:many])
			if !ok || len(did) != many {
				t.Fatalf("%d judges, %d steps: told %v %v", judges, many, did, ok)
			}
			wantPromise13(t, f)
		}
	})
}

func TestFencePlaysAreTheRule(t *testing.T) {
	mixedFencePlays(600, func(judges int, l []impl.FenceStep) {
		c, did := playCourt(judges, l)
		wantPlayedFence(t, judges, l, c, did)
		wantToldOfFence(t, c)
	})
}

// fenceStepsFrom does all steps from one fence, with numbers up to high; it has those fences that were not seen ahead.
func fenceStepsFrom(t *testing.T, c court, steps []impl.FenceStep, seen map[string]court) []court {
	t.Helper()
	var found []court
	for _, s := range steps {
		next, ok := wantFenceStep(t, c, s)
		if !ok {
			continue
		}
		f := fenceOf(next)
		wantFenceKept(t, fenceOf(c), s, f)
		name := fenceName(f)
		if _, is := seen[name]; !is {
			seen[name] = next
			found = append(found, next)
			wantPromise13(t, f)
		}
	}
	return found
}

func allFenceSteps(c court, high int) []impl.FenceStep {
	l := fnSteps(5, 0, 1)
	for no := 1; no <= high; no++ {
		l = append(l, fnAsk(0, no), fnAsk(1, no))
	}
	for k := range c.line {
		l = append(l, fnSteps(2, k)...)
		l = append(l, fnSteps(3, k)...)
		l = append(l, fnSteps(4, k)...)
	}
	return l
}

// Promise 13: every fence that few steps lead to, whatever they are.
func TestEveryShortPlayOfAFence(t *testing.T) {
	for _, c := range []struct{ judges, high, deep int }{{1, 2, 6}, {2, 2, 4}, {3, 1, 4}, {5, 2, 3}} {
		first := newCourt(c.judges)
		seen := map[string]court{fenceName(fenceOf(first)): first}
		now := []court{first}
		for range c.deep {
			var next []court
			for _, from := range now {
				next = append(next, fenceStepsFrom(t, from, allFenceSteps(from, c.high), seen)...)
			}
			now = next
		}
		if len(seen) < 100 {
			t.Errorf("%d judges: only %d fences", c.judges, len(seen))
		}
	}
}

// Promise 13: both places ask for one number, and the papers come in any order. If none is lost each judge is for one place, so that one of the two has won just where the judges are not half for each.
func TestBothAskForOneNumberInEveryOrder(t *testing.T) {
	for judges := 1; judges <= 4; judges++ {
		first, _ := playCourt(judges, []impl.FenceStep{fnAsk(0, 1), fnAsk(1, 1)})
		seen := map[string]court{}
		now, ends := []court{first}, 0
		for len(now) > 0 {
			var next []court
			for _, from := range now {
				if len(from.line) == 0 {
					ends++
					of1 := 0
					for _, x := range from.promised {
						of1 += x.place
					}
					wonBy1, wonBy0 := slices.Contains(from.won, ticket{1, 1}), slices.Contains(from.won, ticket{1, 0})
					if wonBy1 != (2*of1 > judges) || wonBy0 != (2*of1 < judges) {
						t.Errorf("%s: won by the wrong one", fenceName(fenceOf(from)))
					}
					continue
				}
				next = append(next, fenceStepsFrom(t, from, fnSteps(2, upTo(len(from.line))...), seen)...)
			}
			now = next
		}
		if ends < 1<<judges {
			t.Errorf("%d judges: %d ends alone", judges, ends)
		}
	}
}

func TestFencePlayKnownByHand(t *testing.T) {
	// Place 0 asks for 2, judges 0 and 1 promise; place 1 asks for 3, judges 1 and 2 promise it that; both have won, and who stores last is place 1.
	l := slices.Concat([]impl.FenceStep{fnAsk(0, 2)}, fnSteps(2, 0, 0, 1, 1), fnSteps(5, 0, 1),
		[]impl.FenceStep{fnAsk(1, 3)}, fnSteps(2, 2, 2), fnSteps(5, 1, 0), fnSteps(2, 2, 2), fnSteps(5, 1, 0))
	did := []bool{true, true, true, true, true, true, false, true, true, true, false, true, true, true, true, false}
	want := court{promised: []ticket{{2, 0}, {3, 1}, {3, 1}}, asked: [2]int{2, 3}, votes: [2]uint{3, 6}, won: []ticket{{2, 0}, {3, 1}}, seen: 3, stored: []ticket{{2, 0}, {2, 0}, {3, 1}}, line: slices.Concat(asking(0, 2, 2), asking(1, 3, 0))}
	wantPlayedFence(t, 3, l, want, did)
	// What was asked for with 2 comes to judge 2 now: it leaves, and no more. What was asked for with 3 comes to judge 0.
	want.line = asking(1, 3, 0)
	wantPlayedFence(t, 3, append(l, fnSteps(2, 0)...), want, append(did, true))
	want.promised, want.line = []ticket{{3, 1}, {3, 1}, {3, 1}}, promising(1, 3, 0)
	wantPlayedFence(t, 3, append(l, fnSteps(2, 0, 0)...), want, append(did, true, true))
	want.line, want.votes = nil, [2]uint{3, 7}
	wantPlayedFence(t, 3, append(l, fnSteps(2, 0, 0, 0)...), want, append(did, true, true, true))
}

func TestAsksKnownByHand(t *testing.T) {
	c := newCourt(3)
	c.asked, c.votes, c.line = [2]int{4, 6}, [2]uint{5, 7}, promising(0, 4, 1)
	want := c
	want.asked, want.votes, want.line = [2]int{5, 6}, [2]uint{0, 7}, slices.Concat(promising(0, 4, 1), asking(0, 5, 0, 1, 2))
	wantFenceDone(t, c, fnAsk(0, 5), want)
	want.asked, want.votes, want.line = [2]int{4, 200}, [2]uint{5, 0}, slices.Concat(promising(0, 4, 1), asking(1, 200, 0, 1, 2))
	wantFenceDone(t, c, fnAsk(1, 200), want)
	// A number that the other one asks for may be asked for, too.
	want.asked, want.votes, want.line = [2]int{6, 6}, [2]uint{0, 7}, slices.Concat(promising(0, 4, 1), asking(0, 6, 0, 1, 2))
	wantFenceDone(t, c, fnAsk(0, 6), want)
	for _, s := range []impl.FenceStep{fnAsk(0, 4), fnAsk(0, 3), fnAsk(0, 1), fnAsk(0, 0), fnAsk(0, -1), fnAsk(0, 201), fnAsk(1, 6), fnAsk(1, 5), fnAsk(1, 201), fnAsk(2, 7), fnAsk(-1, 7), fnAsk(3, 200)} {
		wantFenceRefused(t, fenceOf(c), s)
	}
	// From nothing on: 1 is the least number there is.
	for judges := 1; judges <= 5; judges++ {
		wantFenceRefused(t, fenceOf(newCourt(judges)), fnAsk(0, 0))
		wantPlayedFence(t, judges, []impl.FenceStep{fnAsk(1, 1)}, court{promised: make([]ticket, judges), asked: [2]int{0, 1}, line: asking(1, 1, upTo(judges)...)}, trues(1))
	}
	// Behind 200 there is none.
	c.asked = [2]int{200, 6}
	for _, no := range []int{199, 200, 201, math.MaxInt} {
		wantFenceRefused(t, fenceOf(c), fnAsk(0, no))
	}
}

// Of the judges' papers the first ones are written, as long as there is room; what is asked for is that all the same.
func TestAsksOnALineWithLittleRoom(t *testing.T) {
	for judges := 1; judges <= 5; judges++ {
		for long := 20; long <= 30; long++ {
			c := newCourt(judges)
			c.asked, c.votes, c.line = [2]int{1, 1}, [2]uint{1, 1}, slices.Repeat(asking(0, 1, 0), long)
			want := c
			want.asked, want.votes = [2]int{1, 9}, [2]uint{1, 0}
			want.line = slices.Concat(c.line, asking(1, 9, upTo(min(judges, 30-long))...))
			wantFenceDone(t, c, fnAsk(1, 9), want)
		}
	}
}

func TestAskPapersKnownByHand(t *testing.T) {
	for _, c := range []struct {
		judge  ticket
		asked  ticket
		behind ticket
		gives  bool
	}{
		{ticket{}, ticket{1, 0}, ticket{1, 0}, true},
		{ticket{}, ticket{200, 1}, ticket{200, 1}, true},
		{ticket{5, 0}, ticket{4, 0}, ticket{5, 0}, false},
		{ticket{5, 0}, ticket{4, 1}, ticket{5, 0}, false},
		{ticket{5, 0}, ticket{1, 1}, ticket{5, 0}, false},
		{ticket{5, 0}, ticket{5, 0}, ticket{5, 0}, true},
		{ticket{5, 0}, ticket{5, 1}, ticket{5, 0}, false},
		{ticket{5, 1}, ticket{5, 1}, ticket{5, 1}, true},
		{ticket{5, 1}, ticket{5, 0}, ticket{5, 1}, false},
		{ticket{5, 0}, ticket{6, 0}, ticket{6, 0}, true},
		{ticket{5, 0}, ticket{6, 1}, ticket{6, 1}, true},
		{ticket{200, 0}, ticket{200, 1}, ticket{200, 0}, false},
		{ticket{199, 1}, ticket{200, 0}, ticket{200, 0}, true},
	} {
		// What the places ask for by now is of no matter to a judge.
		for _, asked := range [][2]int{{0, 0}, {c.asked.no, c.asked.no}, {200, 200}} {
			from := court{promised: []ticket{{9, 1}, c.judge, {}}, asked: asked, votes: [2]uint{1, 4}, line: slices.Concat(promising(1, 3, 2), asking(c.asked.place, c.asked.no, 1), asking(0, 8, 0))}
			want := from
			want.promised = []ticket{{9, 1}, c.behind, {}}
			want.line = slices.Concat(promising(1, 3, 2), asking(0, 8, 0))
			if c.gives {
				want.line = append(want.line, promising(c.asked.place, c.asked.no, 1)...)
			}
			wantFenceDone(t, from, fnSteps(2, 1)[0], want)
		}
	}
}

// The paper that leaves makes room for its answer, so that the line is full again.
func TestTakesOnAFullLine(t *testing.T) {
	full := newCourt(2)
	full.asked, full.line = [2]int{3, 0}, slices.Concat(asking(0, 3, 1), promising(0, 3, 0), slices.Repeat(asking(0, 3, 0), 28))
	want := full
	want.promised, want.line = []ticket{{}, {3, 0}}, slices.Concat(full.line[1:], promising(0, 3, 1))
	wantFenceDone(t, full, fnSteps(2, 0)[0], want)
	want.promised, want.line = []ticket{{3, 0}, {}}, slices.Concat(full.line[:29], promising(0, 3, 0))
	wantFenceDone(t, full, fnSteps(2, 29)[0], want)
	want = full
	want.votes, want.line = [2]uint{1, 0}, slices.Concat(full.line[:1], full.line[2:])
	wantFenceDone(t, full, fnSteps(2, 1)[0], want)
}

func TestPromisesKnownByHand(t *testing.T) {
	base := court{promised: []ticket{{5, 0}, {5, 0}, {5, 0}, {5, 0}, {5, 0}}, asked: [2]int{5, 4}}
	for _, c := range []struct {
		votes  [2]uint
		won    []ticket
		place  int
		no     int
		judge  int
		behind [2]uint
		more   []ticket
	}{
		{[2]uint{0, 0}, nil, 0, 5, 3, [2]uint{8, 0}, nil},
		{[2]uint{1, 0}, nil, 0, 5, 4, [2]uint{17, 0}, nil},
		// The judge goes in order: ahead of, between and behind those that are there.
		{[2]uint{20, 0}, nil, 0, 5, 0, [2]uint{21, 0}, []ticket{{5, 0}}},
		{[2]uint{20, 0}, nil, 0, 5, 3, [2]uint{28, 0}, []ticket{{5, 0}}},
		{[2]uint{3, 0}, nil, 0, 5, 4, [2]uint{19, 0}, []ticket{{5, 0}}},
		{[2]uint{0, 3}, nil, 1, 4, 2, [2]uint{0, 7}, []ticket{{4, 1}}},
		// One that comes late: its place asks for a greater number now, or, by form alone, for a lesser one.
		{[2]uint{3, 0}, nil, 0, 4, 4, [2]uint{3, 0}, nil},
		{[2]uint{3, 0}, nil, 0, 6, 4, [2]uint{3, 0}, nil},
		{[2]uint{3, 3}, nil, 1, 5, 4, [2]uint{3, 3}, nil},
		// One that comes twice is one vote.
		{[2]uint{3, 0}, nil, 0, 5, 1, [2]uint{3, 0}, nil},
		{[2]uint{1, 0}, nil, 0, 5, 0, [2]uint{1, 0}, nil},
		// One behind the majority: it was won ahead, and is not won twice.
		{[2]uint{7, 0}, []ticket{{5, 0}}, 0, 5, 3, [2]uint{15, 0}, nil},
		{[2]uint{15, 0}, []ticket{{5, 0}}, 0, 5, 4, [2]uint{31, 0}, nil},
		{[2]uint{7, 0}, []ticket{{5, 0}}, 0, 5, 2, [2]uint{7, 0}, nil},
		{[2]uint{7, 0}, []ticket{{5, 0}, {6, 1}}, 0, 5, 2, [2]uint{7, 0}, nil},
		// Another number of it, or the same number of the other place, is not that.
		{[2]uint{3, 0}, []ticket{{4, 0}}, 0, 5, 2, [2]uint{7, 0}, []ticket{{5, 0}}},
		{[2]uint{3, 0}, []ticket{{5, 1}}, 0, 5, 2, [2]uint{7, 0}, []ticket{{5, 0}}},
		// A majority that has not won as yet, by form alone, has with the next paper, also with one that comes twice.
		{[2]uint{7, 0}, nil, 0, 5, 3, [2]uint{15, 0}, []ticket{{5, 0}}},
		{[2]uint{7, 0}, nil, 0, 5, 2, [2]uint{7, 0}, []ticket{{5, 0}}},
	} {
		from := base
		from.votes, from.won, from.line = c.votes, c.won, slices.Concat(asking(1, 9, 0), promising(c.place, c.no, c.judge), asking(1, 9, 1))
		want := from
		want.votes, want.won, want.line = c.behind, slices.Concat(c.won, c.more), asking(1, 9, 0, 1)
		wantFenceDone(t, from, fnSteps(2, 1)[0], want)
	}
}

// The least many votes that win, for each many of judges.
func TestVotesThatWin(t *testing.T) {
	for judges, least := range []int{0, 1, 2, 2, 3, 3} {
		if judges == 0 {
			continue
		}
		l := append([]impl.FenceStep{fnAsk(1, 7)}, fnSteps(2, make([]int, judges)...)...)
		for came := range judges + 1 {
			f, _, ok := impl.PlayFence(judges, append(slices.Clone(l), fnSteps(2, make([]int, came)...)...))
			winner, won := impl.WinnerOf(f, 7)
			if !ok || won != (came >= least) || won && (winner != 1 || len(f.Won) != 1) || len(f.Votes[1]) != came {
				t.Errorf("%d judges, %d promises: %s", judges, came, fenceName(f))
			}
			may, ok := impl.MayStore(f, 1)
			wantBool(t, "may store", may, ok, came >= least, true)
		}
	}
}

func TestWonThatIsFull(t *testing.T) {
	c := newCourt(1)
	c.asked, c.line = [2]int{8, 0}, slices.Concat(promising(0, 8, 0), promising(0, 7, 0), asking(0, 8, 0))
	for _, many := range []int{58, 59, 60} {
		c.won, c.votes = slices.Repeat([]ticket{{7, 0}, {8, 1}}, 30)[:many], [2]uint{}
		want := c
		want.votes, want.won, want.line = [2]uint{1, 0}, append(slices.Clone(c.won), ticket{8, 0}), c.line[1:]
		if many < 60 {
			wantFenceDone(t, c, fnSteps(2, 0)[0], want)
			continue
		}
		// There is no room for what would be won: it can't be done. All else can.
		wantFenceRefused(t, fenceOf(c), fnSteps(2, 0)[0])
		want = c
		want.line = slices.Concat(c.line[:1], c.line[2:])
		wantFenceDone(t, c, fnSteps(2, 1)[0], want)
		wantFenceDone(t, c, fnSteps(3, 1)[0], want)
		want.promised, want.line = []ticket{{8, 0}}, slices.Concat(c.line[:2], promising(0, 8, 0))
		wantFenceDone(t, c, fnSteps(2, 2)[0], want)
		// A number that it has already needs no room; nor does a vote that makes no majority.
		c.won[59] = ticket{8, 0}
		want = c
		want.votes, want.line = [2]uint{1, 0}, c.line[1:]
		wantFenceDone(t, c, fnSteps(2, 0)[0], want)
	}
	few := newCourt(2)
	few.asked, few.line, few.won = [2]int{8, 0}, promising(0, 8, 0), slices.Repeat([]ticket{{7, 0}}, 60)
	want := few
	want.votes, want.line = [2]uint{1, 0}, nil
	wantFenceDone(t, few, fnSteps(2, 0)[0], want)
}

func TestLineStepsKnownByHand(t *testing.T) {
	c := plainCourt()
	for k, x := range c.line {
		want := c
		want.line = slices.Concat(c.line[:k], c.line[k+1:])
		wantFenceDone(t, c, fnSteps(3, k)[0], want)
		want.line = append(slices.Clone(c.line), x)
		wantFenceDone(t, c, fnSteps(4, k)[0], want)
	}
	for kind := 2; kind <= 4; kind++ {
		for _, k := range append([]int{5, 6, 30}, wrongNumbers...) {
			wantFenceRefused(t, fenceOf(c), fnSteps(kind, k)[0])
		}
		wantFenceRefused(t, fenceOf(newCourt(3)), fnSteps(kind, 0)[0])
	}
	c.line = slices.Repeat(c.line, 6)
	for k := range 31 {
		wantFenceRefused(t, fenceOf(c), fnSteps(4, k)[0])
	}
	want := c
	want.line = slices.Concat(c.line[:29], c.line[3:4])
	c.line = c.line[:29]
	wantFenceDone(t, c, fnSteps(4, 3)[0], want)
}

// A paper that is put twice and comes twice: the judge promises the same once more, and that is one vote.
func TestPapersThatComeTwice(t *testing.T) {
	l := slices.Concat([]impl.FenceStep{fnAsk(0, 3)}, fnSteps(4, 0), fnSteps(2, 0, 2))
	c := court{promised: []ticket{{3, 0}, {}, {}}, asked: [2]int{3, 0}, line: slices.Concat(asking(0, 3, 1, 2), promising(0, 3, 0, 0))}
	wantPlayedFence(t, 3, l, c, trues(4))
	c.votes, c.line = [2]uint{1, 0}, asking(0, 3, 1, 2)
	wantPlayedFence(t, 3, append(l, fnSteps(2, 2, 2)...), c, trues(6))
	wantPlayedFence(t, 3, append(l, fnSteps(2, 2, 2, 2)...), c, append(trues(6), false))
}

func TestStoresKnownByHand(t *testing.T) {
	for _, c := range []struct {
		asked [2]int
		won   []ticket
		seen  int
		place int
		done  bool
	}{
		{[2]int{3, 5}, []ticket{{3, 0}, {5, 1}}, 0, 0, true},
		{[2]int{3, 5}, []ticket{{3, 0}, {5, 1}}, 3, 0, true},
		{[2]int{3, 5}, []ticket{{3, 0}, {5, 1}}, 4, 0, false},
		{[2]int{3, 5}, []ticket{{3, 0}, {5, 1}}, 5, 0, false},
		{[2]int{3, 5}, []ticket{{3, 0}, {5, 1}}, 5, 1, true},
		{[2]int{3, 5}, []ticket{{3, 0}, {5, 1}}, 6, 1, false},
		{[2]int{3, 5}, []ticket{{5, 0}, {3, 1}}, 0, 0, false},
		{[2]int{3, 5}, []ticket{{5, 0}, {3, 1}}, 0, 1, false},
		// It has won, but asks for a greater number now.
		{[2]int{4, 5}, []ticket{{3, 0}}, 0, 0, false},
		{[2]int{0, 0}, nil, 0, 0, false},
		{[2]int{0, 0}, []ticket{{1, 0}, {1, 1}}, 0, 1, false},
		{[2]int{3, 5}, []ticket{{3, 0}, {5, 1}}, 0, 2, false},
		{[2]int{3, 5}, []ticket{{3, 0}, {5, 1}}, 0, -1, false},
	} {
		from := court{promised: []ticket{{9, 0}, {}}, asked: c.asked, votes: [2]uint{3, 1}, won: c.won, seen: c.seen, stored: []ticket{{1, 1}}, line: asking(0, 3, 0)}
		s := fnSteps(5, c.place)[0]
		if !c.done {
			wantFenceRefused(t, fenceOf(from), s)
			continue
		}
		want := from
		want.seen, want.stored = c.asked[c.place], []ticket{{1, 1}, {c.asked[c.place], c.place}}
		wantFenceDone(t, from, s, want)
	}
}

// Votes are not what is asked for: a majority of them without Won does not store, Won without any vote does.
func TestStoresAreByWonAlone(t *testing.T) {
	c := newCourt(3)
	c.asked, c.votes, c.promised = [2]int{3, 4}, [2]uint{7, 0}, []ticket{{3, 0}, {3, 0}, {3, 0}}
	c.won = []ticket{{4, 1}}
	wantFenceRefused(t, fenceOf(c), fnSteps(5, 0)[0])
	want := c
	want.seen, want.stored = 4, []ticket{{4, 1}}
	wantFenceDone(t, c, fnSteps(5, 1)[0], want)
}

func TestStoredThatIsFull(t *testing.T) {
	c := newCourt(1)
	c.asked, c.won = [2]int{8, 0}, []ticket{{8, 0}}
	for _, many := range []int{58, 59, 60} {
		c.stored = slices.Repeat([]ticket{{8, 0}}, many)
		want := c
		want.seen, want.stored = 8, slices.Repeat([]ticket{{8, 0}}, many+1)
		if many < 60 {
			wantFenceDone(t, c, fnSteps(5, 0)[0], want)
		} else {
			wantFenceRefused(t, fenceOf(c), fnSteps(5, 0)[0])
			got, ok := impl.MayStore(fenceOf(c), 0)
			wantBool(t, "may store where there is no room", got, ok, true, true)
		}
	}
	// In a play: 60 are stored, all others are not.
	l := slices.Concat([]impl.FenceStep{fnAsk(0, 8)}, fnSteps(2, 0, 0), fnSteps(5, make([]int, 97)...))
	want := court{promised: []ticket{{8, 0}}, asked: [2]int{8, 0}, votes: [2]uint{1, 0}, won: []ticket{{8, 0}}, seen: 8, stored: slices.Repeat([]ticket{{8, 0}}, 60)}
	wantPlayedFence(t, 1, l, want, append(trues(63), make([]bool, 37)...))
}

// No is of use with FnAsk alone.
func TestNumbersThatHaveNoUse(t *testing.T) {
	c := newCourt(1)
	c.asked, c.won, c.line = [2]int{8, 0}, []ticket{{8, 0}}, slices.Concat(promising(0, 8, 0), asking(0, 8, 0))
	for kind := 2; kind <= 5; kind++ {
		for k := range 2 {
			for _, no := range append([]int{1, 2, 8, 200, 201}, wrongNumbers...) {
				wantFenceRefused(t, fenceOf(c), impl.FenceStep{Kind: kind, K: k, No: no})
			}
		}
		if _, ok := impl.StepFence(fenceOf(c), impl.FenceStep{Kind: kind}); !ok {
			t.Errorf("step %d can't be done", kind)
		}
	}
}

func TestFenceKindsThatAreNone(t *testing.T) {
	for _, kind := range append([]int{0, 6, 7, 100}, wrongNumbers...) {
		for k := -1; k <= 5; k++ {
			for _, no := range []int{0, 1, 200} {
				wantFenceRefused(t, fenceOf(plainCourt()), impl.FenceStep{Kind: kind, K: k, No: no})
			}
		}
	}
}

func TestFencePlaysOfEveryManySteps(t *testing.T) {
	for many := range 110 {
		l := append([]impl.FenceStep{fnAsk(1, 2)}, fnSteps(4, make([]int, 109)...)...)[:many]
		if many > 100 {
			wantRefusedFencePlay(t, 2, l)
			continue
		}
		c, did := playCourt(2, l)
		wantPlayedFence(t, 2, l, c, did)
	}
	for judges := 1; judges <= 5; judges++ {
		wantPlayedFence(t, judges, nil, newCourt(judges), nil)
		wantPlayedFence(t, judges, []impl.FenceStep{}, newCourt(judges), nil)
		wantPlayedFence(t, judges, make([]impl.FenceStep, 100), newCourt(judges), make([]bool, 100))
		wantRefusedFencePlay(t, judges, make([]impl.FenceStep, 101))
		wantRefusedFencePlay(t, judges, make([]impl.FenceStep, 5000))
	}
}

// What was not done changes nothing, wherever it stands among what was.
func TestStepsNotDoneAmongThoseThatWere(t *testing.T) {
	done := slices.Concat([]impl.FenceStep{fnAsk(0, 1)}, fnSteps(2, 0, 0, 0, 0), fnSteps(5, 0))
	want, did := playCourt(2, done)
	if slices.Contains(did, false) {
		t.Fatal(did)
	}
	for _, not := range []impl.FenceStep{{}, {Kind: 6}, {Kind: 2, K: 9}, {Kind: 3, K: -1}, {Kind: 4, No: 1}, {Kind: 5, K: 1}, {Kind: 1, K: 1}, {Kind: 1, K: 0, No: 0}, {Kind: 1, K: 2, No: 9}, {Kind: 1, K: 1, No: 201}} {
		for at := range len(done) + 1 {
			wantPlayedFence(t, 2, slices.Insert(slices.Clone(done), at, not), want, slices.Insert(slices.Clone(did), at, false))
		}
	}
}

// Promise 19: of fences that are not good nothing is told and nothing is done.
func TestFencesThatAreNotGood(t *testing.T) {
	for _, f := range badFences() {
		what := fenceName(f)
		for no := -1; no <= 6; no++ {
			winner, ok := impl.WinnerOf(f, no)
			wantNumber(t, what, winner, ok, 0, false)
		}
		for place := -1; place <= 2; place++ {
			may, ok := impl.MayStore(f, place)
			wantBool(t, what, may, ok, false, false)
			wantFenceRefused(t, f, fnAsk(place, 150))
		}
		for kind := range 7 {
			for k := -1; k <= 6; k++ {
				wantFenceRefused(t, f, impl.FenceStep{Kind: kind, K: k})
			}
		}
	}
}

// Promise 19: numbers that are far from all that can be, in every field at once.
func TestFenceOfWrongNumbers(t *testing.T) {
	for _, a := range append([]int{0, 1, 4, math.MaxInt - 11}, wrongNumbers...) {
		for _, b := range append([]int{0, 1, 2}, wrongNumbers...) {
			for _, c := range edgeCourts() {
				wantFenceStep(t, c, impl.FenceStep{Kind: b, K: a, No: b})
				for kind := 1; kind <= 5; kind++ {
					wantFenceStep(t, c, impl.FenceStep{Kind: kind, K: a, No: b})
				}
			}
			f := spoiledFence(func(f *impl.Fence) {
				f.Judges[0], f.Given[0], f.Place[1], f.Votes[0][1], f.Seen = a, b, a, b, a
				f.Line[1], f.Won[0], f.Stored[1] = impl.Paper{Kind: a, From: b, To: a, No: b}, []int{a, b}, []int{b, a}
			})
			wantGoodFence(t, f, ruleGoodFence(f))
			for kind := 1; kind <= 5; kind++ {
				wantFenceRefused(t, f, impl.FenceStep{Kind: kind, K: a, No: b})
			}
			wantPlayedFence(t, 2, []impl.FenceStep{{Kind: b, K: a, No: 7}, {Kind: 2, K: a, No: b}, {Kind: 1, K: a, No: math.MinInt}}, playedCourtOf(2, b, a), []bool{b == 1 && within(a, 0, 1), false, false})
		}
	}
}

// playedCourtOf is a new court where place k asks for 7, if the kind is FnAsk and there is such a place.
func playedCourtOf(judges int, kind int, k int) court {
	c := newCourt(judges)
	if kind == 1 && within(k, 0, 1) {
		c.asked[k], c.line = 7, asking(k, 7, upTo(judges)...)
	}
	return c
}

// shownFence is a fence all of whose lists have more behind their lengths.
func shownFence(f impl.Fence) impl.Fence {
	lists := func(l [][]int) [][]int {
		var c [][]int
		for _, list := range l {
			c = append(c, longer(list, 3, 1, 2))
		}
		return longer(c, []int{1, 0}, []int{2, 1}, []int{0, 1, 2})
	}
	return impl.Fence{Judges: longer(f.Judges, 9, 0, 7), Given: longer(f.Given, 1, -1, 0), Place: longer(f.Place, 4, 5), Votes: lists(f.Votes), Won: lists(f.Won),
		Line: longer(f.Line, impl.Paper{Kind: 1, No: 3}, impl.Paper{Kind: 2, To: 1, No: 4}), Seen: f.Seen, Stored: lists(f.Stored)}
}

// heldLists are a list of lists and each of these.
func heldLists(l [][]int) []heldList {
	lists := []heldList{held(l, numbersName, func(x []int) []int { return make([]int, len(x)+50) })}
	for _, x := range l {
		lists = append(lists, heldNumbers(x))
	}
	return lists
}

func heldFence(f impl.Fence) []heldList {
	papers := held(f.Line, paperName, func(p impl.Paper) impl.Paper { return impl.Paper{Kind: p.Kind + 1000} })
	lists := []heldList{heldNumbers(f.Judges), heldNumbers(f.Given), heldNumbers(f.Place), papers}
	return slices.Concat(lists, heldLists(f.Votes), heldLists(f.Won), heldLists(f.Stored))
}

// fenceAnswers asks all functions of a fence; the fences that they answer.
func fenceAnswers(f impl.Fence) []impl.Fence {
	var l []impl.Fence
	for _, s := range slices.Concat(fnSteps(2, -1, 0, 1, 2, 4, len(f.Line)-1, len(f.Line)), fnSteps(3, 0, 1, len(f.Line)-1), fnSteps(4, 0, len(f.Line)-1), fnSteps(5, -1, 0, 1, 2), []impl.FenceStep{fnAsk(0, 199), fnAsk(1, 200), fnAsk(0, 0), {Kind: 6}}) {
		next, _ := impl.StepFence(f, s)
		l = append(l, next)
	}
	impl.GoodFence(f)
	impl.WinnerOf(f, 3)
	for place := -1; place <= 2; place++ {
		impl.MayStore(f, place)
	}
	for _, votes := range f.Votes {
		impl.IsMajority(len(f.Judges), votes)
	}
	fresh, _ := impl.NewFence(len(f.Judges))
	return append(l, fresh)
}

// memoryFences are good and bad ones.
func memoryFences() []impl.Fence {
	var l []impl.Fence
	for _, c := range goodCourts() {
		l = append(l, fenceOf(c))
	}
	return append(l, badFences()...)
}

// Promise 19: nothing that is handed in is changed, good or not, nor what lies behind it.
func TestFenceFunctionsLeaveArgumentsAlone(t *testing.T) {
	for _, f := range memoryFences() {
		shown := shownFence(f)
		lists := heldFence(shown)
		ahead := shownLists(lists)
		fenceAnswers(shown)
		if behind := shownLists(lists); !slices.Equal(ahead, behind) {
			t.Errorf("%s: was %q, is %q", fenceName(f), ahead, behind)
		}
	}
	votes := longer([]int{0, 2}, 1, 7, 3)
	most, ok := impl.IsMajority(3, votes)
	wantBool(t, "votes", most, ok, true, true)
	if !slices.Equal(votes[:5], []int{0, 2, 1, 7, 3}) {
		t.Errorf("votes are %v", votes[:5])
	}
}

// Promise 19: each list of an answer has memory of its own, apart from that of what was handed in and of all other lists of it.
func TestFenceAnswersAreNewMemory(t *testing.T) {
	for i, f := range memoryFences() {
		// All lists are held against all others: of the fences that have many some are enough.
		if many := len(f.Won) + len(f.Stored); i%5 != 0 && i > 60 || many > 20 && i%17 != 0 {
			continue
		}
		shown := shownFence(f)
		for _, answer := range fenceAnswers(shown) {
			lists := heldFence(answer)
			wantNoneShared(t, fenceName(f), append(lists, heldFence(shown)...), len(lists))
		}
	}
}

// Promise 19: what is answered twice is twice there.
func TestFenceAnswersAreApartFromEachOther(t *testing.T) {
	for _, f := range append([]impl.Fence{fenceOf(plainCourt())}, fenceOf(newCourt(2))) {
		var lists []heldList
		for _, answer := range append(fenceAnswers(f), fenceAnswers(f)...) {
			lists = append(lists, heldFence(answer)...)
		}
		wantNoneShared(t, fenceName(f), lists, len(lists))
	}
}

// Promise 19: what lies behind a list's length is neither read nor handed out.
func TestFencesBehindTheLengthAreNotRead(t *testing.T) {
	for _, f := range memoryFences() {
		shown := shownFence(f)
		wantGoodFence(t, shown, ruleGoodFence(f))
		plain := fenceAnswers(f)
		for i, answer := range fenceAnswers(shown) {
			if fenceName(answer) != fenceName(plain[i]) {
				t.Errorf("%s: got %s, want %s", fenceName(f), fenceName(answer), fenceName(plain[i]))
			}
			wantFenceEmptyBehind(t, answer)
		}
	}
}

// wantFenceEmptyBehind asks that behind the lists of an answer there is just memory that is empty: no paper that left, no vote.
func wantFenceEmptyBehind(t *testing.T, f impl.Fence) {
	t.Helper()
	for _, p := range f.Line[len(f.Line):cap(f.Line)] {
		if p != (impl.Paper{}) {
			t.Errorf("%s: behind the line there is %s", fenceName(f), paperName(p))
		}
	}
	for _, l := range slices.Concat([][]int{f.Judges, f.Given, f.Place}, f.Votes, f.Won, f.Stored) {
		if behind := l[len(l):cap(l)]; slices.ContainsFunc(behind, func(x int) bool { return x != 0 }) {
			t.Errorf("%s: behind a list there is %v", fenceName(f), behind)
		}
	}
	for _, l := range [][][]int{f.Votes, f.Won, f.Stored} {
		for _, x := range l[len(l):cap(l)] {
			if x != nil {
				t.Errorf("%s: behind its lists there is %v", fenceName(f), x)
			}
		}
	}
}

// A fence whose list has what it lacks behind its length is as one that lacks it.
func TestFencesThatAreCut(t *testing.T) {
	c := plainCourt()
	f := fenceOf(c)
	f.Line = f.Line[:2]
	wantFenceRefused(t, f, fnSteps(2, 2)[0])
	got, ok := impl.StepFence(f, fnAsk(0, 9))
	c.asked, c.votes, c.line = [2]int{9, 5}, [2]uint{0, 1}, slices.Concat(c.line[:2], asking(0, 9, 0, 1, 2))
	wantFence(t, "asked on a line that is cut", got, ok, fenceOf(c), true)
	if name := paperName(f.Line[:3][2]); name != paperName(paperOf(plainCourt().line[2])) {
		t.Errorf("behind the line there is %s", name)
	}
	f = fenceOf(plainCourt())
	f.Won = f.Won[:1]
	winner, ok := impl.WinnerOf(f, 3)
	wantNumber(t, "winner that is cut", winner, ok, 0, false)
	may, ok := impl.MayStore(f, 0)
	wantBool(t, "may store what is cut", may, ok, false, true)
	wantFenceRefused(t, f, fnSteps(5, 0)[0])
	f.Given = f.Given[:2]
	wantFenceRefused(t, f, fnAsk(0, 9))
}

// Promise 19: PlayFence leaves its steps alone, also those behind their length, and what it answers is its own.
func TestPlayFenceLeavesItsStepsAlone(t *testing.T) {
	mixedFencePlays(100, func(judges int, l []impl.FenceStep) {
		steps := longer(l, fnAsk(0, 100), fnAsk(1, 101))
		arg := held(steps, fenceStepName, func(s impl.FenceStep) impl.FenceStep { return impl.FenceStep{Kind: s.Kind + 50} })
		ahead := arg.show()
		c, did := playCourt(judges, l)
		wantPlayedFence(t, judges, steps, c, did)
		if behind := arg.show(); behind != ahead {
			t.Errorf("was %q, is %q", ahead, behind)
		}
		got, gotDid, _ := impl.PlayFence(judges, steps)
		wantFenceEmptyBehind(t, got)
		lists := append(heldFence(got), heldBools(gotDid))
		wantNoneShared(t, "played", append(lists, arg), len(lists))
	})
}

func TestFenceFunctionsAnswerAlikeTwice(t *testing.T) {
	for _, f := range memoryFences() {
		again := fenceAnswers(f)
		for i, answer := range fenceAnswers(f) {
			if fenceName(answer) != fenceName(again[i]) {
				t.Errorf("%s: got %s, then %s", fenceName(f), fenceName(answer), fenceName(again[i]))
			}
		}
	}
}
