package tests

import (
	"math"
	"slices"
	"strconv"
	"strings"
	"testing"

	"loop.example/g00541/impl"
)

// post is a window told by numbers alone: of which pieces the sender has heard, which ones the receiver has, and the frames of the line, where a Back is told by backOf.
type post struct {
	pieces []string
	size   int
	heard  []int
	has    []int
	line   []int
}

func backOf(no int) int {
	return -1 - no
}

// windowOf writes a post out, field by field.
func windowOf(p post) impl.Window {
	w := impl.Window{Pieces: p.pieces, Size: p.size}
	for slices.Contains(p.has, w.Told) {
		w.Told++
	}
	for no, piece := range p.pieces {
		has, text := slices.Contains(p.has, no), ""
		if has {
			text = piece
		}
		w.Has, w.Held = append(w.Has, has), append(w.Held, text)
		w.Heard = append(w.Heard, slices.Contains(p.heard, no))
	}
	for _, f := range p.line {
		if f < 0 {
			w.Line = append(w.Line, impl.Frame{Back: true, No: -1 - f})
		} else {
			w.Line = append(w.Line, impl.Frame{No: f, Text: p.pieces[f]})
		}
	}
	return w
}

// postIn reads the numbers out of a window; false where it has some that can't be.
func postIn(w impl.Window) (post, bool) {
	p := post{pieces: w.Pieces, size: w.Size}
	for no, is := range w.Has {
		if is {
			p.has = append(p.has, no)
		}
	}
	fine := true
	for no, is := range w.Heard {
		if is {
			p.heard = append(p.heard, no)
			fine = fine && slices.Contains(p.has, no)
		}
	}
	for _, f := range w.Line {
		fine = fine && f.No >= 0 && f.No < len(w.Pieces) && (!f.Back || slices.Contains(p.has, f.No))
		if f.Back {
			p.line = append(p.line, backOf(f.No))
		} else {
			p.line = append(p.line, f.No)
		}
	}
	return p, fine
}

// ruleGoodWindow wants a window to be what its numbers write out.
func ruleGoodWindow(w impl.Window) bool {
	if len(w.Pieces) > 12 || w.Size < 1 || w.Size > 12 || len(w.Line) > 30 {
		return false
	}
	for _, piece := range w.Pieces {
		if len(piece) > 20 {
			return false
		}
	}
	p, fine := postIn(w)
	return fine && windowName(windowOf(p)) == windowName(w)
}

func (p post) open() int {
	no := 0
	for slices.Contains(p.heard, no) {
		no++
	}
	return no
}

// sent has a frame behind all others, if there is room.
func (p post) sent(f int) post {
	if len(p.line) < 30 {
		p.line = append(slices.Clone(p.line), f)
	}
	return p
}

func (p post) left(k int) post {
	p.line = slices.Concat(p.line[:k], p.line[k+1:])
	return p
}

// step tells what a window is behind a step.
func (p post) step(s impl.WinStep) (post, bool) {
	if s.Kind == 1 {
		may := s.K >= 0 && s.K < len(p.pieces) && !slices.Contains(p.heard, s.K) && s.K-p.open() < p.size
		if !may {
			return post{}, false
		}
		return p.sent(s.K), true
	}
	if s.K < 0 || s.K >= len(p.line) {
		return post{}, false
	}
	f := p.line[s.K]
	switch {
	case s.Kind == 2 && f < 0:
		p.heard = append(slices.Clone(p.heard), -1-f)
		return p.left(s.K), true
	case s.Kind == 2:
		p.has = append(slices.Clone(p.has), f)
		return p.left(s.K).sent(backOf(f)), true
	case s.Kind == 3:
		return p.left(s.K), true
	case s.Kind == 4 && len(p.line) < 30:
		return p.sent(f), true
	}
	return post{}, false
}

// playPost has what a window is behind each step, the new one first, and whether each was done.
func playPost(pieces []string, size int, l []impl.WinStep) ([]post, []bool) {
	p := post{pieces: pieces, size: size}
	posts, did := []post{p}, []bool{}
	for _, s := range l {
		next, ok := p.step(s)
		if ok {
			p = next
		}
		posts, did = append(posts, p), append(did, ok)
	}
	return posts, did
}

// settledPost has all: a line on which nothing is, if something was to be done.
func settledPost(p post) (post, int) {
	rounds := 0
	for no := range p.pieces {
		if !slices.Contains(p.heard, no) {
			rounds++
			p.heard, p.line = append(slices.Clone(p.heard), no), nil
		}
		p.has = append(slices.Clone(p.has), no)
	}
	return p, rounds
}

func frameName(f impl.Frame) string {
	if f.Back {
		return "back " + strconv.Itoa(f.No) + strconv.Quote(f.Text)
	}
	return strconv.Itoa(f.No) + strconv.Quote(f.Text)
}

func namesOf[T any](l []T, name func(T) string) string {
	var names []string
	for _, x := range l {
		names = append(names, name(x))
	}
	return "[" + strings.Join(names, " ") + "]"
}

// windowName tells all that a window has, also one that is not good.
func windowName(w impl.Window) string {
	return namesOf(w.Pieces, strconv.Quote) + " size " + strconv.Itoa(w.Size) + " heard " + namesOf(w.Heard, strconv.FormatBool) + " line " + namesOf(w.Line, frameName) +
		" held " + namesOf(w.Held, strconv.Quote) + " has " + namesOf(w.Has, strconv.FormatBool) + " told " + strconv.Itoa(w.Told)
}

func winStepName(s impl.WinStep) string {
	return strconv.Itoa(s.Kind) + " of " + strconv.Itoa(s.K)
}

func wantWindow(t *testing.T, what string, got impl.Window, ok bool, want impl.Window, wantOk bool) {
	t.Helper()
	if windowName(got) != windowName(want) || ok != wantOk {
		t.Errorf("%s: got %s %v, want %s %v", what, windowName(got), ok, windowName(want), wantOk)
	}
	if ok && (!impl.GoodWindow(got) || !ruleGoodWindow(got)) {
		t.Errorf("%s: %s is not good", what, windowName(got))
	}
}

func wantBools(t *testing.T, what string, got []bool, ok bool, want []bool, wantOk bool) {
	t.Helper()
	if !slices.Equal(got, want) || ok != wantOk {
		t.Errorf("%s: got %v %v, want %v %v", what, got, ok, want, wantOk)
	}
}

// wantStep holds a step of a window against the rule, and has what came of it.
func wantStep(t *testing.T, p post, s impl.WinStep) (post, bool) {
	t.Helper()
	w := windowOf(p)
	got, ok := impl.StepWindow(w, s)
	next, wantOk := p.step(s)
	want := impl.Window{}
	if wantOk {
		want = windowOf(next)
	}
	wantWindow(t, windowName(w)+": step "+winStepName(s), got, ok, want, wantOk)
	return next, wantOk
}

// wantStepDone and wantStepRefused are for what is told by hand.
func wantStepDone(t *testing.T, p post, kind int, k int, want post) {
	t.Helper()
	got, ok := impl.StepWindow(windowOf(p), impl.WinStep{Kind: kind, K: k})
	wantWindow(t, windowName(windowOf(p))+": step "+strconv.Itoa(kind)+" of "+strconv.Itoa(k), got, ok, windowOf(want), true)
}

func wantStepRefused(t *testing.T, w impl.Window, kind int, k int) {
	t.Helper()
	got, ok := impl.StepWindow(w, impl.WinStep{Kind: kind, K: k})
	wantWindow(t, windowName(w)+": step "+strconv.Itoa(kind)+" of "+strconv.Itoa(k), got, ok, impl.Window{}, false)
}

// wantToldOfWindow holds what is told of a good window against the rules, and what it is when it is settled.
func wantToldOfWindow(t *testing.T, p post) {
	t.Helper()
	w := windowOf(p)
	what := windowName(w)
	if !impl.GoodWindow(w) {
		t.Errorf("%s: is not good", what)
	}
	open, ok := impl.FirstOpen(w)
	wantNumber(t, what+", open", open, ok, p.open(), true)
	told, ok := impl.ToldOf(w)
	wantTexts(t, what+", told", told, ok, p.pieces[:w.Told], true)
	want, wantRounds := settledPost(p)
	settled, rounds, ok := impl.SettleWindow(w)
	wantWindow(t, what+", settled", settled, ok, windowOf(want), true)
	wantNumber(t, what+", settled", rounds, ok, wantRounds, true)
}

// wantPlayedWindow asks for a play, told by hand or by the rule.
func wantPlayedWindow(t *testing.T, pieces []string, size int, l []impl.WinStep, want impl.Window, wantDid []bool) {
	t.Helper()
	got, did, ok := impl.PlayWindow(pieces, size, l)
	what := "play of " + strconv.Itoa(len(l)) + " steps " + namesOf(l, winStepName)
	wantWindow(t, what, got, ok, want, true)
	wantBools(t, what, did, ok, wantDid, true)
}

func wantRefusedPlay(t *testing.T, what string, pieces []string, size int, l []impl.WinStep) {
	t.Helper()
	got, did, ok := impl.PlayWindow(pieces, size, l)
	wantWindow(t, what, got, ok, impl.Window{}, false)
	wantBools(t, what, did, ok, nil, false)
}

// somePieces are mixed; some are empty, some have all the bytes there may be.
func somePieces(n *numbers, many int) []string {
	var l []string
	for range many {
		l = append(l, mixedText([]int{0, 1, 2, 7, 19, 20}[n.below(6)], uint32(n.below(100000))))
	}
	return l
}

// somePost is any good window: each piece is heard of, or had, or neither, and the line has frames of any.
func somePost(n *numbers, many int, long int) post {
	p := post{pieces: somePieces(n, many), size: 1 + n.below(12)}
	rare := 1 + n.below(4)
	for no := range many {
		if n.below(rare+1) == 0 {
			continue
		}
		p.has = append(p.has, no)
		if n.below(rare+1) > 0 {
			p.heard = append(p.heard, no)
		}
	}
	for many > 0 && len(p.line) < long {
		if no := n.below(many); n.below(2) == 0 {
			p.line = append(p.line, no)
		} else if slices.Contains(p.has, no) {
			p.line = append(p.line, backOf(no))
		} else {
			p.line = append(p.line, no)
		}
	}
	return p
}

func somePosts() []post {
	var l []post
	for i := range 200 {
		n := &numbers{seed: uint64(9000 + i)}
		l = append(l, somePost(n, i%13, []int{0, 1, 2, 5, 29, 30, n.below(31)}[n.below(7)]))
	}
	return l
}

// upTo are the numbers from 0 on below many.
func upTo(many int) []int {
	var l []int
	for i := range many {
		l = append(l, i)
	}
	return l
}

// fewPieces are the letters from a on.
func fewPieces(many int) []string {
	return strings.Split("abcdefghijklmnop", "")[:many]
}

// edgePosts are good ones that lie at what the chapter names.
func edgePosts() []post {
	long, none := strings.Repeat("x", 20), []string{"", "", ""}
	l := []post{{size: 1}, {size: 12}, {pieces: []string{"a"}, size: 1}, {pieces: []string{""}, size: 12}, {pieces: []string{long}, size: 1}, {pieces: slices.Repeat([]string{long}, 12), size: 12},
		{pieces: none, size: 2, line: []int{0, 1, 0, 1}}, {pieces: none, size: 2, has: []int{1}, line: []int{backOf(1), 1, 0}}, {pieces: none, size: 2, has: []int{0, 1, 2}, heard: []int{1}},
		{pieces: fewPieces(12), size: 1}, {pieces: fewPieces(12), size: 12, has: upTo(12)}, {pieces: fewPieces(12), size: 12, has: upTo(12), heard: upTo(12)},
		{pieces: fewPieces(12), size: 12, has: upTo(12), heard: upTo(12), line: slices.Repeat([]int{3, backOf(4)}, 15)}, {pieces: fewPieces(12), size: 3, has: upTo(11), heard: upTo(11), line: []int{11}},
		{pieces: fewPieces(12), size: 3, has: []int{11}, heard: []int{11}}, {pieces: fewPieces(4), size: 2, has: []int{1, 2, 3}, heard: []int{3}, line: []int{0}},
		{pieces: fewPieces(4), size: 2, has: []int{1, 2, 3}, heard: []int{1, 2, 3}, line: slices.Repeat([]int{0}, 30)}}
	for _, long := range []int{1, 28, 29, 30} {
		l = append(l, post{pieces: fewPieces(3), size: 2, line: slices.Repeat([]int{0}, long)}, post{pieces: fewPieces(3), size: 2, has: []int{0}, line: slices.Repeat([]int{backOf(0)}, long)},
			post{pieces: fewPieces(3), size: 2, has: []int{1}, line: slices.Repeat([]int{2, backOf(1), 0, 1, 2}, 6)[:long]})
	}
	return l
}

func goodPosts() []post {
	return append(edgePosts(), somePosts()...)
}

// plainPost has something of all: pieces 0 and 2 are heard of, 3 is had, 1 and 4 are not.
func plainPost() post {
	return post{pieces: []string{"ab", "c", "", "def", "ab"}, size: 2, heard: []int{0, 2}, has: []int{0, 2, 3}, line: []int{1, backOf(3), 0, backOf(0), 4, 2}}
}

// spoiled is the plain window, changed.
func spoiled(change func(w *impl.Window)) impl.Window {
	w := windowOf(plainPost())
	change(&w)
	return w
}

// withFrame is the plain window with one frame more, at any place.
func withFrame(at int, f impl.Frame) impl.Window {
	return spoiled(func(w *impl.Window) { w.Line = slices.Insert(w.Line, at, f) })
}

// badFrames can't be on the line of the plain window.
func badFrames() []impl.Frame {
	l := []impl.Frame{{No: 5, Text: ""}, {No: 5, Text: "ab"}, {No: -1}, {Back: true, No: 5}, {Back: true, No: -1}, {Back: true, No: 1}, {Back: true, No: 4}, {Back: true, No: 0, Text: "ab"}, {Back: true, No: 3, Text: "x"}, {Back: true, No: 2, Text: "x"},
		{No: 0}, {No: 0, Text: "a"}, {No: 0, Text: "abc"}, {No: 0, Text: "ac"}, {No: 1, Text: "ab"}, {No: 2, Text: "\x00"}, {No: 3, Text: "deF"}, {No: 4, Text: "c"}, {No: 3, Text: mixedText(300, 1)}}
	for _, wrong := range wrongNumbers {
		l = append(l, impl.Frame{No: wrong}, impl.Frame{No: wrong, Text: "ab"}, impl.Frame{Back: true, No: wrong})
	}
	return l
}

// badWindows are not good, each for one reason.
func badWindows() []impl.Window {
	l := []impl.Window{{}, {Pieces: []string{"a"}, Size: 1}, windowOf(post{size: 13}), windowOf(post{pieces: fewPieces(13), size: 1}), windowOf(post{pieces: fewPieces(13), size: 12}),
		windowOf(post{pieces: []string{strings.Repeat("x", 21)}, size: 1}), windowOf(post{pieces: []string{"", "a", mixedText(21, 1)}, size: 3, has: []int{0}}),
		windowOf(post{pieces: fewPieces(3), size: 2, line: slices.Repeat([]int{0}, 31)}), windowOf(post{pieces: fewPieces(3), size: 2, has: []int{0}, line: slices.Repeat([]int{backOf(0)}, 31)}),
		windowOf(post{pieces: fewPieces(3), size: 2, heard: []int{0}}), windowOf(post{pieces: fewPieces(3), size: 2, has: []int{1}, line: []int{backOf(0)}})}
	for no := range 5 {
		long := fewPieces(5)
		long[no] = mixedText(21, 1)
		l = append(l, spoiled(func(w *impl.Window) { w.Held[no] += "x" }), windowOf(post{pieces: long, size: 5, has: upTo(5)}))
	}
	l = append(l, spoiled(func(w *impl.Window) { w.Held[0] = "" }), spoiled(func(w *impl.Window) { w.Held[0] = "cd" }), spoiled(func(w *impl.Window) { w.Held[1] = "c" }),
		spoiled(func(w *impl.Window) { w.Has[4] = true }), spoiled(func(w *impl.Window) { w.Heard[1] = true }), spoiled(func(w *impl.Window) { w.Heard[4] = true }))
	for _, wrong := range append([]int{0, 2, 3, 4, 5, 6}, wrongNumbers...) {
		l = append(l, spoiled(func(w *impl.Window) { w.Told = wrong }))
	}
	for _, wrong := range append([]int{0, 13, 14, 30}, wrongNumbers...) {
		l = append(l, spoiled(func(w *impl.Window) { w.Size = wrong }))
	}
	for _, f := range badFrames() {
		l = append(l, withFrame(0, f), withFrame(3, f), withFrame(6, f))
	}
	return append(l, badLists()...)
}

// badLists are windows one of whose lists is longer or shorter than their pieces.
func badLists() []impl.Window {
	l := []impl.Window{spoiled(func(w *impl.Window) { w.Pieces = w.Pieces[:4] }), spoiled(func(w *impl.Window) { w.Pieces = append(w.Pieces, "") })}
	for long := range 8 {
		if long == 5 {
			continue
		}
		l = append(l, spoiled(func(w *impl.Window) { w.Heard = append(w.Heard, false, false)[:long] }), spoiled(func(w *impl.Window) { w.Held = append(w.Held, "", "")[:long] }),
			spoiled(func(w *impl.Window) { w.Has = append(w.Has, false, false)[:long] }),
			spoiled(func(w *impl.Window) {
				w.Has, w.Heard = append(w.Has, false, false)[:long], append(w.Heard, false, false)[:long]
			}))
	}
	l = append(l, impl.Window{Size: 1, Heard: []bool{false}}, impl.Window{Size: 1, Held: []string{""}}, impl.Window{Size: 1, Has: []bool{false}}, impl.Window{Size: 1, Has: []bool{true}, Told: 1},
		impl.Window{Size: 1, Line: []impl.Frame{{}}}, impl.Window{Size: 1, Told: 1}, impl.Window{Size: 1, Told: -1})
	return l
}

func TestWindowConstants(t *testing.T) {
	kinds := []int{impl.WnSend, impl.WnTake, impl.WnLose, impl.WnTwice}
	if impl.MaxPieces != 12 || impl.MaxLine != 30 || impl.MaxWinSteps != 150 || !slices.Equal(kinds, []int{1, 2, 3, 4}) {
		t.Error(impl.MaxPieces, impl.MaxLine, impl.MaxWinSteps, kinds)
	}
}

func wantNewWindow(t *testing.T, pieces []string, size int, is bool) {
	t.Helper()
	what := strconv.Itoa(len(pieces)) + " pieces " + namesOf(pieces, strconv.Quote) + ", size " + strconv.Itoa(size)
	w, ok := impl.NewWindow(pieces, size)
	if !is {
		wantWindow(t, what, w, ok, impl.Window{}, false)
		wantRefusedPlay(t, what, pieces, size, nil)
		wantRefusedPlay(t, what, pieces, size, []impl.WinStep{{Kind: 1}})
		return
	}
	p := post{pieces: pieces, size: size}
	wantWindow(t, what, w, ok, windowOf(p), true)
	wantPlayedWindow(t, pieces, size, nil, windowOf(p), nil)
	wantToldOfWindow(t, p)
}

func TestNewWindowOfEveryManyAndSize(t *testing.T) {
	for many := range 16 {
		for size := -3; size <= 16; size++ {
			wantNewWindow(t, fewPieces(many), size, many <= 12 && size >= 1 && size <= 12)
		}
		for _, wrong := range wrongNumbers {
			wantNewWindow(t, fewPieces(many), wrong, false)
		}
	}
	wantNewWindow(t, nil, 1, true)
	wantNewWindow(t, []string{}, 12, true)
	wantNewWindow(t, nil, 0, false)
	wantNewWindow(t, make([]string, 1000), 1, false)
}

func TestNewWindowOfEveryLongPiece(t *testing.T) {
	for long := range 60 {
		for many := 1; many <= 12; many++ {
			for _, at := range []int{0, many / 2, many - 1} {
				pieces := fewPieces(many)
				pieces[at] = mixedText(long, uint32(at))
				wantNewWindow(t, pieces, 1+long%12, long <= 20)
			}
		}
	}
	wantNewWindow(t, slices.Repeat([]string{""}, 12), 4, true)
	wantNewWindow(t, slices.Repeat([]string{mixedText(20, 3)}, 12), 4, true)
	wantNewWindow(t, slices.Repeat([]string{mixedText(20, 3)}, 13), 4, false)
	wantNewWindow(t, []string{mixedText(20, 3), mixedText(21, 3)}, 4, false)
	wantNewWindow(t, []string{mixedText(100000, 3)}, 4, false)
}

func TestGoodWindow(t *testing.T) {
	for _, p := range append(goodPosts(), plainPost()) {
		if w := windowOf(p); !impl.GoodWindow(w) || !ruleGoodWindow(w) {
			t.Errorf("%s: is not good", windowName(w))
		}
	}
	for _, w := range badWindows() {
		if impl.GoodWindow(w) || ruleGoodWindow(w) {
			t.Errorf("%s: is good", windowName(w))
		}
	}
}

// All that two pieces, one of them empty, can have at both ends, with no frame and with one.
func TestGoodWindowOfTwoPieces(t *testing.T) {
	lines := [][]impl.Frame{nil}
	for no := -1; no <= 2; no++ {
		for _, text := range []string{"", "a", "b"} {
			lines = append(lines, []impl.Frame{{No: no, Text: text}}, []impl.Frame{{Back: true, No: no, Text: text}})
		}
	}
	bools := [][]bool{{false, false}, {false, true}, {true, false}, {true, true}}
	good := 0
	for _, heard := range bools {
		for _, has := range bools {
			for i := range 3 * 2 * 5 {
				held := []string{[]string{"", "a", "b"}[i%3], []string{"", "a"}[i/3%2]}
				for _, line := range lines {
					w := impl.Window{Pieces: []string{"a", ""}, Size: 2, Heard: heard, Line: line, Held: held, Has: has, Told: i/6 - 1}
					is := ruleGoodWindow(w)
					if impl.GoodWindow(w) != is {
						t.Errorf("%s: good is not %v", windowName(w), is)
					}
					if is {
						good++
					}
				}
			}
		}
	}
	// Nine ways for both ends to know, each with no frame, with either piece, and with a Back of what is had: of one piece three ways have 0, 1, 1.
	if want := 9*3 + 12; good != want {
		t.Errorf("%d are good, not %d", good, want)
	}
}

func TestGoodWindowOfEveryTold(t *testing.T) {
	for many := range 13 {
		for gap := range many + 1 {
			has := slices.DeleteFunc(upTo(many), func(no int) bool { return no == gap })
			w := windowOf(post{pieces: fewPieces(many), size: 1, has: has})
			if w.Told != gap || !impl.GoodWindow(w) {
				t.Errorf("%s: is not good", windowName(w))
			}
			for told := -2; told <= 15; told++ {
				w.Told = told
				if impl.GoodWindow(w) != (told == gap) {
					t.Errorf("%s: good is not %v", windowName(w), told == gap)
				}
			}
		}
	}
}

func TestGoodWindowOfEveryLongLine(t *testing.T) {
	for long := range 40 {
		for _, line := range [][]int{slices.Repeat([]int{1}, long), slices.Repeat([]int{backOf(0)}, long)} {
			w := windowOf(post{pieces: fewPieces(2), size: 1, has: []int{0}, line: line})
			if impl.GoodWindow(w) != (long <= 30) {
				t.Errorf("%d frames: good is %v", long, impl.GoodWindow(w))
			}
		}
	}
}

func TestWindowsAreToldByTheRules(t *testing.T) {
	for _, p := range append(goodPosts(), plainPost()) {
		wantToldOfWindow(t, p)
	}
}

// Every kind, also those that are none, and every K, also those that are none.
func TestStepsAreTheRule(t *testing.T) {
	for _, p := range append(goodPosts(), plainPost()) {
		for kind := -1; kind <= 6; kind++ {
			for k := -2; k <= max(len(p.line), len(p.pieces))+2; k++ {
				wantStep(t, p, impl.WinStep{Kind: kind, K: k})
			}
		}
	}
}

// wantKept asks that a step took nothing back of what was told or heard of.
func wantKept(t *testing.T, ahead impl.Window, s impl.WinStep, behind impl.Window) {
	t.Helper()
	what := windowName(ahead) + ": step " + winStepName(s)
	if behind.Told < ahead.Told || !slices.Equal(behind.Pieces, ahead.Pieces) || behind.Size != ahead.Size {
		t.Errorf("%s: is %s", what, windowName(behind))
	}
	for no := range ahead.Pieces {
		if ahead.Heard[no] && !behind.Heard[no] || ahead.Has[no] && !behind.Has[no] || ahead.Has[no] && behind.Held[no] != ahead.Held[no] {
			t.Errorf("%s: piece %d was taken back: %s", what, no, windowName(behind))
		}
	}
}

// wantPromise9 asks of a window that was played that the first pieces are told, once and in order, and all of them once it is settled.
func wantPromise9(t *testing.T, pieces []string, w impl.Window) {
	t.Helper()
	what := windowName(w)
	told, ok := impl.ToldOf(w)
	if !ok || len(told) != w.Told || len(told) > len(pieces) {
		t.Errorf("%s: told are %q %v", what, told, ok)
		return
	}
	wantTexts(t, what, told, ok, pieces[:len(told)], true)
	settled, _, ok := impl.SettleWindow(w)
	if !ok || len(settled.Heard) != len(pieces) || slices.Contains(settled.Heard, false) || settled.Told != len(pieces) {
		t.Errorf("%s: settled is %s %v", what, windowName(settled), ok)
	}
	told, ok = impl.ToldOf(settled)
	wantTexts(t, what+", settled", told, ok, pieces, true)
}

// playOn plays step by step; it collects what each step tells anew, as who stands behind the receiver would, and has the last window.
func playOn(t *testing.T, pieces []string, size int, l []impl.WinStep) impl.Window {
	t.Helper()
	w, _ := impl.NewWindow(pieces, size)
	var got []string
	for _, s := range l {
		next, ok := impl.StepWindow(w, s)
		if !ok {
			continue
		}
		wantKept(t, w, s, next)
		got = append(got, next.Held[w.Told:next.Told]...)
		w = next
	}
	if !slices.Equal(got, pieces[:len(got)]) || len(got) != w.Told {
		t.Errorf("%s: what came is %q", windowName(w), got)
	}
	return w
}

// someWinStep is most often one that can be done; lossy tells which kinds are more frequent.
func someWinStep(n *numbers, p post, lossy int) impl.WinStep {
	kind := []int{1, 2, 2, 1, 3, 4, 3, 3, 4, 4, 0, 5}[n.below(4+min(lossy, 8))]
	if kind == 1 && n.below(10) > 0 {
		return impl.WinStep{Kind: 1, K: p.open() + n.below(p.size+1)}
	}
	if n.below(20) == 0 {
		return impl.WinStep{Kind: kind, K: n.below(40) - 3}
	}
	return impl.WinStep{Kind: kind, K: n.below(len(p.line) + 1)}
}

func somePlay(n *numbers, pieces []string, size int, many int, lossy int) []impl.WinStep {
	p := post{pieces: pieces, size: size}
	var l []impl.WinStep
	for range many {
		s := someWinStep(n, p, lossy)
		if next, ok := p.step(s); ok {
			p = next
		}
		l = append(l, s)
	}
	return l
}

// mixedPlays are plays of all lengths over lines that lose, double and mix more and less.
func mixedPlays(each int, show func(pieces []string, size int, l []impl.WinStep)) {
	n := &numbers{seed: 99}
	for i := range each {
		pieces := somePieces(n, []int{0, 1, 2, 5, 11, 12}[i%6])
		size := []int{1, 2, 3, 11, 12}[n.below(5)]
		show(pieces, size, somePlay(n, pieces, size, []int{0, 1, 10, 149, 150}[n.below(5)], n.below(9)))
	}
}

// Promise 9: whatever the line loses, doubles and mixes.
func TestToldAreTheFirstPiecesOnceAndInOrder(t *testing.T) {
	allCame := 0
	mixedPlays(600, func(pieces []string, size int, l []impl.WinStep) {
		w, _, ok := impl.PlayWindow(pieces, size, l)
		if !ok {
			t.Fatalf("%d pieces, size %d, %d steps: no play", len(pieces), size, len(l))
		}
		wantPromise9(t, pieces, w)
		wantWindow(t, "step by step", playOn(t, pieces, size, l), true, w, true)
		if len(pieces) > 1 && w.Told == len(pieces) {
			allCame++
		}
	})
	if allCame < 20 {
		t.Errorf("all came in %d plays alone: they try too little", allCame)
	}
}

// Promise 9 at each step of a play.
func TestToldAtEachStep(t *testing.T) {
	mixedPlays(60, func(pieces []string, size int, l []impl.WinStep) {
		for many := range len(l) + 1 {
			w, _, _ := impl.PlayWindow(pieces, size, l[:many])
			wantPromise9(t, pieces, w)
		}
	})
}

func TestPlaysAreTheRule(t *testing.T) {
	mixedPlays(300, func(pieces []string, size int, l []impl.WinStep) {
		posts, did := playPost(pieces, size, l)
		wantPlayedWindow(t, pieces, size, l, windowOf(posts[len(l)]), did)
		wantToldOfWindow(t, posts[len(l)])
	})
}

// Promise 9: every window that few steps lead to, whatever they are.
func TestEveryShortPlayOfAWindow(t *testing.T) {
	for _, pieces := range [][]string{{"a"}, {"a", ""}, {"a", "a", "b"}} {
		for size := 1; size <= 3; size++ {
			first := post{pieces: pieces, size: size}
			seen := map[string]post{windowName(windowOf(first)): first}
			now := []post{first}
			for range 6 {
				var next []post
				for _, p := range now {
					next = append(next, stepsFrom(t, p, seen)...)
				}
				now = next
			}
			for _, p := range seen {
				wantPromise9(t, pieces, windowOf(p))
			}
		}
	}
}

// stepsFrom does all steps from one window; it has those windows that were not seen ahead.
func stepsFrom(t *testing.T, p post, seen map[string]post) []post {
	t.Helper()
	var found []post
	for kind := 1; kind <= 4; kind++ {
		for k := range max(len(p.line), len(p.pieces)) + 1 {
			s := impl.WinStep{Kind: kind, K: k}
			next, ok := wantStep(t, p, s)
			if !ok {
				continue
			}
			wantKept(t, windowOf(p), s, windowOf(next))
			name := windowName(windowOf(next))
			if _, is := seen[name]; !is {
				seen[name] = next
				found = append(found, next)
			}
		}
	}
	return found
}

// winSteps are steps of one kind, one for each K.
func winSteps(kind int, ks ...int) []impl.WinStep {
	var l []impl.WinStep
	for _, k := range ks {
		l = append(l, impl.WinStep{Kind: kind, K: k})
	}
	return l
}

func TestPlayKnownByHand(t *testing.T) {
	pieces := []string{"one", "two", "three"}
	l := slices.Concat(winSteps(1, 1, 0, 2), winSteps(4, 0), winSteps(2, 0, 1), winSteps(3, 0), winSteps(2, 1), winSteps(1, 2))
	// Sent: 1, 0; 2 is beyond. 1 once more: 1 0 1. Taken: 1, its Back goes; 1 again, its Back goes. 0 is lost. The second Back is taken.
	want := post{pieces: pieces, size: 2, has: []int{1}, heard: []int{1}, line: []int{backOf(1)}}
	wantPlayedWindow(t, pieces, 2, l, windowOf(want), []bool{true, true, false, true, true, true, true, true, false})
	w := windowOf(want)
	open, ok := impl.FirstOpen(w)
	wantNumber(t, "open", open, ok, 0, true)
	told, ok := impl.ToldOf(w)
	wantTexts(t, "told", told, ok, nil, true)
	settled, rounds, ok := impl.SettleWindow(w)
	wantWindow(t, "settled", settled, ok, windowOf(post{pieces: pieces, size: 2, has: upTo(3), heard: upTo(3)}), true)
	wantNumber(t, "settled", rounds, ok, 2, true)
	told, ok = impl.ToldOf(settled)
	wantTexts(t, "told", told, ok, []string{"one", "two", "three"}, true)
}

func TestSendsKnownByHand(t *testing.T) {
	p := post{pieces: fewPieces(6), has: []int{0, 2}, heard: []int{0, 2}, line: []int{2}}
	for _, c := range []struct {
		size int
		may  []int
	}{{1, []int{1}}, {2, []int{1}}, {3, []int{1, 3}}, {4, []int{1, 3, 4}}, {5, []int{1, 3, 4, 5}}, {6, []int{1, 3, 4, 5}}, {12, []int{1, 3, 4, 5}}} {
		p.size = c.size
		for k := -2; k <= 15; k++ {
			if !slices.Contains(c.may, k) {
				wantStepRefused(t, windowOf(p), impl.WnSend, k)
				continue
			}
			want := p
			want.line = []int{2, k}
			wantStepDone(t, p, impl.WnSend, k, want)
		}
	}
}

// At FirstOpen, at the last one of the window and at the one beyond, wherever it has come to.
func TestSendsAtBothEndsOfTheWindow(t *testing.T) {
	for many := 1; many <= 12; many++ {
		for size := 1; size <= 12; size++ {
			for open := range many + 1 {
				p := post{pieces: fewPieces(many), size: size, has: upTo(open), heard: upTo(open)}
				for k := -1; k <= 26; k++ {
					_, ok := wantStep(t, p, impl.WinStep{Kind: impl.WnSend, K: k})
					if ok != (k >= open && k < open+size && k < many) {
						t.Errorf("%s: %d is sent %v", windowName(windowOf(p)), k, ok)
					}
				}
			}
		}
	}
}

// What the receiver has may still be sent, as long as the sender has not heard of it; also as often as one likes.
func TestSendsOfWhatIsHad(t *testing.T) {
	p := post{pieces: fewPieces(3), size: 2, has: []int{0, 1}, line: []int{0, backOf(0)}}
	want := p
	want.line = []int{0, backOf(0), 0}
	wantStepDone(t, p, impl.WnSend, 0, want)
	want.line = []int{0, backOf(0), 1}
	wantStepDone(t, p, impl.WnSend, 1, want)
	wantPlayedWindow(t, fewPieces(3), 2, winSteps(1, 0, 0, 1, 0), windowOf(post{pieces: fewPieces(3), size: 2, line: []int{0, 0, 1, 0}}), []bool{true, true, true, true})
}

func TestLineThatIsFull(t *testing.T) {
	full := post{pieces: fewPieces(4), size: 3, has: []int{1}, line: slices.Concat([]int{0, backOf(1), 1}, slices.Repeat([]int{2}, 27))}
	for k := range 3 {
		wantStepDone(t, full, impl.WnSend, k, full)
	}
	wantStepRefused(t, windowOf(full), impl.WnSend, 3)
	for k := range 31 {
		wantStepRefused(t, windowOf(full), impl.WnTwice, k)
	}
	// The frame that leaves makes room for its Back, so that the line is full again.
	want := full
	want.has, want.line = []int{0, 1}, slices.Concat(full.line[1:], []int{backOf(0)})
	wantStepDone(t, full, impl.WnTake, 0, want)
	want.has, want.line = []int{1}, slices.Concat(full.line[:2], full.line[3:], []int{backOf(1)})
	wantStepDone(t, full, impl.WnTake, 2, want)
	want.heard, want.line = []int{1}, slices.Concat(full.line[:1], full.line[2:])
	wantStepDone(t, full, impl.WnTake, 1, want)
	want.heard = nil
	wantStepDone(t, full, impl.WnLose, 1, want)
	// With room for one frame more it is written.
	nearly := full
	nearly.line = full.line[:29]
	want = full
	want.line = slices.Concat(full.line[:29], []int{0})
	wantStepDone(t, nearly, impl.WnSend, 0, want)
	wantStepDone(t, nearly, impl.WnTwice, 0, want)
	want.line = slices.Concat(full.line[:29], []int{backOf(1)})
	wantStepDone(t, nearly, impl.WnTwice, 1, want)
}

// Sends go on being done when the line is full; doubling does not.
func TestPlayOverAFullLine(t *testing.T) {
	want := post{pieces: fewPieces(2), size: 1, line: make([]int, 30)}
	wantPlayedWindow(t, fewPieces(2), 1, winSteps(1, make([]int, 150)...), windowOf(want), slices.Repeat([]bool{true}, 150))
	did := append(slices.Repeat([]bool{true}, 30), make([]bool, 120)...)
	wantPlayedWindow(t, fewPieces(2), 1, append(winSteps(1, 0), winSteps(4, make([]int, 149)...)...), windowOf(want), did)
	want.has = []int{0}
	want.line = slices.Concat(make([]int, 28), []int{backOf(0), 0})
	wantPlayedWindow(t, fewPieces(2), 1, slices.Concat(winSteps(1, make([]int, 31)...), winSteps(2, 29), winSteps(3, 0), winSteps(1, 0, 0)), windowOf(want), slices.Repeat([]bool{true}, 35))
}

func TestTakesKnownByHand(t *testing.T) {
	p := post{pieces: fewPieces(4), size: 4, has: []int{1}, line: []int{1, 0, backOf(1), 3, 1}}
	// A piece that came already: a Back goes all the same.
	wantStepDone(t, p, impl.WnTake, 0, post{pieces: p.pieces, size: 4, has: []int{1}, line: []int{0, backOf(1), 3, 1, backOf(1)}})
	wantStepDone(t, p, impl.WnTake, 4, post{pieces: p.pieces, size: 4, has: []int{1}, line: []int{1, 0, backOf(1), 3, backOf(1)}})
	// One that fills the gap: two are told.
	wantStepDone(t, p, impl.WnTake, 1, post{pieces: p.pieces, size: 4, has: []int{0, 1}, line: []int{1, backOf(1), 3, 1, backOf(0)}})
	// A Back, in the middle of the line.
	wantStepDone(t, p, impl.WnTake, 2, post{pieces: p.pieces, size: 4, has: []int{1}, heard: []int{1}, line: []int{1, 0, 3, 1}})
	// One behind a gap: nothing more is told.
	wantStepDone(t, p, impl.WnTake, 3, post{pieces: p.pieces, size: 4, has: []int{1, 3}, line: []int{1, 0, backOf(1), 1, backOf(3)}})
	wantStepDone(t, p, impl.WnLose, 2, post{pieces: p.pieces, size: 4, has: []int{1}, line: []int{1, 0, 3, 1}})
	wantStepDone(t, p, impl.WnLose, 0, post{pieces: p.pieces, size: 4, has: []int{1}, line: []int{0, backOf(1), 3, 1}})
	wantStepDone(t, p, impl.WnLose, 4, post{pieces: p.pieces, size: 4, has: []int{1}, line: []int{1, 0, backOf(1), 3}})
	wantStepDone(t, p, impl.WnTwice, 2, post{pieces: p.pieces, size: 4, has: []int{1}, line: []int{1, 0, backOf(1), 3, 1, backOf(1)}})
	wantStepDone(t, p, impl.WnTwice, 3, post{pieces: p.pieces, size: 4, has: []int{1}, line: []int{1, 0, backOf(1), 3, 1, 3}})
	for kind := impl.WnTake; kind <= impl.WnTwice; kind++ {
		for _, k := range append([]int{5, 6, 30}, wrongNumbers...) {
			wantStepRefused(t, windowOf(p), kind, k)
		}
		wantStepRefused(t, windowOf(post{pieces: fewPieces(4), size: 4}), kind, 0)
		wantStepRefused(t, windowOf(post{size: 4}), kind, 0)
	}
}

// A Back that comes twice, and a frame of a piece that is heard of, which is answered all the same.
func TestFramesBehindTheirTime(t *testing.T) {
	p := post{pieces: fewPieces(2), size: 1, has: []int{0}, heard: []int{0}, line: []int{backOf(0), 0}}
	wantStepDone(t, p, impl.WnTake, 0, post{pieces: p.pieces, size: 1, has: []int{0}, heard: []int{0}, line: []int{0}})
	wantStepDone(t, p, impl.WnTake, 1, post{pieces: p.pieces, size: 1, has: []int{0}, heard: []int{0}, line: []int{backOf(0), backOf(0)}})
	// A piece that comes twice is answered twice.
	twice := slices.Concat(winSteps(1, 0), winSteps(4, 0), winSteps(2, 0, 0))
	wantPlayedWindow(t, fewPieces(2), 1, twice, windowOf(post{pieces: fewPieces(2), size: 1, has: []int{0}, line: []int{backOf(0), backOf(0)}}), slices.Repeat([]bool{true}, 4))
}

// The pieces come in any order: what is told ends where the first gap is.
func TestPiecesThatFillGaps(t *testing.T) {
	for _, many := range []int{1, 2, 3, 4, 5} {
		eachOrder(upTo(many), func(order []int) {
			steps := winSteps(1, order...)
			var came []int
			for i, no := range order {
				came = append(came, no)
				steps = append(steps, impl.WinStep{Kind: impl.WnTake})
				told := 0
				for slices.Contains(came, told) {
					told++
				}
				w, _, _ := impl.PlayWindow(fewPieces(many), many, steps)
				if w.Told != told || len(w.Line) != many {
					t.Errorf("%v of %v: %s, told should be %d", order[:i+1], order, windowName(w), told)
				}
				wantPromise9(t, fewPieces(many), w)
			}
		})
	}
}

func TestKindsOfStepThatAreNone(t *testing.T) {
	for _, kind := range append([]int{0, 5, 6, 255, 257, 260}, wrongNumbers...) {
		for k := -1; k <= 7; k++ {
			wantStepRefused(t, windowOf(plainPost()), kind, k)
		}
		wantPlayedWindow(t, fewPieces(2), 1, []impl.WinStep{{Kind: kind}, {Kind: impl.WnSend}, {Kind: kind}, {Kind: kind, K: 1}},
			windowOf(post{pieces: fewPieces(2), size: 1, line: []int{0}}), []bool{false, true, false, false})
	}
}

func TestPlaysOfEveryManySteps(t *testing.T) {
	for many := range 160 {
		l := winSteps(1, make([]int, many)...)
		if many > 150 {
			wantRefusedPlay(t, strconv.Itoa(many)+" steps", fewPieces(3), 2, l)
			continue
		}
		posts, did := playPost(fewPieces(3), 2, l)
		wantPlayedWindow(t, fewPieces(3), 2, l, windowOf(posts[many]), did)
	}
	wantRefusedPlay(t, "steps that can't be done", fewPieces(3), 2, make([]impl.WinStep, 151))
	wantPlayedWindow(t, fewPieces(3), 2, make([]impl.WinStep, 150), windowOf(post{pieces: fewPieces(3), size: 2}), make([]bool, 150))
	wantRefusedPlay(t, "many steps", fewPieces(3), 2, make([]impl.WinStep, 5000))
	// All of 12 pieces, each sent, taken and heard of: 36 steps, and no one is left that can be sent.
	var l []impl.WinStep
	for no := range 12 {
		l = append(l, impl.WinStep{Kind: 1, K: no}, impl.WinStep{Kind: 2}, impl.WinStep{Kind: 2})
	}
	all := windowOf(post{pieces: fewPieces(12), size: 1, has: upTo(12), heard: upTo(12)})
	wantPlayedWindow(t, fewPieces(12), 1, append(l, winSteps(1, 0, 11, 12)...), all, append(slices.Repeat([]bool{true}, 36), false, false, false))
}

func TestPlaysOfNoPiece(t *testing.T) {
	var l []impl.WinStep
	for kind := range 6 {
		l = append(l, winSteps(kind, -1, 0, 1, 12)...)
	}
	for _, none := range [][]string{nil, {}, make([]string, 0, 4)} {
		wantPlayedWindow(t, none, 3, l, windowOf(post{size: 3}), make([]bool, 24))
	}
}

func TestSettlesKnownByHand(t *testing.T) {
	pieces := fewPieces(4)
	all := post{pieces: pieces, size: 2, has: upTo(4), heard: upTo(4)}
	with := func(heard []int, has []int, line ...int) post {
		return post{pieces: pieces, size: 2, has: has, heard: heard, line: line}
	}
	for _, c := range []struct {
		from   post
		want   post
		rounds int
	}{
		{with(nil, nil), all, 4},
		{with(nil, upTo(4)), all, 4},
		{with([]int{0}, []int{0, 2}, 0, 1, backOf(2)), all, 3},
		{with([]int{3}, []int{3}), all, 3},
		{with([]int{0, 1, 3}, upTo(4), backOf(2)), all, 1},
		{with([]int{1, 3}, []int{1, 3}, slices.Repeat([]int{0}, 30)...), all, 2},
		{with(nil, []int{1}, slices.Repeat([]int{backOf(1)}, 30)...), all, 4},
		// All is heard of: nothing is done, and the line stays as it is.
		{all, all, 0},
		{with(upTo(4), upTo(4), 2, backOf(1)), with(upTo(4), upTo(4), 2, backOf(1)), 0},
		{with(upTo(4), upTo(4), make([]int, 30)...), with(upTo(4), upTo(4), make([]int, 30)...), 0},
		{post{size: 2}, post{size: 2}, 0},
	} {
		got, rounds, ok := impl.SettleWindow(windowOf(c.from))
		wantWindow(t, windowName(windowOf(c.from))+" settled", got, ok, windowOf(c.want), true)
		wantNumber(t, windowName(windowOf(c.from))+" settled", rounds, ok, c.rounds, true)
		again, rounds, ok := impl.SettleWindow(got)
		wantWindow(t, "settled again", again, ok, got, true)
		wantNumber(t, "settled again", rounds, ok, 0, true)
	}
}

// SettleWindow, told as the document does: by its own steps.
func TestSettleIsItsSteps(t *testing.T) {
	for _, p := range goodPosts() {
		w, rounds := windowOf(p), 0
		for {
			open, ok := impl.FirstOpen(w)
			if !ok || open == len(p.pieces) {
				break
			}
			w.Line = nil
			for _, s := range append(winSteps(1, open), winSteps(2, 0, 0)...) {
				if w, ok = impl.StepWindow(w, s); !ok {
					t.Fatalf("%s: step %s can't be done", windowName(windowOf(p)), winStepName(s))
				}
			}
			rounds++
		}
		settled, got, ok := impl.SettleWindow(windowOf(p))
		wantWindow(t, windowName(windowOf(p)), settled, ok, w, true)
		wantNumber(t, windowName(windowOf(p)), got, ok, rounds, true)
	}
}

// Promise 19: of windows that are not good nothing is told and nothing is done.
func TestWindowsThatAreNotGood(t *testing.T) {
	for _, w := range badWindows() {
		what := windowName(w)
		open, ok := impl.FirstOpen(w)
		wantNumber(t, what, open, ok, 0, false)
		told, ok := impl.ToldOf(w)
		wantTexts(t, what, told, ok, nil, false)
		settled, rounds, ok := impl.SettleWindow(w)
		wantWindow(t, what, settled, ok, impl.Window{}, false)
		wantNumber(t, what, rounds, ok, 0, false)
		for kind := range 6 {
			for k := -1; k <= 6; k++ {
				wantStepRefused(t, w, kind, k)
			}
		}
	}
}

// Promise 19: numbers that are far from all that can be, in every field at once.
func TestWindowOfWrongNumbers(t *testing.T) {
	for _, a := range append([]int{0, 1, 4, math.MaxInt - 11}, wrongNumbers...) {
		for _, b := range append([]int{0, 1, 2}, wrongNumbers...) {
			s := impl.WinStep{Kind: b, K: a}
			for _, p := range edgePosts() {
				wantStep(t, p, s)
				for kind := 1; kind <= 4; kind++ {
					wantStep(t, p, impl.WinStep{Kind: kind, K: a})
				}
			}
			w := spoiled(func(w *impl.Window) { w.Size, w.Told, w.Line[1].No = a, b, b })
			if impl.GoodWindow(w) != ruleGoodWindow(w) {
				t.Errorf("%s: good is not %v", windowName(w), ruleGoodWindow(w))
			}
			for kind := 1; kind <= 4; kind++ {
				wantStepRefused(t, w, kind, a)
			}
			wantPlayedWindow(t, nil, 1, []impl.WinStep{s, {Kind: 1, K: a}}, windowOf(post{size: 1}), []bool{false, false})
		}
	}
}

// overTexts are texts that lie over bytes that can be looked at.
func overTexts(l []string) ([]string, [][]byte) {
	var texts []string
	var bytes [][]byte
	for _, text := range l {
		b := []byte(text)
		texts, bytes = append(texts, overBytes(b)), append(bytes, b)
	}
	return texts, bytes
}

// shownWindow is a window all of whose texts lie over bytes that can be looked at, and whose lists have more behind their lengths.
func shownWindow(w impl.Window) (impl.Window, [][]byte) {
	pieces, bytes := overTexts(w.Pieces)
	texts, heldBytes := overTexts(w.Held)
	line := slices.Clone(w.Line)
	for i, f := range line {
		b := []byte(f.Text)
		line[i].Text = overBytes(b)
		bytes = append(bytes, b)
	}
	shown := impl.Window{Pieces: longer(pieces, "be", "hi", "nd it"), Size: w.Size, Heard: longer(w.Heard, true, false, true), Line: longer(line, impl.Frame{No: 1, Text: "behind"}, impl.Frame{Back: true}),
		Held: longer(texts, "be", "hi"), Has: longer(w.Has, true, true), Told: w.Told}
	return shown, append(bytes, heldBytes...)
}

func heldBools(l []bool) heldList {
	return held(l, strconv.FormatBool, func(x bool) bool { return !x })
}

func heldWindow(w impl.Window) []heldList {
	frames := held(w.Line, frameName, func(f impl.Frame) impl.Frame { return impl.Frame{No: f.No + 1000, Text: f.Text + "+"} })
	return []heldList{heldTexts(w.Pieces), heldBools(w.Heard), frames, heldTexts(w.Held), heldBools(w.Has)}
}

// windowAnswers asks all functions of a window; the windows and the told texts that they answer.
func windowAnswers(w impl.Window) ([]impl.Window, []string) {
	var windows []impl.Window
	for kind := range 6 {
		for _, k := range []int{-1, 0, 1, 2, 5, len(w.Line) - 1, len(w.Line)} {
			next, _ := impl.StepWindow(w, impl.WinStep{Kind: kind, K: k})
			windows = append(windows, next)
		}
	}
	settled, _, _ := impl.SettleWindow(w)
	told, _ := impl.ToldOf(w)
	fresh, _ := impl.NewWindow(w.Pieces, w.Size)
	played, _, _ := impl.PlayWindow(w.Pieces, w.Size, winSteps(1, 0, 1, 2))
	impl.GoodWindow(w)
	impl.FirstOpen(w)
	return append(windows, settled, fresh, played), told
}

func textsOfWindow(w impl.Window) []string {
	texts := slices.Concat(w.Pieces, w.Held)
	for _, f := range w.Line {
		texts = append(texts, f.Text)
	}
	return texts
}

// memoryWindows are good and bad ones.
func memoryWindows() []impl.Window {
	var l []impl.Window
	for _, p := range append(goodPosts(), plainPost()) {
		l = append(l, windowOf(p))
	}
	return append(l, badWindows()...)
}

// Promise 19: nothing that is handed in is changed, good or not, and no text of an answer lies in it.
func TestWindowFunctionsLeaveArgumentsAlone(t *testing.T) {
	for _, w := range memoryWindows() {
		shown, bytes := shownWindow(w)
		lists := heldWindow(shown)
		ahead := shownLists(lists)
		windows, told := windowAnswers(shown)
		if behind := shownLists(lists); !slices.Equal(ahead, behind) {
			t.Errorf("%s: was %q, is %q", windowName(w), ahead, behind)
		}
		texts := told
		for _, answer := range windows {
			texts = append(texts, textsOfWindow(answer)...)
		}
		wantApart(t, texts, bytes...)
	}
}

// Promise 19: each list of an answer has memory of its own, apart from that of what was handed in and of all other lists.
func TestWindowAnswersAreNewMemory(t *testing.T) {
	for i, w := range memoryWindows() {
		// All lists are held against all others: some of the mixed windows are enough.
		if i%12 != 0 && i > 30 {
			continue
		}
		shown, _ := shownWindow(w)
		windows, told := windowAnswers(shown)
		lists := []heldList{heldTexts(told)}
		for _, answer := range windows {
			lists = append(lists, heldWindow(answer)...)
		}
		wantNoneShared(t, windowName(w), append(lists, heldWindow(shown)...), len(lists))
	}
}

// Promise 19: no two lists of one answer have texts that lie in the same bytes. (Go itself has each text of one byte just once.)
func TestTextsOfOneWindowAreApart(t *testing.T) {
	for _, w := range memoryWindows() {
		windows, _ := windowAnswers(w)
		for _, answer := range windows {
			texts := textsOfWindow(answer)
			for i := range texts {
				for _, other := range texts[:i] {
					if len(other) > 1 && shares(texts[i], bytesUnder(other)) {
						t.Fatalf("%s: two texts %q lie in the same bytes", windowName(answer), other)
					}
				}
			}
		}
	}
}

// Promise 19: what lies behind a list's length is neither read nor handed out.
func TestWindowsBehindTheLengthAreNotRead(t *testing.T) {
	for _, w := range memoryWindows() {
		shown, _ := shownWindow(w)
		if impl.GoodWindow(shown) != ruleGoodWindow(w) {
			t.Errorf("%s: good is not %v", windowName(w), ruleGoodWindow(w))
		}
		windows, told := windowAnswers(shown)
		plain, plainTold := windowAnswers(w)
		wantTexts(t, windowName(w), told, true, plainTold, true)
		for i, answer := range windows {
			if windowName(answer) != windowName(plain[i]) {
				t.Errorf("%s: got %s, want %s", windowName(w), windowName(answer), windowName(plain[i]))
			}
			wantNoFramesBehind(t, answer)
		}
	}
}

// wantNoFramesBehind asks that behind the lists of an answer there is just memory that is empty: no frame that left.
func wantNoFramesBehind(t *testing.T, w impl.Window) {
	t.Helper()
	for _, f := range w.Line[len(w.Line):cap(w.Line)] {
		if f != (impl.Frame{}) {
			t.Errorf("%s: behind the line there is %s", windowName(w), frameName(f))
		}
	}
	for _, l := range [][]string{w.Pieces, w.Held} {
		if behind := l[len(l):cap(l)]; strings.Join(behind, "") != "" {
			t.Errorf("%s: behind its texts there is %q", windowName(w), behind)
		}
	}
	for _, l := range [][]bool{w.Heard, w.Has} {
		if slices.Contains(l[len(l):cap(l)], true) {
			t.Errorf("%s: behind its bools there is a true", windowName(w))
		}
	}
}

// A window whose list has what it lacks behind its length is as one that lacks it.
func TestWindowsThatAreCut(t *testing.T) {
	p := plainPost()
	w := windowOf(p)
	w.Line = w.Line[:2]
	wantStepRefused(t, w, impl.WnTake, 2)
	sent, ok := impl.StepWindow(w, impl.WinStep{Kind: impl.WnSend, K: 1})
	p.line = []int{1, backOf(3), 1}
	wantWindow(t, "sent on a line that is cut", sent, ok, windowOf(p), true)
	if name := frameName(w.Line[:3][2]); name != frameName(impl.Frame{No: 0, Text: "ab"}) {
		t.Errorf("behind the line there is %s", name)
	}
	w = windowOf(plainPost())
	w.Has = w.Has[:4]
	wantStepRefused(t, w, impl.WnTake, 0)
}

// Promise 19: PlayWindow leaves its pieces and steps alone, also those behind their length, and what it answers is its own.
func TestPlayWindowLeavesItsArgumentsAlone(t *testing.T) {
	mixedPlays(120, func(pieces []string, size int, l []impl.WinStep) {
		texts, bytes := overTexts(pieces)
		texts = longer(texts, "be", "hi", "nd it")
		steps := longer(l, winSteps(1, 0, 1, 2)...)
		args := []heldList{heldTexts(texts), held(steps, winStepName, func(s impl.WinStep) impl.WinStep { return impl.WinStep{Kind: s.Kind + 50} })}
		ahead := shownLists(args)
		posts, did := playPost(pieces, size, l)
		wantPlayedWindow(t, texts, size, steps, windowOf(posts[len(l)]), did)
		got, gotDid, _ := impl.PlayWindow(texts, size, steps)
		if behind := shownLists(args); !slices.Equal(ahead, behind) {
			t.Errorf("was %q, is %q", ahead, behind)
		}
		wantApart(t, textsOfWindow(got), bytes...)
		wantNoFramesBehind(t, got)
		lists := append(heldWindow(got), heldBools(gotDid))
		wantNoneShared(t, "played", append(lists, args...), len(lists))
	})
}

func TestWindowFunctionsAnswerAlikeTwice(t *testing.T) {
	for _, w := range memoryWindows() {
		windows, told := windowAnswers(w)
		again, toldAgain := windowAnswers(w)
		wantTexts(t, windowName(w), toldAgain, true, told, true)
		for i, answer := range windows {
			if windowName(answer) != windowName(again[i]) {
				t.Errorf("%s: got %s, then %s", windowName(w), windowName(answer), windowName(again[i]))
			}
		}
	}
}
