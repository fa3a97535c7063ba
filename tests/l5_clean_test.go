package tests

import (
	"math"
	"math/big"
	"slices"
	"strconv"
	"strings"
	"testing"

	"loop.example/g00541/impl"
)

// heapOf makes a heap of texts, one a segment: its blocks in order, a star behind each that is Live, and its Age behind an @ where it is not 0.
func heapOf(segs ...string) impl.Heap {
	h := impl.Heap{Segs: make([]impl.Seg, len(segs)), Live: make([][]bool, len(segs))}
	for k, text := range segs {
		for _, word := range strings.Fields(text) {
			number, _ := strconv.Atoi(strings.Trim(word, "@*"))
			if word[0] == '@' {
				h.Segs[k].Age = number
				continue
			}
			h.Segs[k].Blocks = append(h.Segs[k].Blocks, number)
			h.Live[k] = append(h.Live[k], strings.HasSuffix(word, "*"))
		}
	}
	return h
}

// heapName tells all that a heap has, also one that is not good.
func heapName(h impl.Heap) string {
	var s strings.Builder
	for _, seg := range h.Segs {
		s.WriteString("[@" + strconv.Itoa(seg.Age))
		for _, block := range seg.Blocks {
			s.WriteString(" " + strconv.Itoa(block))
		}
		s.WriteString("]")
	}
	for _, live := range h.Live {
		s.WriteString("(")
		for _, is := range live {
			s.WriteString(map[bool]string{true: "*", false: "."}[is])
		}
		s.WriteString(")")
	}
	return s.String()
}

func copyOfHeap(h impl.Heap) impl.Heap {
	c := impl.Heap{Segs: slices.Clone(h.Segs), Live: slices.Clone(h.Live)}
	for k := range c.Segs {
		c.Segs[k].Blocks = slices.Clone(c.Segs[k].Blocks)
	}
	for k := range c.Live {
		c.Live[k] = slices.Clone(c.Live[k])
	}
	return c
}

// ruleGoodHeap is what the document says of a good heap, number by number; blocks are counted by looking through all of the heap for each.
func ruleGoodHeap(h impl.Heap) bool {
	if len(h.Segs) < 2 || len(h.Segs) > 8 || len(h.Live) != len(h.Segs) {
		return false
	}
	for k, seg := range h.Segs {
		if seg.Age < 0 || seg.Age > 1000 || len(seg.Blocks) > 6 || len(seg.Blocks) != len(h.Live[k]) {
			return false
		}
	}
	for _, seg := range h.Segs {
		for _, block := range seg.Blocks {
			if block < 0 || block > 15 || len(rulePlacesOf(h, block)) != 1 {
				return false
			}
		}
	}
	return true
}

// rulePlacesOf are the segments and places at which a block is Live.
func rulePlacesOf(h impl.Heap, block int) [][2]int {
	var l [][2]int
	for k := range h.Segs {
		for i := range h.Segs[k].Blocks {
			if h.Segs[k].Blocks[i] == block && h.Live[k][i] {
				l = append(l, [2]int{k, i})
			}
		}
	}
	return l
}

func ruleLiveIn(h impl.Heap, k int) int {
	many := 0
	for block := range 16 {
		for _, place := range rulePlacesOf(h, block) {
			if place[0] == k {
				many++
			}
		}
	}
	return many
}

func ruleAllBlocks(h impl.Heap) []int {
	var l []int
	for block := range 16 {
		if len(rulePlacesOf(h, block)) > 0 {
			l = append(l, block)
		}
	}
	return l
}

// ruleRoom is the segment that the next block goes to; but is none that it goes to.
func ruleRoom(h impl.Heap, but int) (int, bool) {
	without := -1
	for k := len(h.Segs) - 1; k >= 0; k-- {
		if k != but && len(h.Segs[k].Blocks) == 0 {
			without = k
		}
	}
	for k := range h.Segs {
		if many := len(h.Segs[k].Blocks); k != but && many >= 1 && many <= 5 {
			return k, true
		}
	}
	return max(without, 0), without >= 0
}

// ruleWriteBut is a good heap with a block written anew, elsewhere than into but.
func ruleWriteBut(h impl.Heap, block int, but int) (impl.Heap, bool) {
	to, ok := ruleRoom(h, but)
	if !ok {
		return impl.Heap{}, false
	}
	c := copyOfHeap(h)
	for _, place := range rulePlacesOf(h, block) {
		c.Live[place[0]][place[1]] = false
	}
	c.Segs[to].Blocks = append(c.Segs[to].Blocks, block)
	c.Live[to] = append(c.Live[to], true)
	return c, true
}

func ruleWrite(h impl.Heap, block int) (impl.Heap, bool) {
	if block < 0 || block > 15 {
		return impl.Heap{}, false
	}
	return ruleWriteBut(h, block, -1)
}

func ruleClean(h impl.Heap, k int) (impl.Heap, int, bool) {
	if k < 0 || k >= len(h.Segs) || len(h.Segs[k].Blocks) == 0 {
		return impl.Heap{}, 0, false
	}
	c, many := copyOfHeap(h), 0
	for i, block := range h.Segs[k].Blocks {
		if !h.Live[k][i] {
			continue
		}
		next, ok := ruleWriteBut(c, block, k)
		if !ok {
			return impl.Heap{}, 0, false
		}
		c = next
		many++
	}
	c.Segs[k].Blocks, c.Live[k] = nil, nil
	for i := range c.Segs {
		if c.Segs[i].Age < 1000 {
			c.Segs[i].Age++
		}
	}
	c.Segs[k].Age = 0
	return c, many, true
}

func ruleFraction(h impl.Heap, k int) *big.Rat {
	live := int64(ruleLiveIn(h, k))
	return big.NewRat((6-live)*int64(h.Segs[k].Age+1), live+6)
}

// ruleBetter tells whether one segment is to be picked rather than another.
func ruleBetter(h impl.Heap, how int, a int, b int) bool {
	if how == 1 {
		return ruleLiveIn(h, a) < ruleLiveIn(h, b)
	}
	return ruleFraction(h, a).Cmp(ruleFraction(h, b)) > 0
}

// rulePick is the first full segment than which no full one is better.
func rulePick(h impl.Heap, how int) (int, bool) {
	if how != 1 && how != 2 {
		return 0, false
	}
	full := func(k int) bool { return len(h.Segs[k].Blocks) == 6 }
	for k := range h.Segs {
		beaten := false
		for other := range h.Segs {
			beaten = beaten || full(k) && full(other) && ruleBetter(h, how, other, k)
		}
		if full(k) && !beaten {
			return k, true
		}
	}
	return 0, false
}

func wantHeap(t *testing.T, what string, got impl.Heap, ok bool, want impl.Heap, wantOk bool) {
	t.Helper()
	if heapName(got) != heapName(want) || ok != wantOk {
		t.Errorf("%s: got %s %v, want %s %v", what, heapName(got), ok, heapName(want), wantOk)
	}
	if ok && !impl.GoodHeap(got) {
		t.Errorf("%s: %s is not good", what, heapName(got))
	}
}

func wantWrite(t *testing.T, h impl.Heap, block int) {
	t.Helper()
	want, wantOk := ruleWrite(h, block)
	got, ok := impl.WriteBlock(h, block)
	wantHeap(t, "WriteBlock "+strconv.Itoa(block)+" to "+heapName(h), got, ok, want, wantOk)
}

func wantClean(t *testing.T, h impl.Heap, k int) {
	t.Helper()
	want, wantMany, wantOk := ruleClean(h, k)
	got, many, ok := impl.CleanSeg(h, k)
	what := "CleanSeg " + strconv.Itoa(k) + " of " + heapName(h)
	wantHeap(t, what, got, ok, want, wantOk)
	wantNumber(t, what, many, ok, wantMany, wantOk)
}

func wantPick(t *testing.T, h impl.Heap, how int) {
	t.Helper()
	want, wantOk := rulePick(h, how)
	got, ok := impl.PickSeg(h, how)
	wantNumber(t, "PickSeg "+strconv.Itoa(how)+" of "+heapName(h), got, ok, want, wantOk)
}

// wantWhere holds WhereIs of each block against the one place where it is Live.
func wantWhere(t *testing.T, h impl.Heap) {
	t.Helper()
	for block := -1; block <= 16; block++ {
		want, wantOk := [2]int{}, false
		if places := rulePlacesOf(h, block); len(places) > 0 {
			want, wantOk = places[0], true
		}
		k, i, ok := impl.WhereIs(h, block)
		if k != want[0] || i != want[1] || ok != wantOk {
			t.Errorf("WhereIs %d in %s: got %d %d %v, want %v %v", block, heapName(h), k, i, ok, want, wantOk)
		}
	}
}

// wantAsSaid holds all functions against the rules, on a heap that is good.
func wantAsSaid(t *testing.T, h impl.Heap) {
	t.Helper()
	if !impl.GoodHeap(h) || !ruleGoodHeap(h) {
		t.Fatalf("%s is good", heapName(h))
	}
	free := 0
	for k := -1; k <= len(h.Segs); k++ {
		want, there := 0, k >= 0 && k < len(h.Segs)
		if there {
			want = ruleLiveIn(h, k)
		}
		if there && len(h.Segs[k].Blocks) == 0 {
			free++
		}
		got, ok := impl.LiveIn(h, k)
		wantNumber(t, "LiveIn "+strconv.Itoa(k)+" of "+heapName(h), got, ok, want, there)
		wantClean(t, h, k)
	}
	got, ok := impl.FreeSegs(h)
	wantNumber(t, "FreeSegs of "+heapName(h), got, ok, free, true)
	all, ok := impl.AllBlocks(h)
	wantNumbers(t, "AllBlocks of "+heapName(h), all, ok, ruleAllBlocks(h), true)
	wantWhere(t, h)
	for block := -1; block <= 16; block++ {
		wantWrite(t, h, block)
	}
	for how := -1; how <= 4; how++ {
		wantPick(t, h, how)
	}
}

// someHeap is any good heap of so many segments: for each block one of the places where it was written is chosen to be Live.
func someHeap(n *numbers, segs int, kinds int) impl.Heap {
	h := impl.Heap{Segs: make([]impl.Seg, segs), Live: make([][]bool, segs)}
	longs := []int{0, 0, 6, 6, 6, 6, 1, 2, 3, 4, 5, 5}
	ages := []int{0, 0, 1, 2, 3, 4, 10, 998, 999, 1000}
	var at [16][][2]int
	for k := range segs {
		long := longs[n.below(len(longs))]
		for i := range long {
			block := n.below(kinds)
			h.Segs[k].Blocks = append(h.Segs[k].Blocks, block)
			at[block] = append(at[block], [2]int{k, i})
		}
		h.Live[k] = make([]bool, long)
		h.Segs[k].Age = ages[n.below(len(ages))]
	}
	for _, places := range at {
		if len(places) > 0 {
			place := places[n.below(len(places))]
			h.Live[place[0]][place[1]] = true
		}
	}
	return h
}

func someHeaps() []impl.Heap {
	var l []impl.Heap
	n := &numbers{seed: 55}
	for range 60 {
		for segs := 2; segs <= 8; segs++ {
			l = append(l, someHeap(n, segs, 16), someHeap(n, segs, 1+n.below(16)))
		}
	}
	return l
}

// edgeHeaps are good, and lie at what the chapter names.
func edgeHeaps() []impl.Heap {
	return []impl.Heap{
		heapOf("", ""), heapOf("", "", "", "", "", "", "", ""), heapOf("@1000", "@0"), heapOf("0*", "@1000"), heapOf("", "15*"),
		heapOf("0* 1* 2* 3* 4* 5*", ""), heapOf("", "0* 1* 2* 3* 4* 5*"), heapOf("0* 1* 2* 3* 4* 5*", "6* 7* 8* 9* 10* 11*"), heapOf("0* 1* 2* 3* 4* 5*", "6* 7* 8* 9* 10*"), heapOf("0* 1* 2* 3* 4* 5*", "6* 7* 8* 9* 10*", ""),
		heapOf("3 3 3 3 3 3*", "@7"), heapOf("3* 3 3 3 3 3", "3 3 3 3 3 3"), heapOf("3 3", "3 3*"), heapOf("1 2", "2 1", "1* 2*"), heapOf("0 1*", "0*", ""), heapOf("0* 1* 2* 3* 4* 5*", "0 1 2 3 4 5", "@1000 5 4 3 2 1 0"),
		heapOf("0* 1* 2* 3* 4* 5*", "6* 7* 8* 9* 10* 11*", "12* 13* 14* 15* 0 1", "2 3 4 5 6 7", "8 9 10 11 12 13", "14 15 0 1 2 3", "4 5 6 7 8 9", "10 11 12 13 14 15"),
		heapOf("0*", "1*", "2*", "3*", "4*", "5*", "6*", "7*"), heapOf("", "", "", "", "", "", "", "15* @1000"),
	}
}

// badShapes are not good for how many segments, blocks or marks they have.
func badShapes() []impl.Heap {
	long := heapOf("0* 1* 2* 3* 4* 5*", "")
	more := impl.Heap{Segs: long.Segs, Live: append(copyOfHeap(long).Live, nil)}
	wider := impl.Heap{Segs: long.Segs, Live: append(copyOfHeap(long).Live, []bool{true})}
	fewer := impl.Heap{Segs: long.Segs, Live: long.Live[:1]}
	markMore, markFewer, markNone, markBeside := copyOfHeap(long), copyOfHeap(long), copyOfHeap(long), copyOfHeap(long)
	markMore.Live[0] = append(markMore.Live[0], false)
	markFewer.Live[0] = markFewer.Live[0][:5]
	markNone.Live[0] = nil
	markBeside.Live[1] = []bool{false}
	return []impl.Heap{
		{}, heapOf(""), heapOf("0*"), heapOf("0* 1* 2* 3* 4* 5*"), heapOf("", "", "", "", "", "", "", "", ""), heapOf("0*", "1*", "2*", "3*", "4*", "5*", "6*", "7*", "8*"), {Segs: make([]impl.Seg, 500), Live: make([][]bool, 500)},
		{Segs: make([]impl.Seg, 2)}, {Live: make([][]bool, 2)}, {Segs: make([]impl.Seg, 2), Live: make([][]bool, 1)}, {Segs: make([]impl.Seg, 2), Live: make([][]bool, 3)}, {Segs: make([]impl.Seg, 1), Live: make([][]bool, 2)}, {Segs: make([]impl.Seg, 8), Live: make([][]bool, 9)}, {Segs: make([]impl.Seg, 9), Live: make([][]bool, 8)},
		more, wider, fewer, markMore, markFewer, markNone, markBeside,
		heapOf("0* 1* 2* 3* 4* 5* 6*", ""), heapOf("", "0* 1* 2* 3* 4* 5* 6*"), heapOf("3 3 3 3 3 3 3*", ""), heapOf(strings.Repeat("3 ", 90)+"3*", "3 3"),
	}
}

// badNumbers are not good for one number or mark that they have.
func badNumbers() []impl.Heap {
	l := []impl.Heap{
		heapOf("3* 3*", ""), heapOf("3*", "3*"), heapOf("3* 4*", "", "5* 3*"), heapOf("0* 1* 2* 3* 4* 0*", ""), heapOf("3* 3* 3", ""), heapOf("15*", "", "", "", "", "", "", "15*"),
		heapOf("3", ""), heapOf("3 3", "3"), heapOf("", "0"), heapOf("0* 1 2*", ""), heapOf("0* 1* 2* 3* 4* 5", ""), heapOf("", "15 14*"), heapOf("0* 1", "2*", "1"), heapOf("0 0", "1* 1*"),
		heapOf("@1001", ""), heapOf("", "@1001"), heapOf("0* @1001", ""), heapOf("@-1", ""), heapOf("", "@-1"), heapOf("0*", "1* @-1"),
		heapOf("-1*", ""), heapOf("-1", ""), heapOf("", "0* -1*"), heapOf("16*", ""), heapOf("16", ""), heapOf("", "0* 16*"), heapOf("256*", ""), heapOf("", "", "0* 1* 2* 3* 4* 16*"),
	}
	for _, wrong := range wrongNumbers {
		age, block, dead := heapOf("0* 1*", "2*"), heapOf("0* 1*", "2*"), heapOf("0* 1*", "2* 3")
		age.Segs[1].Age, block.Segs[0].Blocks[1], dead.Segs[1].Blocks[1] = wrong, wrong, wrong
		l = append(l, age, block, dead)
	}
	return l
}

func badHeaps() []impl.Heap {
	return append(badShapes(), badNumbers()...)
}

func TestCleanConstants(t *testing.T) {
	if impl.MaxSegs != 8 || impl.SegBlocks != 6 {
		t.Error(impl.MaxSegs, impl.SegBlocks)
	}
}

func TestGoodHeap(t *testing.T) {
	for _, h := range append(edgeHeaps(), someHeaps()...) {
		if !impl.GoodHeap(h) || !ruleGoodHeap(h) {
			t.Errorf("%s is good", heapName(h))
		}
	}
	for _, h := range badHeaps() {
		if impl.GoodHeap(h) || ruleGoodHeap(h) {
			t.Errorf("%s is not good", heapName(h))
		}
	}
}

func TestGoodHeapOfEveryManySegments(t *testing.T) {
	for segs := range 20 {
		h := impl.Heap{Segs: make([]impl.Seg, segs), Live: make([][]bool, segs)}
		if impl.GoodHeap(h) != (segs >= 2 && segs <= 8) {
			t.Errorf("%d segments: good is %v", segs, impl.GoodHeap(h))
		}
		for lives := range 20 {
			h.Live = make([][]bool, lives)
			if impl.GoodHeap(h) != (segs >= 2 && segs <= 8 && lives == segs) {
				t.Errorf("%d segments and %d of Live: good is %v", segs, lives, impl.GoodHeap(h))
			}
		}
	}
}

func TestGoodHeapOfEveryManyBlocksAndMarks(t *testing.T) {
	for many := range 10 {
		for marks := range 10 {
			h := impl.Heap{Segs: make([]impl.Seg, 3), Live: make([][]bool, 3)}
			h.Segs[1].Blocks = make([]int, many)
			h.Live[1] = make([]bool, marks)
			if marks > 0 {
				h.Live[1][marks-1] = true
			}
			if impl.GoodHeap(h) != (many <= 6 && marks == many) {
				t.Errorf("%d blocks and %d marks: good is %v", many, marks, impl.GoodHeap(h))
			}
		}
	}
}

func TestGoodHeapAgesAndBlocks(t *testing.T) {
	for _, age := range append([]int{-1, 0, 1, 500, 999, 1000, 1001, 1002, 65536}, wrongNumbers...) {
		for k := range 3 {
			h := heapOf("0*", "", "2*")
			h.Segs[k].Age = age
			if impl.GoodHeap(h) != (age >= 0 && age <= 1000) {
				t.Errorf("an Age of %d in segment %d: good is %v", age, k, impl.GoodHeap(h))
			}
		}
	}
	for _, block := range append([]int{-1, 0, 1, 14, 15, 16, 17, 256, 272}, wrongNumbers...) {
		for k := range 3 {
			h := heapOf("3* 4*", "5* 6*", "7* 8*")
			h.Segs[k].Blocks[1] = block
			if impl.GoodHeap(h) != (block >= 0 && block <= 15) {
				t.Errorf("block %d in segment %d: good is %v", block, k, impl.GoodHeap(h))
			}
		}
	}
}

// shortSegs are all segments of at most so many blocks, 0 and 1, each Live or not.
func shortSegs(blocks int) []string {
	l := []string{""}
	for from := 0; blocks > 0; blocks-- {
		end := len(l)
		for _, ahead := range l[from:end] {
			for _, word := range []string{" 0", " 0*", " 1", " 1*"} {
				l = append(l, ahead+word)
			}
		}
		from = end
	}
	return l
}

// Every heap of two short segments is held against the rules, whether it is good and what all functions answer.
func TestEveryShortHeap(t *testing.T) {
	good := 0
	for _, a := range shortSegs(3) {
		for _, b := range shortSegs(3) {
			h := heapOf(a, b)
			if impl.GoodHeap(h) != ruleGoodHeap(h) {
				t.Fatalf("%s: good is %v", heapName(h), impl.GoodHeap(h))
			}
			if ruleGoodHeap(h) {
				good++
				wantAsSaid(t, h)
			}
		}
	}
	if good < 500 {
		t.Errorf("only %d were good", good)
	}
}

func TestCleaningIsTheRule(t *testing.T) {
	for _, h := range append(edgeHeaps(), someHeaps()...) {
		wantAsSaid(t, h)
	}
}

// Promise 5: a segment that is cleaned is free, and every block is there as ahead.
func TestCleanedSegmentIsFree(t *testing.T) {
	cleaned := 0
	for _, h := range append(edgeHeaps(), someHeaps()...) {
		for k := range h.Segs {
			got, many, ok := impl.CleanSeg(h, k)
			if !ok {
				continue
			}
			cleaned++
			if len(got.Segs) != len(h.Segs) || len(got.Segs[k].Blocks) != 0 || len(got.Live[k]) != 0 || got.Segs[k].Age != 0 || many != ruleLiveIn(h, k) || !ruleGoodHeap(got) {
				t.Fatalf("%d of %s: got %s and %d", k, heapName(h), heapName(got), many)
			}
			ahead, _ := impl.AllBlocks(h)
			behind, ok := impl.AllBlocks(got)
			wantNumbers(t, "AllBlocks", behind, ok, ahead, true)
			wantCleanedApart(t, h, got, k)
			wantWhere(t, got)
		}
	}
	if cleaned < 500 {
		t.Errorf("only %d were cleaned", cleaned)
	}
}

// wantCleanedApart holds all that lies outside a cleaned segment: its Age is one more, it has what it had in front, and blocks that were Live there still are.
func wantCleanedApart(t *testing.T, h impl.Heap, got impl.Heap, k int) {
	t.Helper()
	for i, seg := range h.Segs {
		long := len(seg.Blocks)
		if i == k {
			continue
		}
		if got.Segs[i].Age != min(seg.Age+1, 1000) {
			t.Errorf("%d of %s: Age %d became %d", k, heapName(h), seg.Age, got.Segs[i].Age)
		}
		if len(got.Segs[i].Blocks) < long || !slices.Equal(got.Segs[i].Blocks[:long], seg.Blocks) || !slices.Equal(got.Live[i][:long], h.Live[i]) || slices.Contains(got.Live[i][long:], false) {
			t.Errorf("%d of %s: segment %d became %s", k, heapName(h), i, heapName(got))
		}
	}
}

// Promise 5: a block that is written is Live at its new place alone, and every other one where it was.
func TestWrittenBlockIsLiveAtItsNewPlace(t *testing.T) {
	for _, h := range append(edgeHeaps(), someHeaps()...) {
		for block := range 16 {
			got, ok := impl.WriteBlock(h, block)
			if !ok {
				continue
			}
			to, _ := ruleRoom(h, -1)
			for other := range 16 {
				want := rulePlacesOf(h, other)
				if other == block {
					want = [][2]int{{to, len(h.Segs[to].Blocks)}}
				}
				if !slices.Equal(rulePlacesOf(got, other), want) {
					t.Errorf("WriteBlock %d to %s: %d is at %v, want %v", block, heapName(h), other, rulePlacesOf(got, other), want)
				}
			}
			for k := range h.Segs {
				if got.Segs[k].Age != h.Segs[k].Age {
					t.Errorf("WriteBlock %d to %s: Ages changed: %s", block, heapName(h), heapName(got))
				}
			}
		}
	}
}

// Promise 5: no full segment is better than the one that is picked, and none ahead of it is as good.
func TestPickedSegmentIsTheBest(t *testing.T) {
	picked := 0
	for _, h := range append(edgeHeaps(), someHeaps()...) {
		for how := 1; how <= 2; how++ {
			best, ok := impl.PickSeg(h, how)
			if !ok {
				continue
			}
			picked++
			if len(h.Segs[best].Blocks) != 6 {
				t.Errorf("%d of %s is not full", best, heapName(h))
			}
			for k, seg := range h.Segs {
				if len(seg.Blocks) == 6 && (ruleBetter(h, how, k, best) || k < best && !ruleBetter(h, how, best, k)) {
					t.Errorf("how %d of %s: got %d, and %d is as good", how, heapName(h), best, k)
				}
			}
		}
	}
	if picked < 500 {
		t.Errorf("only %d were picked", picked)
	}
}

// oneFreeRestFull tells whether only one segment has room, so that one has to be cleaned ahead of the next write.
func oneFreeRestFull(h impl.Heap) bool {
	free, full := 0, 0
	for _, seg := range h.Segs {
		switch len(seg.Blocks) {
		case 0:
			free++
		case 6:
			full++
		}
	}
	return free == 1 && full == len(h.Segs)-1
}

// Promise 5: over many writes and cleans no block is lost, none comes that was not written, and there is room for ever, as some block of the full segments is always dead.
func TestWritesAndCleansLoseNothing(t *testing.T) {
	n := &numbers{seed: 5}
	for segs := 2; segs <= 8; segs++ {
		h := impl.Heap{Segs: make([]impl.Seg, segs), Live: make([][]bool, segs)}
		var written [16]bool
		for step := range 300 {
			var ok bool
			if oneFreeRestFull(h) {
				k, _ := impl.PickSeg(h, 1+step%2)
				h, _, ok = impl.CleanSeg(h, k)
			} else {
				block := n.below(min(16, 6*segs-7))
				written[block] = true
				h, ok = impl.WriteBlock(h, block)
			}
			if !ok {
				t.Fatalf("%d segments: no room at step %d", segs, step)
			}
			var want []int
			for block, was := range written {
				if was {
					want = append(want, block)
				}
			}
			all, ok := impl.AllBlocks(h)
			wantNumbers(t, "AllBlocks", all, ok, want, true)
			wantAsSaid(t, h)
		}
	}
}

func TestWritesKnownByHand(t *testing.T) {
	for _, c := range []struct {
		what  string
		h     impl.Heap
		block int
		want  impl.Heap
	}{
		{"into nothing", heapOf("", ""), 7, heapOf("7*", "")},
		{"behind the first one", heapOf("1*", "2*"), 7, heapOf("1* 7*", "2*")},
		{"behind one with blocks, not into a free one ahead", heapOf("@3", "2* @4"), 7, heapOf("@3", "2* 7* @4")},
		{"the last place of one", heapOf("0* 1* 2* 3* 4*", ""), 5, heapOf("0* 1* 2* 3* 4* 5*", "")},
		{"past a full one", heapOf("0* 1* 2* 3* 4* 5*", "6*", ""), 7, heapOf("0* 1* 2* 3* 4* 5*", "6* 7*", "")},
		{"past a full one and a free one", heapOf("0* 1* 2* 3* 4* 5*", "", "6*"), 7, heapOf("0* 1* 2* 3* 4* 5*", "", "6* 7*")},
		{"only free ones have room", heapOf("0* 1* 2* 3* 4* 5*", "", ""), 7, heapOf("0* 1* 2* 3* 4* 5*", "7*", "")},
		{"the free one is the last one", heapOf("0* 1* 2* 3* 4* 5*", "6* 7* 8* 9* 10* 11*", "@9"), 15, heapOf("0* 1* 2* 3* 4* 5*", "6* 7* 8* 9* 10* 11*", "15* @9")},
		{"Live in the one that it goes to", heapOf("1* 2*", ""), 1, heapOf("1 2* 1*", "")},
		{"Live in a later one", heapOf("1* 2*", "7*"), 7, heapOf("1* 2* 7*", "7")},
		{"Live in a full one ahead", heapOf("0* 1* 2* 3* 4* 5*", "6*"), 3, heapOf("0* 1* 2* 3 4* 5*", "6* 3*")},
		{"Live in a full one, into a free one", heapOf("0* 1* 2* 3* 4* 5*", ""), 0, heapOf("0 1* 2* 3* 4* 5*", "0*")},
		{"written twice and more", heapOf("3 3*", "3 3 @1000"), 3, heapOf("3 3 3*", "3 3 @1000")},
	} {
		got, ok := impl.WriteBlock(c.h, c.block)
		wantHeap(t, c.what, got, ok, c.want, true)
	}
	full := heapOf("0* 1* 2* 3* 4* 5*", "6* 7* 8 8 8 8*")
	for block := range 16 {
		got, ok := impl.WriteBlock(full, block)
		wantHeap(t, "no room", got, ok, impl.Heap{}, false)
	}
}

func TestPicksKnownByHand(t *testing.T) {
	const live6, live6b = "0* 1* 2* 3* 4* 5*", "6* 7* 8* 9* 10* 11*"
	for _, c := range []struct {
		what string
		h    impl.Heap
		how  [2]int
	}{
		{"one alone is full", heapOf("0 1*", live6b, "0*"), [2]int{1, 1}},
		{"all Live in each", heapOf(live6, live6b), [2]int{0, 0}},
		{"all Live in each, the later one older", heapOf(live6, live6b+" @1000"), [2]int{0, 0}},
		{"fewer Live in the later one", heapOf(live6, "6* 7* 8* 9* 10* 10"), [2]int{1, 1}},
		{"none Live in several", heapOf(live6, "0 1 2 3 4 5", "5 4 3 2 1 0"), [2]int{1, 1}},
		{"none Live in several, the later one older", heapOf(live6, "0 1 2 3 4 5", "5 4 3 2 1 0 @1"), [2]int{1, 2}},
		{"one with few Live that is not full", heapOf("6 6 6 6 6", live6, "6* 7* 8* 9* 10* 10"), [2]int{2, 2}},
		// 3/9 and 4/8: divided as whole numbers both are 0
		{"fractions below 1", heapOf("0* 1* 2* 2 2 2", "4* 5* 5 5 5 5"), [2]int{1, 1}},
		// 4/8 and 9/9, then 9/9 and 12/8: more Live, but older
		{"older and more Live", heapOf("4* 5* 5 5 5 5", "0* 1* 2* 2 2 2 @2"), [2]int{0, 1}},
		{"older, but not enough", heapOf("4* 5* 5 5 5 5 @2", "0* 1* 2* 2 2 2 @2"), [2]int{0, 0}},
		// 4*13/8 is 6 and a half, 3*19/9 is 6 and a third: as whole numbers both are 6
		{"unlike behind the whole number", heapOf("0* 1* 2* 2 2 2 @18", "4* 5* 5 5 5 5 @12"), [2]int{1, 1}},
		{"unlike behind the whole number, the other way round", heapOf("4* 5* 5 5 5 5 @12", "0* 1* 2* 2 2 2 @18"), [2]int{0, 0}},
		// 8/8, 9/9, 10/10 and 11/11 are alike, and 5/7 is less
		{"alike, not written alike", heapOf("15* 15 15 15 15 15", "0* 1* 1 1 1 1 @1", "2* 3* 4* 4 4 4 @2"), [2]int{0, 1}},
		{"alike, not written alike, the other way round", heapOf("15* 15 15 15 15 15", "2* 3* 4* 4 4 4 @2", "0* 1* 1 1 1 1 @1"), [2]int{0, 1}},
		{"alike with four and five Live", heapOf("0* 1* 2* 3* 4* 4 @10", "5* 6* 7* 8* 8 8 @4"), [2]int{1, 0}},
		{"alike with five and four Live", heapOf("5* 6* 7* 8* 8 8 @4", "0* 1* 2* 3* 4* 4 @10"), [2]int{0, 0}},
		{"as old as can be", heapOf("0* 1* 2* 3* 4* 4 @1000", "5* 6* 7* 8* 8 8 @454", "9* 9 9 9 9 9 @126"), [2]int{2, 0}},
		{"as old as can be, one more year", heapOf("0* 1* 2* 3* 4* 4 @1000", "5* 6* 7* 8* 8 8 @455", "9* 9 9 9 9 9 @126"), [2]int{2, 1}},
	} {
		for i, want := range c.how {
			got, ok := impl.PickSeg(c.h, i+1)
			wantNumber(t, c.what+", how "+strconv.Itoa(i+1), got, ok, want, true)
		}
	}
}

// pairOfFull is a heap with two full segments with so many Live ones and of such Ages; all blocks that lack are Live in two others.
func pairOfFull(live [2]int, ages [2]int) impl.Heap {
	h := heapOf("", "", "0* 1* 2*", "3* 4* 5*")
	for k := range 2 {
		for i := range 6 {
			block, is := i, i < live[k]
			if is {
				block = 6 + 5*k + i
			}
			h.Segs[k].Blocks = append(h.Segs[k].Blocks, block)
			h.Live[k] = append(h.Live[k], is)
		}
		h.Segs[k].Age = ages[k]
	}
	return h
}

// Every two fractions with at most five Live and small Ages, and at the greatest one.
func TestPickOfEveryTwoFractions(t *testing.T) {
	ages := []int{0, 1, 2, 3, 4, 5, 6, 7, 9, 10, 12, 13, 18, 454, 998, 999, 1000}
	for i := range 36 {
		for _, a := range ages {
			for _, b := range ages {
				h := pairOfFull([2]int{i / 6, i % 6}, [2]int{a, b})
				if !impl.GoodHeap(h) {
					t.Fatalf("%s is good", heapName(h))
				}
				wantPick(t, h, 1)
				wantPick(t, h, 2)
			}
		}
	}
}

func TestPickSegWrong(t *testing.T) {
	full := heapOf("0* 1* 2* 3* 4* 5*", "0 1 2 3 4 5", "")
	for _, how := range append([]int{0, 3, 4, 257, 258}, wrongNumbers...) {
		got, ok := impl.PickSeg(full, how)
		wantNumber(t, "how "+strconv.Itoa(how), got, ok, 0, false)
	}
	for _, h := range []impl.Heap{heapOf("", ""), heapOf("0*", ""), heapOf("0* 1* 2* 3* 4*", "5* 6* 7* 8* 9*"), heapOf("", "0 0 0 0 0*", "")} {
		for how := range 4 {
			got, ok := impl.PickSeg(h, how)
			wantNumber(t, "none is full in "+heapName(h), got, ok, 0, false)
		}
	}
}

func TestCleansKnownByHand(t *testing.T) {
	for _, c := range []struct {
		what string
		h    impl.Heap
		k    int
		want impl.Heap
		many int
	}{
		{"into a free one", heapOf("0* 1 1* @5", ""), 0, heapOf("", "0* 1* @1"), 2},
		{"into a free one ahead", heapOf("", "0* 1 1* @5"), 1, heapOf("0* 1* @1", ""), 2},
		{"none into itself, though it has room", heapOf("0* 1*", "2*", ""), 0, heapOf("", "2* 0* 1* @1", "@1"), 2},
		{"none into itself, the later one", heapOf("", "2*", "0*"), 2, heapOf("@1", "2* 0* @1", ""), 1},
		{"nothing that is Live", heapOf("0 1 0 1 0 1 @9", "0* 1* @3"), 0, heapOf("", "0* 1* @4"), 0},
		{"nothing that is Live, and no room", heapOf("0 1 2", "0* 1* 2* 3* 4* 5*"), 0, heapOf("", "0* 1* 2* 3* 4* 5* @1"), 0},
		{"in the order written", heapOf("5* 3* 4* 3 0* @9", "0"), 0, heapOf("", "0 5* 3* 4* 0* @1"), 4},
		{"dead ones stay where they are elsewhere", heapOf("3* 4*", "3 4"), 0, heapOf("", "3 4 3* 4* @1"), 2},
		{"over two segments", heapOf("0* 1* 2*", "3* 4* 5* 6* 7*", "", ""), 0, heapOf("", "3* 4* 5* 6* 7* 0* @1", "1* 2* @1", "@1"), 3},
		{"a free one is taken last of all", heapOf("0* 1* 2*", "", "3* 4* 5* 6* 7*", ""), 0, heapOf("", "1* 2* @1", "3* 4* 5* 6* 7* 0* @1", "@1"), 3},
		{"just room for all", heapOf("0* 1* 2*", "3* 4* 5*"), 0, heapOf("", "3* 4* 5* 0* 1* 2* @1"), 3},
		{"just room for all in two", heapOf("0* 1* 2* 3* 4* 5*", "6* 7* 8* 9*", "10* 11*"), 0, heapOf("", "6* 7* 8* 9* 0* 1* @1", "10* 11* 2* 3* 4* 5* @1"), 6},
		{"just room for all in a free one", heapOf("6* 7* 8* 9* 10* 11*", "0* 1* 2* 3* 4* 5*", ""), 1, heapOf("6* 7* 8* 9* 10* 11* @1", "", "0* 1* 2* 3* 4* 5* @1"), 6},
		{"Ages of all kinds", heapOf("0* @1000", "@1000", "@999", "@0", "1* @998"), 0, heapOf("", "@1000", "@1000", "@1", "1* 0* @999"), 1},
	} {
		got, many, ok := impl.CleanSeg(c.h, c.k)
		wantHeap(t, c.what, got, ok, c.want, true)
		wantNumber(t, c.what, many, ok, c.many, true)
	}
}

func wantNotCleaned(t *testing.T, what string, h impl.Heap, k int) {
	t.Helper()
	got, many, ok := impl.CleanSeg(h, k)
	wantHeap(t, what, got, ok, impl.Heap{}, false)
	wantNumber(t, what, many, ok, 0, false)
}

func TestCleanWithoutRoom(t *testing.T) {
	for _, h := range []impl.Heap{
		heapOf("0* 1* 2*", "3* 4* 5* 6*"), heapOf("0*", "3* 4* 5* 6* 7* 8*"), heapOf("0* 1* 2* 3* 4* 5*", "6*"), heapOf("0* 1* 2* 3* 4* 5*", "6* 7* 8* 9* 10* 11*"),
		heapOf("0* 1* 2* 3* 4* 5*", "6* 7* 8* 9*", "10* 11* 12*"), heapOf("0* 1* 1 1 1 1", "3* 4* 5* 6* 7*"), heapOf("0* 0 0 0", "3* 3 3 3 3 3"),
	} {
		wantNotCleaned(t, "room for all but one or fewer in "+heapName(h), h, 0)
	}
}

func TestCleanSegWrong(t *testing.T) {
	h := heapOf("0* 1*", "", "2* 2 @8", "")
	for _, k := range append([]int{1, 3, 4, 5, 8, 256}, wrongNumbers...) {
		wantNotCleaned(t, "segment "+strconv.Itoa(k), h, k)
	}
	for _, empty := range []impl.Heap{heapOf("", ""), heapOf("@1000", "@5", "@1"), heapOf("", "", "", "", "", "", "", "")} {
		for k := range empty.Segs {
			wantNotCleaned(t, "a segment without blocks", empty, k)
		}
	}
}

func TestWriteBlockWrong(t *testing.T) {
	for _, block := range append([]int{16, 17, 256, 271}, wrongNumbers...) {
		for _, h := range []impl.Heap{heapOf("", ""), heapOf("0* 15*", "1*"), heapOf("0* 1* 2* 3* 4* 5*", "")} {
			got, ok := impl.WriteBlock(h, block)
			wantHeap(t, "WriteBlock "+strconv.Itoa(block), got, ok, impl.Heap{}, false)
		}
	}
}

func TestLiveInAndWhereIsWrong(t *testing.T) {
	h := heapOf("0* 1*", "3 3*")
	for _, wrong := range append([]int{2, 8, 16, 256, 259}, wrongNumbers...) {
		many, ok := impl.LiveIn(h, wrong)
		wantNumber(t, "LiveIn "+strconv.Itoa(wrong), many, ok, 0, false)
		k, i, ok := impl.WhereIs(h, wrong)
		if k != 0 || i != 0 || ok {
			t.Errorf("WhereIs %d: got %d %d %v", wrong, k, i, ok)
		}
	}
}

func TestHeapsThatAreNotGood(t *testing.T) {
	for _, h := range badHeaps() {
		what := heapName(h)
		for _, i := range []int{0, 1, 2, 3, 15, -1, math.MaxInt} {
			got, ok := impl.WriteBlock(h, i)
			wantHeap(t, what, got, ok, impl.Heap{}, false)
			wantNotCleaned(t, what, h, i)
			many, ok := impl.LiveIn(h, i)
			wantNumber(t, what, many, ok, 0, false)
			k, ok := impl.PickSeg(h, i)
			wantNumber(t, what, k, ok, 0, false)
			if k, place, ok := impl.WhereIs(h, i); k != 0 || place != 0 || ok {
				t.Errorf("WhereIs %d in %s: got %d %d %v", i, what, k, place, ok)
			}
		}
		many, ok := impl.FreeSegs(h)
		wantNumber(t, what, many, ok, 0, false)
		all, ok := impl.AllBlocks(h)
		wantNumbers(t, what, all, ok, nil, false)
	}
}

// longer is a list in longer memory, with other things behind its length.
func longer[T any](l []T, behind ...T) []T {
	return append(append(make([]T, 0, len(l)+len(behind)+2), l...), behind...)[:len(l)]
}

// shownHeap is a heap all of whose lists have blocks and marks behind their lengths.
func shownHeap(h impl.Heap) impl.Heap {
	c := copyOfHeap(h)
	for k := range c.Segs {
		c.Segs[k].Blocks = longer(c.Segs[k].Blocks, 9, 3, -7, 99)
	}
	for k := range c.Live {
		c.Live[k] = longer(c.Live[k], true, true, false, true)
	}
	c.Segs = longer(c.Segs, impl.Seg{Blocks: []int{8}, Age: 4}, impl.Seg{Age: -3})
	c.Live = longer(c.Live, []bool{true}, []bool{false, true})
	return c
}

// heldList is a list of which all memory can be looked at and changed, also what lies behind its length.
type heldList struct {
	show   func() string
	change func()
}

func held[T any](l []T, show func(T) string, changed func(T) T) heldList {
	all := l[:cap(l)]
	return heldList{
		show: func() string {
			var s strings.Builder
			for _, x := range all {
				s.WriteString(show(x) + " ")
			}
			return s.String()
		},
		change: func() {
			for i, x := range all {
				all[i] = changed(x)
			}
		},
	}
}

func heldNumbers(l []int) heldList {
	return held(l, strconv.Itoa, func(x int) int { return x + 1000 })
}

func heldHeap(h impl.Heap) []heldList {
	lists := []heldList{
		held(h.Segs, func(x impl.Seg) string { return strconv.Itoa(x.Age) + "/" + strconv.Itoa(len(x.Blocks)) }, func(x impl.Seg) impl.Seg { return impl.Seg{Age: x.Age + 5000} }),
		held(h.Live, func(x []bool) string { return strconv.Itoa(len(x)) }, func(x []bool) []bool { return make([]bool, len(x)+50) }),
	}
	for _, seg := range h.Segs {
		lists = append(lists, heldNumbers(seg.Blocks))
	}
	for _, live := range h.Live {
		lists = append(lists, held(live, strconv.FormatBool, func(x bool) bool { return !x }))
	}
	return lists
}

func shownLists(lists []heldList) []string {
	var l []string
	for _, list := range lists {
		l = append(l, list.show())
	}
	return l
}

// wantNoneShared changes the first lists one by one; no other one of all may change with it.
func wantNoneShared(t *testing.T, what string, lists []heldList, first int) {
	t.Helper()
	for i, list := range lists[:first] {
		ahead := shownLists(lists)
		list.change()
		for j, behind := range shownLists(lists) {
			if j != i && behind != ahead[j] {
				t.Fatalf("%s: list %d shares memory with list %d", what, i, j)
			}
		}
	}
}

// heapAnswers asks all functions of a heap; the heaps and lists that they answer.
func heapAnswers(h impl.Heap, block int, k int) ([]impl.Heap, [][]int) {
	written, _ := impl.WriteBlock(h, block)
	cleaned, _, _ := impl.CleanSeg(h, k)
	refused, _ := impl.WriteBlock(h, -1)
	all, _ := impl.AllBlocks(h)
	again, _ := impl.AllBlocks(h)
	impl.GoodHeap(h)
	impl.LiveIn(h, k)
	impl.FreeSegs(h)
	impl.PickSeg(h, 1)
	impl.PickSeg(h, 2)
	impl.WhereIs(h, block)
	return []impl.Heap{written, cleaned, refused}, [][]int{all, again}
}

func wantAlike(t *testing.T, what string, heaps []impl.Heap, wantHeaps []impl.Heap, lists [][]int, wantLists [][]int) {
	t.Helper()
	for i, want := range wantHeaps {
		if heapName(heaps[i]) != heapName(want) {
			t.Errorf("%s: got %s, want %s", what, heapName(heaps[i]), heapName(want))
		}
	}
	for i, want := range wantLists {
		if !slices.Equal(lists[i], want) {
			t.Errorf("%s: got %v, want %v", what, lists[i], want)
		}
	}
}

// Promise 19: nothing that is handed in is changed, good or not, the inner lists and what lies behind a length neither.
func TestCleanFunctionsLeaveArgumentsAlone(t *testing.T) {
	n := &numbers{seed: 19}
	for _, h := range slices.Concat(edgeHeaps(), someHeaps(), badHeaps()) {
		shown := shownHeap(h)
		lists := heldHeap(shown)
		ahead := shownLists(lists)
		heapAnswers(shown, n.below(16), n.below(max(len(h.Segs), 1)))
		if behind := shownLists(lists); !slices.Equal(ahead, behind) {
			t.Errorf("%s: was %q, is %q", heapName(h), ahead, behind)
		}
	}
}

// Promise 19: each list of an answer has memory of its own, apart from that of what was handed in and of all other lists.
func TestCleanAnswersAreNewMemory(t *testing.T) {
	n := &numbers{seed: 20}
	for _, h := range append(edgeHeaps(), someHeaps()...) {
		shown := shownHeap(h)
		heaps, numberLists := heapAnswers(shown, n.below(16), n.below(len(h.Segs)))
		var lists []heldList
		for _, answer := range heaps {
			lists = append(lists, heldHeap(answer)...)
		}
		for _, answer := range numberLists {
			lists = append(lists, heldNumbers(answer))
		}
		wantNoneShared(t, heapName(h), append(lists, heldHeap(shown)...), len(lists))
	}
}

// Promise 19: what lies behind a list's length is neither read nor handed out.
func TestBlocksBehindTheLengthAreNotRead(t *testing.T) {
	n := &numbers{seed: 21}
	for _, h := range slices.Concat(edgeHeaps(), someHeaps(), badHeaps()) {
		block, k := n.below(16), n.below(max(len(h.Segs), 1))
		if impl.GoodHeap(shownHeap(h)) != ruleGoodHeap(h) {
			t.Errorf("%s: good is not %v", heapName(h), ruleGoodHeap(h))
		}
		heaps, lists := heapAnswers(shownHeap(h), block, k)
		plainHeaps, plainLists := heapAnswers(h, block, k)
		wantAlike(t, heapName(h), heaps, plainHeaps, lists, plainLists)
		for _, answer := range heaps {
			wantNothingBehind(t, answer)
		}
		if ruleGoodHeap(h) {
			wantAsSaid(t, shownHeap(h))
		}
	}
}

// wantNothingBehind asks that behind the blocks and marks of an answer there is just memory that is empty.
func wantNothingBehind(t *testing.T, h impl.Heap) {
	t.Helper()
	for k, seg := range h.Segs {
		behind := seg.Blocks[len(seg.Blocks):cap(seg.Blocks)]
		marks := h.Live[k][len(h.Live[k]):cap(h.Live[k])]
		if slices.ContainsFunc(behind, func(block int) bool { return block != 0 }) || slices.Contains(marks, true) {
			t.Errorf("%s: behind segment %d there are %v and %v", heapName(h), k, behind, marks)
		}
	}
}

func TestCleanFunctionsAnswerAlikeTwice(t *testing.T) {
	n := &numbers{seed: 22}
	for _, h := range append(edgeHeaps(), someHeaps()...) {
		block, k := n.below(16), n.below(len(h.Segs))
		heaps, lists := heapAnswers(h, block, k)
		again, listsAgain := heapAnswers(h, block, k)
		wantAlike(t, heapName(h), again, heaps, listsAgain, lists)
	}
}
