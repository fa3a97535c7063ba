package tests

import (
	"math"
	"slices"
	"strconv"
	"strings"
	"testing"

	"loop.example/g00541/impl"
)

// layer is told by its mark and by parts such as "3=ab": block 3 is "ab".
func layer(mark int, parts ...string) impl.Layer {
	l := impl.Layer{Mark: mark}
	for _, part := range parts {
		number, data, _ := strings.Cut(part, "=")
		block, err := strconv.Atoi(number)
		if err != nil {
			panic(part)
		}
		l.Blocks, l.Data = append(l.Blocks, block), append(l.Data, data)
	}
	return l
}

func marksOf(layers ...impl.Layer) impl.Marks {
	return impl.Marks{Layers: layers}
}

// emptyLayers are layers that have nothing, with these marks.
func emptyLayers(marks ...int) impl.Marks {
	var m impl.Marks
	for _, mark := range marks {
		m.Layers = append(m.Layers, layer(mark))
	}
	return m
}

// marksAre are the marks of all layers.
func marksAre(m impl.Marks) []int {
	var l []int
	for _, x := range m.Layers {
		l = append(l, x.Mark)
	}
	return l
}

func layerName(l impl.Layer) string {
	s := strconv.Itoa(l.Mark) + ":"
	for _, block := range l.Blocks {
		s += " " + strconv.Itoa(block)
	}
	for _, data := range l.Data {
		s += " " + strconv.Quote(data)
	}
	return s
}

// marksName tells all that marks have, also ones that are not good.
func marksName(m impl.Marks) string {
	var l []string
	for _, x := range m.Layers {
		l = append(l, layerName(x))
	}
	return "[" + strings.Join(l, " | ") + "]"
}

// risesWithin tells whether numbers rise and lie in 0..high.
func risesWithin(l []int, high int) bool {
	for i, x := range l {
		if x < 0 || x > high || i > 0 && x <= l[i-1] {
			return false
		}
	}
	return true
}

// ruleGoodMarks is what the document says of good marks.
func ruleGoodMarks(m impl.Marks) bool {
	good := len(m.Layers) > 0 && len(m.Layers) < 9 && risesWithin(marksAre(m), 200)
	for _, l := range m.Layers {
		good = good && risesWithin(l.Blocks, 15) && len(l.Data) == len(l.Blocks)
		for _, data := range l.Data {
			good = good && len(data) == 2
		}
	}
	return good
}

// ruleHas tells which layer has a mark, -1 where none has.
func ruleHas(m impl.Marks, mark int) int {
	return slices.Index(marksAre(m), mark)
}

// ruleIn is what one layer has of a block.
func ruleIn(l impl.Layer, block int) (string, bool) {
	if i := slices.Index(l.Blocks, block); i >= 0 {
		return l.Data[i], true
	}
	return "", false
}

// ruleAt is a block at layer k: it is looked for from that layer back.
func ruleAt(m impl.Marks, k int, block int) string {
	for ; k >= 0; k-- {
		if data, ok := ruleIn(m.Layers[k], block); ok {
			return data
		}
	}
	return zeroBlock
}

// ruleAll are all blocks at layer k.
func ruleAll(m impl.Marks, k int) []string {
	var l []string
	for block := range 16 {
		l = append(l, ruleAt(m, k, block))
	}
	return l
}

// ruleJoin is a layer that has what over has, and else what under has.
func ruleJoin(under impl.Layer, over impl.Layer) impl.Layer {
	l := impl.Layer{Mark: over.Mark}
	for block := range 16 {
		data, ok := ruleIn(over, block)
		if !ok {
			data, ok = ruleIn(under, block)
		}
		if ok {
			l.Blocks, l.Data = append(l.Blocks, block), append(l.Data, data)
		}
	}
	return l
}

// These four tell what comes of good marks.

func ruleWriteMark(m impl.Marks, block int, data string) (impl.Marks, bool) {
	if block < 0 || block > 15 || len(data) != 2 {
		return impl.Marks{}, false
	}
	last := len(m.Layers) - 1
	one := impl.Layer{Mark: m.Layers[last].Mark, Blocks: []int{block}, Data: []string{data}}
	return marksOf(append(slices.Clone(m.Layers[:last]), ruleJoin(m.Layers[last], one))...), true
}

func ruleSetMark(m impl.Marks) (impl.Marks, int, bool) {
	last := slices.Max(marksAre(m))
	if len(m.Layers) == 8 || last == 200 {
		return impl.Marks{}, 0, false
	}
	return marksOf(append(slices.Clone(m.Layers), layer(last+1))...), last, true
}

func ruleDrop(m impl.Marks, mark int) (impl.Marks, bool) {
	k := ruleHas(m, mark)
	if k < 0 || k == len(m.Layers)-1 {
		return impl.Marks{}, false
	}
	l := slices.Clone(m.Layers)
	l[k+1] = ruleJoin(l[k], l[k+1])
	return marksOf(slices.Delete(l, k, k+1)...), true
}

func ruleGoBack(m impl.Marks, mark int) (impl.Marks, bool) {
	k := ruleHas(m, mark)
	last := slices.Max(marksAre(m))
	if k < 0 || k == 7 || last == 200 {
		return impl.Marks{}, false
	}
	return marksOf(append(slices.Clone(m.Layers[:k+1]), layer(last+1))...), true
}

func ruleChanged(m impl.Marks, j int, k int) []int {
	var l []int
	for block := range 16 {
		if ruleAt(m, j, block) != ruleAt(m, k, block) {
			l = append(l, block)
		}
	}
	return l
}

func wantMarks(t *testing.T, what string, got impl.Marks, ok bool, want impl.Marks, wantOk bool) {
	t.Helper()
	if marksName(got) != marksName(want) || ok != wantOk {
		t.Errorf("%s: got %s %v, want %s %v", what, marksName(got), ok, marksName(want), wantOk)
	}
	if ok && (!impl.GoodMarks(got) || !ruleGoodMarks(got)) {
		t.Errorf("%s: %s is not good", what, marksName(got))
	}
}

// These four hold a change of good marks against the rule, and have what came of it.

func wantWriteMark(t *testing.T, m impl.Marks, block int, data string) (impl.Marks, bool) {
	t.Helper()
	got, ok := impl.WriteMark(m, block, data)
	want, wantOk := ruleWriteMark(m, block, data)
	wantMarks(t, marksName(m)+" written "+strconv.Itoa(block)+" "+strconv.Quote(data), got, ok, want, wantOk)
	return got, ok
}

func wantSetMark(t *testing.T, m impl.Marks) (impl.Marks, bool) {
	t.Helper()
	got, was, ok := impl.SetMark(m)
	want, wantWas, wantOk := ruleSetMark(m)
	wantMarks(t, marksName(m)+" set", got, ok, want, wantOk)
	wantNumber(t, marksName(m)+" set", was, ok, wantWas, wantOk)
	return got, ok
}

func wantDrop(t *testing.T, m impl.Marks, mark int) (impl.Marks, bool) {
	t.Helper()
	got, ok := impl.DropMark(m, mark)
	want, wantOk := ruleDrop(m, mark)
	wantMarks(t, marksName(m)+" dropped "+strconv.Itoa(mark), got, ok, want, wantOk)
	return got, ok
}

func wantGoBack(t *testing.T, m impl.Marks, mark int) (impl.Marks, bool) {
	t.Helper()
	got, ok := impl.GoBack(m, mark)
	want, wantOk := ruleGoBack(m, mark)
	wantMarks(t, marksName(m)+" gone back to "+strconv.Itoa(mark), got, ok, want, wantOk)
	return got, ok
}

// allAt asks the program for all blocks at a mark that there is.
func allAt(t *testing.T, m impl.Marks, mark int) []string {
	t.Helper()
	var l []string
	for block := range 16 {
		s, ok := impl.ReadAt(m, mark, block)
		if len(s) != 2 || !ok {
			t.Errorf("%s: block %d at %d is %q %v", marksName(m), block, mark, s, ok)
		}
		l = append(l, s)
	}
	return l
}

// wantChanged asks for what is unlike at two marks, in both orders.
func wantChanged(t *testing.T, m impl.Marks, a int, b int, want []int) {
	t.Helper()
	what := marksName(m) + " changed in " + strconv.Itoa(a) + " " + strconv.Itoa(b)
	got, ok := impl.ChangedIn(m, a, b)
	wantNumbers(t, what, got, ok, want, true)
	got, ok = impl.ChangedIn(m, b, a)
	wantNumbers(t, what+" turned", got, ok, want, true)
}

// wantToldOfMarks holds what is told of good marks against the rules.
func wantToldOfMarks(t *testing.T, m impl.Marks) {
	t.Helper()
	if !impl.GoodMarks(m) {
		t.Errorf("%s: is not good", marksName(m))
	}
	for k, l := range m.Layers {
		wantTexts(t, marksName(m)+" at "+strconv.Itoa(l.Mark), allAt(t, m, l.Mark), true, ruleAll(m, k), true)
		for j := range k + 1 {
			wantChanged(t, m, l.Mark, m.Layers[j].Mark, ruleChanged(m, j, k))
		}
	}
}

// fewTexts has few texts, so that blocks are often written anew with the same bytes.
var fewTexts = []string{"ab", "cd", zeroBlock, "\x00b", "a\x00", "\xff\xff"}

// marksWith are marks with so many layers, the last one's mark at most high; each block is in a layer as often as not where part is 2.
func marksWith(n *numbers, many int, high int, part int) impl.Marks {
	var taken []int
	for len(taken) < many {
		if mark := high - n.below(min(high+1, 3*many)); !slices.Contains(taken, mark) {
			taken = append(taken, mark)
		}
	}
	slices.Sort(taken)
	m := emptyLayers(taken...)
	for k := range m.Layers {
		l := &m.Layers[k]
		for block := range 16 {
			if n.below(part) == 0 {
				l.Blocks, l.Data = append(l.Blocks, block), append(l.Data, fewTexts[n.below(len(fewTexts))])
			}
		}
	}
	return m
}

func someMarks() []impl.Marks {
	var l []impl.Marks
	for i := range 160 {
		n := &numbers{seed: uint64(7000 + i)}
		many := 1 + i%8
		l = append(l, marksWith(n, many, many-1+n.below(202-many), 1+n.below(6)))
	}
	return l
}

// fullLayer has all blocks, and the same bytes in each.
func fullLayer(mark int, data string) impl.Layer {
	l := impl.Layer{Mark: mark}
	for block := range 16 {
		l.Blocks, l.Data = append(l.Blocks, block), append(l.Data, data)
	}
	return l
}

// edgeMarks are good ones that lie at what the chapter names.
func edgeMarks() []impl.Marks {
	return []impl.Marks{emptyLayers(0), emptyLayers(200), emptyLayers(7), emptyLayers(0, 200), emptyLayers(0, 1, 2, 3, 4, 5, 6), emptyLayers(0, 1, 2, 3, 4, 5, 6, 7),
		emptyLayers(193, 194, 195, 196, 197, 198, 199, 200), emptyLayers(193, 194, 195, 196, 197, 198, 199), emptyLayers(0, 9, 30, 31, 80, 120, 199, 200), emptyLayers(198, 199),
		marksOf(layer(3, "0=ab", "15=cd")), marksOf(fullLayer(3, "ab")), marksOf(fullLayer(3, "ab"), fullLayer(4, "cd")), marksOf(fullLayer(3, "ab"), fullLayer(9, "ab")),
		marksOf(fullLayer(0, zeroBlock), layer(1), fullLayer(2, zeroBlock)), marksOf(fullLayer(199, "ab"), layer(200)), marksOf(layer(0), fullLayer(200, "ab")),
		marksOf(layer(0, "3=ab"), layer(1, "3=cd"), layer(2, "3=ab"), layer(3)), marksOf(layer(0, "3=ab"), layer(5, "3="+zeroBlock), layer(9, "3=ab", "4=ab")),
		marksOf(layer(0, "0=ab"), layer(1, "1=ab"), layer(2, "2=ab"), layer(3, "3=ab"), layer(4, "4=ab"), layer(5, "5=ab"), layer(6, "6=ab"), layer(7, "7=ab")),
		marksOf(layer(0, "0=ab", "1=ab", "2=ab"), layer(1, "0=cd", "2=cd"), layer(2, "1=ef")), marksOf(layer(0, "1=ab"), layer(1, "0=cd", "1=cd", "2=cd"), layer(2, "15=ef"))}
}

func goodMarks() []impl.Marks {
	return append(edgeMarks(), someMarks()...)
}

// badMarks are not good, each for one reason.
func badMarks() []impl.Marks {
	l := []impl.Marks{{}, {Layers: []impl.Layer{}}, emptyLayers(0, 1, 2, 3, 4, 5, 6, 7, 8), emptyLayers(192, 193, 194, 195, 196, 197, 198, 199, 200),
		emptyLayers(-1), emptyLayers(201), emptyLayers(-1, 0), emptyLayers(-1, 200), emptyLayers(200, 201), emptyLayers(0, 201), emptyLayers(3, 3), emptyLayers(3, 2), emptyLayers(0, 0), emptyLayers(200, 200),
		emptyLayers(1, 2, 2), emptyLayers(1, 3, 2), emptyLayers(1, 1, 2), emptyLayers(2, 1, 3), emptyLayers(7, 6, 5, 4, 3, 2, 1, 0), emptyLayers(0, 1, 2, 3, 4, 5, 6, 6), emptyLayers(0, 1, 2, 3, 4, 5, 6, 201)}
	parts := [][]string{{"-1=ab"}, {"16=ab"}, {"-1=ab", "0=ab"}, {"15=ab", "16=ab"}, {"3=ab", "3=cd"}, {"3=ab", "3=ab"}, {"3=ab", "2=ab"}, {"0=ab", "2=ab", "1=ab"}, {"0=ab", "1=ab", "1=ab"}, {"15=ab", "0=ab"},
		{"3="}, {"3=a"}, {"3=abc"}, {"3=abcd"}, {"3=ab", "4=a"}, {"3=abc", "4=ab"}, {"3=abc", "4=a"}, {"3=", "4=abcd"}, {"3=" + mixedText(300, 1)}}
	var bad []impl.Layer
	for _, p := range parts {
		bad = append(bad, layer(4, p...))
	}
	for _, wrong := range wrongNumbers {
		l = append(l, emptyLayers(wrong), emptyLayers(0, wrong), emptyLayers(wrong, 5))
		bad = append(bad, impl.Layer{Mark: 4, Blocks: []int{wrong}, Data: []string{"ab"}}, impl.Layer{Mark: 4, Blocks: []int{3, wrong}, Data: []string{"ab", "cd"}}, impl.Layer{Mark: 4, Blocks: []int{wrong, 3}, Data: []string{"ab", "cd"}})
	}
	bad = append(bad, impl.Layer{Mark: 4, Blocks: []int{3}}, impl.Layer{Mark: 4, Data: []string{"ab"}}, impl.Layer{Mark: 4, Blocks: []int{3, 4}, Data: []string{"ab"}}, impl.Layer{Mark: 4, Blocks: []int{3}, Data: []string{"ab", "cd"}},
		impl.Layer{Mark: 4, Blocks: []int{3, 4}, Data: []string{"abcd"}}, impl.Layer{Mark: 4, Blocks: fullLayer(4, "ab").Blocks, Data: slices.Repeat([]string{"ab"}, 17)}, impl.Layer{Mark: 4, Blocks: fullLayer(4, "ab").Blocks, Data: slices.Repeat([]string{"ab"}, 15)})
	for _, x := range bad {
		l = append(l, marksOf(x), marksOf(x, layer(5)), marksOf(layer(0, "3=ab"), x), marksOf(layer(0), x, layer(9, "0=ab")))
	}
	return l
}

func TestMarksConstants(t *testing.T) {
	if impl.MaxMarks != 8 {
		t.Error(impl.MaxMarks)
	}
}

func TestNewMarks(t *testing.T) {
	for mark := -3; mark <= 203; mark++ {
		m, ok := impl.NewMarks(mark)
		if mark < 0 || mark > 200 {
			wantMarks(t, "beyond", m, ok, impl.Marks{}, false)
			continue
		}
		wantMarks(t, "new", m, ok, emptyLayers(mark), true)
		wantToldOfMarks(t, m)
		m.Layers[0] = layer(5, "3=ab")
		again, ok := impl.NewMarks(mark)
		wantMarks(t, "new again", again, ok, emptyLayers(mark), true)
	}
	for _, wrong := range wrongNumbers {
		m, ok := impl.NewMarks(wrong)
		wantMarks(t, "wrong", m, ok, impl.Marks{}, false)
	}
}

func TestGoodMarks(t *testing.T) {
	for _, m := range goodMarks() {
		if !impl.GoodMarks(m) || !ruleGoodMarks(m) {
			t.Errorf("%s: is not good", marksName(m))
		}
	}
	for _, m := range badMarks() {
		if impl.GoodMarks(m) || ruleGoodMarks(m) {
			t.Errorf("%s: is good", marksName(m))
		}
	}
}

func TestGoodMarksOfEveryManyLayers(t *testing.T) {
	for many := range 12 {
		var m impl.Marks
		for k := range many {
			m.Layers = append(m.Layers, layer(10+2*k, "3=ab", "4=cd"))
		}
		if impl.GoodMarks(m) != (many >= 1 && many <= 8) {
			t.Errorf("%d layers: good is %v", many, impl.GoodMarks(m))
		}
	}
}

func TestGoodMarksOfEveryThreeMarks(t *testing.T) {
	marks := []int{-1, 0, 1, 2, 100, 198, 199, 200, 201}
	for _, a := range marks {
		for _, b := range marks {
			for _, c := range marks {
				is := a >= 0 && a < b && b < c && c <= 200
				if m := emptyLayers(a, b, c); impl.GoodMarks(m) != is {
					t.Errorf("%s: good is not %v", marksName(m), is)
				}
			}
		}
	}
}

func TestGoodMarksOfEveryThreeBlocks(t *testing.T) {
	data := []string{"ab", zeroBlock, "ab"}
	for i := range 18 * 18 * 18 {
		blocks := []int{i%18 - 1, i/18%18 - 1, i/324 - 1}
		is := blocks[0] >= 0 && blocks[0] < blocks[1] && blocks[1] < blocks[2] && blocks[2] <= 15
		if m := marksOf(layer(0), impl.Layer{Mark: 1, Blocks: blocks, Data: data}); impl.GoodMarks(m) != is {
			t.Errorf("%s: good is not %v", marksName(m), is)
		}
	}
}

func TestGoodMarksOfEveryManyTexts(t *testing.T) {
	for blocks := range 18 {
		for texts := range 19 {
			l := impl.Layer{Mark: 9, Data: slices.Repeat([]string{"ab"}, texts)}
			for block := range blocks {
				l.Blocks = append(l.Blocks, block)
			}
			if impl.GoodMarks(marksOf(l)) != (blocks == texts && blocks <= 16) {
				t.Errorf("%d blocks, %d texts: good is %v", blocks, texts, impl.GoodMarks(marksOf(l)))
			}
		}
	}
	for long := range 6 {
		for at := range 16 {
			l := fullLayer(9, "ab")
			l.Data[at] = mixedText(long, 5)
			if impl.GoodMarks(marksOf(l)) != (long == 2) {
				t.Errorf("%d bytes of block %d: good is %v", long, at, impl.GoodMarks(marksOf(l)))
			}
		}
	}
}

// Promise 7: what is told of every mark is what the layers up to it have.
func TestMarksAreToldByTheirLayers(t *testing.T) {
	for _, m := range goodMarks() {
		wantToldOfMarks(t, m)
	}
}

// Promise 7: who goes back to a mark has all as it was at it, and the layers up to it are as they were.
func TestGoneBackAllIsAsItWas(t *testing.T) {
	for _, m := range goodMarks() {
		for k, l := range m.Layers {
			was := allAt(t, m, l.Mark)
			back, ok := wantGoBack(t, m, l.Mark)
			if !ok {
				continue
			}
			last := back.Layers[len(back.Layers)-1].Mark
			wantTexts(t, marksName(back), allAt(t, back, last), true, was, true)
			wantChanged(t, back, l.Mark, last, nil)
			wantMarks(t, "up to it", marksOf(back.Layers[:k+1]...), true, marksOf(m.Layers[:k+1]...), true)
			for _, earlier := range m.Layers[:k+1] {
				wantTexts(t, marksName(back), allAt(t, back, earlier.Mark), true, allAt(t, m, earlier.Mark), true)
			}
			if slices.Contains(marksAre(m), last) {
				t.Errorf("%s: the new mark %d was there ahead", marksName(m), last)
			}
		}
	}
}

// Promise 7: a write changes its block in the last layer, and no block at any mark that is set.
func TestWritesChangeNoMarkThatIsSet(t *testing.T) {
	for i, m := range goodMarks() {
		last := len(m.Layers) - 1
		for block := range 16 {
			written, _ := wantWriteMark(t, m, block, fewTexts[(i+block)%len(fewTexts)])
			for _, l := range m.Layers[:last] {
				wantTexts(t, marksName(m), allAt(t, written, l.Mark), true, allAt(t, m, l.Mark), true)
			}
			want := allAt(t, m, m.Layers[last].Mark)
			want[block] = fewTexts[(i+block)%len(fewTexts)]
			wantTexts(t, marksName(m), allAt(t, written, m.Layers[last].Mark), true, want, true)
			wantMarks(t, "the layers ahead", marksOf(written.Layers[:last]...), last > 0, marksOf(m.Layers[:last]...), last > 0)
		}
	}
}

// Promise 7: a mark that is set keeps what all was, whatever is written behind it.
func TestSetMarkKeepsAll(t *testing.T) {
	for _, m := range goodMarks() {
		set, ok := wantSetMark(t, m)
		if !ok {
			continue
		}
		last := set.Layers[len(set.Layers)-1].Mark
		wantTexts(t, marksName(set), allAt(t, set, last), true, allAt(t, m, last-1), true)
		for block := range 16 {
			set, _ = wantWriteMark(t, set, block, "zz")
		}
		for _, l := range m.Layers {
			wantTexts(t, marksName(set), allAt(t, set, l.Mark), true, allAt(t, m, l.Mark), true)
		}
		wantTexts(t, marksName(set), allAt(t, set, last), true, slices.Repeat([]string{"zz"}, 16), true)
		wantChanged(t, set, last, last-1, allBlocks())
		if back, ok := wantGoBack(t, set, last-1); ok {
			wantTexts(t, marksName(back), allAt(t, back, last+1), true, allAt(t, m, last-1), true)
		}
	}
}

func allBlocks() []int {
	return fullLayer(0, "").Blocks
}

// Promise 7: behind a drop every block at every other mark is what it was.
func TestDropChangesNoOtherMark(t *testing.T) {
	for _, m := range goodMarks() {
		for _, l := range m.Layers {
			dropped, ok := wantDrop(t, m, l.Mark)
			if !ok {
				continue
			}
			if slices.Contains(marksAre(dropped), l.Mark) || len(dropped.Layers) != len(m.Layers)-1 {
				t.Errorf("%s without %d is %s", marksName(m), l.Mark, marksName(dropped))
			}
			for _, other := range dropped.Layers {
				wantTexts(t, marksName(dropped), allAt(t, dropped, other.Mark), true, allAt(t, m, other.Mark), true)
			}
		}
	}
}

// Promise 7: ChangedIn has just the blocks that ReadAt tells unlike, rising, whichever mark comes first.
func TestChangedInIsWhatReadsUnlike(t *testing.T) {
	for _, m := range goodMarks() {
		for _, a := range m.Layers {
			for _, b := range m.Layers {
				var want []int
				is, other := allAt(t, m, a.Mark), allAt(t, m, b.Mark)
				for block := range 16 {
					if is[block] != other[block] {
						want = append(want, block)
					}
				}
				wantChanged(t, m, a.Mark, b.Mark, want)
			}
		}
	}
}

// wholes has all blocks at each mark in full, so it has no layers that could be put together wrongly.
type wholes struct {
	marks  []int
	blocks [][16]string
}

func newWholes(mark int) wholes {
	w := wholes{marks: []int{mark}, blocks: make([][16]string, 1)}
	for block := range 16 {
		w.blocks[0][block] = zeroBlock
	}
	return w
}

// markStep is a write (0), a new mark (1), a drop (2) or a way back (3).
type markStep struct {
	kind  int
	mark  int
	block int
	data  string
}

// step tells what comes of a step that can be done.
func (w wholes) step(s markStep) (wholes, bool) {
	k, last := slices.Index(w.marks, s.mark), len(w.marks)-1
	next := wholes{marks: slices.Clone(w.marks), blocks: slices.Clone(w.blocks)}
	switch {
	case s.kind == 0:
		next.blocks[last][s.block] = s.data
		return next, true
	case s.kind == 1 && last < 7 && w.marks[last] < 200:
		k = last
	case s.kind == 2 && k >= 0 && k < last:
		next.marks, next.blocks = slices.Delete(next.marks, k, k+1), slices.Delete(next.blocks, k, k+1)
		return next, true
	case s.kind == 3 && k >= 0 && k < 7 && w.marks[last] < 200:
	default:
		return w, false
	}
	next.marks = append(next.marks[:k+1:k+1], w.marks[last]+1)
	next.blocks = append(next.blocks[:k+1:k+1], w.blocks[k])
	return next, true
}

// doMarkStep asks the program for a step.
func doMarkStep(m impl.Marks, s markStep) (impl.Marks, bool) {
	switch s.kind {
	case 0:
		return impl.WriteMark(m, s.block, s.data)
	case 1:
		set, _, ok := impl.SetMark(m)
		return set, ok
	case 2:
		return impl.DropMark(m, s.mark)
	}
	return impl.GoBack(m, s.mark)
}

// wantWholes does steps on both and holds them against each other; it has what the program made.
func wantWholes(t *testing.T, first int, steps []markStep) impl.Marks {
	t.Helper()
	m, _ := impl.NewMarks(first)
	w := newWholes(first)
	for i, s := range steps {
		next, ok := doMarkStep(m, s)
		whole, is := w.step(s)
		if ok != is {
			t.Fatalf("step %d, %v of %s: %v, want %v", i, s, marksName(m), ok, is)
		}
		if !ok {
			wantMarks(t, "refused", next, ok, impl.Marks{}, false)
			continue
		}
		m, w = next, whole
		if !impl.GoodMarks(m) || !ruleGoodMarks(m) || !slices.Equal(marksAre(m), w.marks) {
			t.Fatalf("step %d, %v: %s, want the marks %v", i, s, marksName(m), w.marks)
		}
	}
	for k, mark := range w.marks {
		wantTexts(t, marksName(m), allAt(t, m, mark), true, w.blocks[k][:], true)
	}
	return m
}

// someStep is most often one that can be done.
func someStep(n *numbers, w wholes) markStep {
	s := markStep{kind: max(n.below(8)-4, 0), block: n.below(16), data: fewTexts[n.below(len(fewTexts))]}
	s.mark = w.marks[n.below(len(w.marks))] + max(n.below(9)-7, 0)
	return s
}

// Promise 7: whatever is done from new marks on, all blocks at all marks are what they were when these were set.
func TestMarksAreTheirHistory(t *testing.T) {
	for i := range 300 {
		n := &numbers{seed: uint64(300 + i)}
		first := []int{0, 5, 150, 190, 196, 199, 200}[i%7]
		w := newWholes(first)
		var steps []markStep
		for range 60 {
			s := someStep(n, w)
			w, _ = w.step(s)
			steps = append(steps, s)
			if len(steps)%6 == 0 {
				wantWholes(t, first, steps)
			}
		}
		wantToldOfMarks(t, wantWholes(t, first, steps))
	}
}

// Every five steps of these, from new marks on.
func TestEveryShortHistory(t *testing.T) {
	steps := []markStep{{kind: 0, block: 0, data: "ab"}, {kind: 0, block: 0, data: "cd"}, {kind: 0, block: 15, data: "ab"}, {kind: 1},
		{kind: 2, mark: 7}, {kind: 2, mark: 8}, {kind: 3, mark: 7}, {kind: 3, mark: 8}}
	for i := range 8 * 8 * 8 * 8 * 8 {
		l := make([]markStep, 5)
		for j, at := 0, i; j < 5; j, at = j+1, at/8 {
			l[j] = steps[at%8]
		}
		wantWholes(t, 7, l)
	}
}

func TestMarksKnownByHand(t *testing.T) {
	m := marksOf(layer(0, "3=xy"), layer(1, "3=zz", "7=uv"), layer(4))
	for _, c := range []struct {
		mark, block int
		want        string
	}{{0, 3, "xy"}, {1, 3, "zz"}, {4, 3, "zz"}, {0, 7, zeroBlock}, {1, 7, "uv"}, {4, 7, "uv"}, {4, 0, zeroBlock}, {4, 15, zeroBlock}} {
		s, ok := impl.ReadAt(m, c.mark, c.block)
		wantText(t, marksName(m), s, ok, c.want, true)
	}
	wantChanged(t, m, 0, 1, []int{3, 7})
	wantChanged(t, m, 0, 4, []int{3, 7})
	wantChanged(t, m, 1, 4, nil)
	wantChanged(t, m, 1, 1, nil)
	written, ok := impl.WriteMark(m, 5, "aa")
	wantMarks(t, "a block that none has", written, ok, marksOf(layer(0, "3=xy"), layer(1, "3=zz", "7=uv"), layer(4, "5=aa")), true)
	written, ok = impl.WriteMark(written, 3, "bb")
	wantMarks(t, "a block that an earlier layer has", written, ok, marksOf(layer(0, "3=xy"), layer(1, "3=zz", "7=uv"), layer(4, "3=bb", "5=aa")), true)
	written, ok = impl.WriteMark(written, 5, "cc")
	wantMarks(t, "a block written twice", written, ok, marksOf(layer(0, "3=xy"), layer(1, "3=zz", "7=uv"), layer(4, "3=bb", "5=cc")), true)
	set, was, ok := impl.SetMark(written)
	wantMarks(t, "set", set, ok, marksOf(layer(0, "3=xy"), layer(1, "3=zz", "7=uv"), layer(4, "3=bb", "5=cc"), layer(5)), true)
	wantNumber(t, "set", was, ok, 4, true)
	back, ok := impl.GoBack(set, 1)
	wantMarks(t, "back to 1", back, ok, marksOf(layer(0, "3=xy"), layer(1, "3=zz", "7=uv"), layer(6)), true)
	back, ok = impl.GoBack(set, 0)
	wantMarks(t, "back to the first", back, ok, marksOf(layer(0, "3=xy"), layer(6)), true)
	back, ok = impl.GoBack(set, 5)
	wantMarks(t, "back to the last", back, ok, marksOf(append(slices.Clone(set.Layers), layer(6))...), true)
}

// A block that is written with the bytes it had is in the last layer, and nothing is unlike.
func TestBlocksWrittenAnewWithTheSameBytes(t *testing.T) {
	m := marksOf(layer(0, "3=ab"), layer(1))
	written, ok := impl.WriteMark(m, 3, "ab")
	wantMarks(t, "the same bytes", written, ok, marksOf(layer(0, "3=ab"), layer(1, "3=ab")), true)
	wantChanged(t, written, 0, 1, nil)
	written, ok = impl.WriteMark(m, 4, zeroBlock)
	wantMarks(t, "noughts", written, ok, marksOf(layer(0, "3=ab"), layer(1, "4="+zeroBlock)), true)
	wantChanged(t, written, 0, 1, nil)
	written, ok = impl.WriteMark(m, 3, zeroBlock)
	wantMarks(t, "noughts over it", written, ok, marksOf(layer(0, "3=ab"), layer(1, "3="+zeroBlock)), true)
	wantChanged(t, written, 0, 1, []int{3})
	// There and back again: unlike in the middle alone.
	m = marksOf(layer(0, "3=ab"), layer(1, "3=cd"), layer(2, "3=ab"))
	wantChanged(t, m, 0, 1, []int{3})
	wantChanged(t, m, 1, 2, []int{3})
	wantChanged(t, m, 0, 2, nil)
}

func TestDropsKnownByHand(t *testing.T) {
	three := func(first ...string) impl.Marks {
		return marksOf(layer(2, first...), layer(5, "3=cd", "4=ef"), layer(6, "3=gh"))
	}
	for _, c := range []struct {
		m    impl.Marks
		mark int
		want impl.Marks
	}{
		{three(), 2, marksOf(layer(5, "3=cd", "4=ef"), layer(6, "3=gh"))},
		{three("3=ab"), 2, marksOf(layer(5, "3=cd", "4=ef"), layer(6, "3=gh"))},
		{three("3=ab", "4=ab"), 2, marksOf(layer(5, "3=cd", "4=ef"), layer(6, "3=gh"))},
		{three("2=ab", "3=ab", "9=ab"), 2, marksOf(layer(5, "2=ab", "3=cd", "4=ef", "9=ab"), layer(6, "3=gh"))},
		{three("2=ab", "5=ab"), 2, marksOf(layer(5, "2=ab", "3=cd", "4=ef", "5=ab"), layer(6, "3=gh"))},
		{three("2=ab"), 5, marksOf(layer(2, "2=ab"), layer(6, "3=gh", "4=ef"))},
		{marksOf(layer(0, "0=ab", "15=ab"), layer(200)), 0, marksOf(layer(200, "0=ab", "15=ab"))},
		{marksOf(fullLayer(0, "ab"), layer(1, "3="+zeroBlock)), 0, marksOf(ruleJoin(fullLayer(1, "ab"), layer(1, "3="+zeroBlock)))},
		{marksOf(fullLayer(0, "ab"), fullLayer(1, "cd")), 0, marksOf(fullLayer(1, "cd"))},
		{emptyLayers(0, 1, 2, 3, 4, 5, 6, 7), 6, emptyLayers(0, 1, 2, 3, 4, 5, 7)},
	} {
		got, ok := impl.DropMark(c.m, c.mark)
		wantMarks(t, marksName(c.m)+" without "+strconv.Itoa(c.mark), got, ok, c.want, true)
	}
	for _, m := range []impl.Marks{emptyLayers(0), emptyLayers(200), three("3=ab"), emptyLayers(0, 1, 2, 3, 4, 5, 6, 7)} {
		last := slices.Max(marksAre(m))
		got, ok := impl.DropMark(m, last)
		wantMarks(t, "the last one of "+marksName(m), got, ok, impl.Marks{}, false)
	}
}

func TestRoomForMarks(t *testing.T) {
	for many := 1; many <= 8; many++ {
		m, _ := impl.NewMarks(30)
		for k := range many - 1 {
			next, was, ok := impl.SetMark(m)
			wantNumber(t, "was", was, ok, 30+k, true)
			m = next
		}
		set, was, ok := impl.SetMark(m)
		if many == 8 {
			wantMarks(t, "a ninth one", set, ok, impl.Marks{}, false)
			wantNumber(t, "a ninth one", was, ok, 0, false)
		} else {
			wantMarks(t, "one more", set, ok, marksOf(append(slices.Clone(m.Layers), layer(30+many))...), true)
		}
		for k := range many {
			back, ok := impl.GoBack(m, 30+k)
			if k == 7 {
				wantMarks(t, "back to the eighth", back, ok, impl.Marks{}, false)
			} else {
				wantMarks(t, "back", back, ok, marksOf(append(slices.Clone(m.Layers[:k+1]), layer(30+many))...), true)
			}
		}
	}
}

func TestMarksUpToTheLast(t *testing.T) {
	for _, m := range []impl.Marks{emptyLayers(200), emptyLayers(3, 200), marksOf(layer(199, "3=ab"), layer(200, "4=ab"))} {
		set, was, ok := impl.SetMark(m)
		wantMarks(t, "behind 200", set, ok, impl.Marks{}, false)
		wantNumber(t, "behind 200", was, ok, 0, false)
		for _, mark := range marksAre(m) {
			back, ok := impl.GoBack(m, mark)
			wantMarks(t, "behind 200", back, ok, impl.Marks{}, false)
		}
		// What needs no new mark can be done still.
		wantWriteMark(t, m, 3, "xy")
		wantDrop(t, m, marksAre(m)[0])
		wantToldOfMarks(t, m)
	}
	m := marksOf(layer(3, "3=ab"), layer(199, "3=cd"))
	set, was, ok := impl.SetMark(m)
	wantMarks(t, "behind 199", set, ok, marksOf(layer(3, "3=ab"), layer(199, "3=cd"), layer(200)), true)
	wantNumber(t, "behind 199", was, ok, 199, true)
	back, ok := impl.GoBack(m, 3)
	wantMarks(t, "behind 199", back, ok, marksOf(layer(3, "3=ab"), layer(200)), true)
}

// wantNoSuchMark asks all functions of a mark that no layer has.
func wantNoSuchMark(t *testing.T, m impl.Marks, mark int) {
	t.Helper()
	what := marksName(m) + " and " + strconv.Itoa(mark)
	for _, block := range []int{0, 3, 15, -1, 16} {
		s, ok := impl.ReadAt(m, mark, block)
		wantText(t, what, s, ok, "", false)
	}
	for _, other := range append(marksAre(m), mark) {
		l, ok := impl.ChangedIn(m, mark, other)
		wantNumbers(t, what, l, ok, nil, false)
		l, ok = impl.ChangedIn(m, other, mark)
		wantNumbers(t, what, l, ok, nil, false)
	}
	got, ok := impl.DropMark(m, mark)
	wantMarks(t, what, got, ok, impl.Marks{}, false)
	got, ok = impl.GoBack(m, mark)
	wantMarks(t, what, got, ok, impl.Marks{}, false)
}

func TestMarksThatNoLayerHas(t *testing.T) {
	for _, m := range edgeMarks() {
		for mark := -2; mark <= 202; mark++ {
			if ruleHas(m, mark) < 0 {
				wantNoSuchMark(t, m, mark)
			}
		}
		for _, wrong := range wrongNumbers {
			wantNoSuchMark(t, m, wrong)
		}
	}
	for _, m := range someMarks() {
		for mark := -1; mark <= 201; mark += 1 + len(m.Layers) {
			if ruleHas(m, mark) < 0 {
				wantNoSuchMark(t, m, mark)
			}
		}
	}
}

func TestBlocksThatAreNone(t *testing.T) {
	for _, m := range edgeMarks() {
		for _, block := range append([]int{16, 17, 255, 256}, wrongNumbers...) {
			got, ok := impl.WriteMark(m, block, "ab")
			wantMarks(t, "block "+strconv.Itoa(block), got, ok, impl.Marks{}, false)
			for _, mark := range marksAre(m) {
				s, ok := impl.ReadAt(m, mark, block)
				wantText(t, "block "+strconv.Itoa(block), s, ok, "", false)
			}
		}
		for _, data := range []string{"", "a", "abc", "abcd", "\x00", mixedText(500, 1)} {
			for block := -1; block <= 16; block++ {
				got, ok := impl.WriteMark(m, block, data)
				wantMarks(t, "data "+strconv.Quote(data), got, ok, impl.Marks{}, false)
			}
		}
	}
}

// Every two bytes that can be told apart by one of them come back.
func TestAllBytesComeBack(t *testing.T) {
	m := emptyLayers(0)
	for b := range 256 {
		for _, data := range []string{string([]byte{byte(b), 0}), string([]byte{0, byte(b)}), string([]byte{byte(b), byte(b)})} {
			written, ok := impl.WriteMark(m, b%16, data)
			s, is := impl.ReadAt(written, 0, b%16)
			wantText(t, "written", s, ok && is, data, true)
		}
	}
}

// Promise 19: of marks that are not good nothing is told and nothing is done.
func TestMarksThatAreNotGood(t *testing.T) {
	for _, m := range badMarks() {
		what := marksName(m)
		got, ok := impl.WriteMark(m, 3, "ab")
		wantMarks(t, what, got, ok, impl.Marks{}, false)
		got, was, ok := impl.SetMark(m)
		wantMarks(t, what, got, ok, impl.Marks{}, false)
		wantNumber(t, what, was, ok, 0, false)
		for _, mark := range append(marksAre(m), 0, 1, 200) {
			wantNoSuchMark(t, m, mark)
		}
	}
}

// shownMarks are marks all of whose texts lie over bytes that can be looked at, and whose lists have more behind their lengths.
func shownMarks(m impl.Marks) (impl.Marks, [][]byte) {
	var shown impl.Marks
	var bytes [][]byte
	for _, l := range m.Layers {
		data := slices.Clone(l.Data)
		for i, text := range data {
			b := []byte(text)
			bytes = append(bytes, b)
			data[i] = overBytes(b)
		}
		shown.Layers = append(shown.Layers, impl.Layer{Mark: l.Mark, Blocks: longer(l.Blocks, 15, 3, -7, 99), Data: longer(data, "be", "hi", "nd it")})
	}
	shown.Layers = longer(shown.Layers, layer(200, "0=be", "1=hi"), layer(-3, "4=nd it"))
	return shown, bytes
}

func heldMarks(m impl.Marks) []heldList {
	lists := []heldList{held(m.Layers, func(l impl.Layer) string {
		return strconv.Itoa(l.Mark) + "/" + strconv.Itoa(len(l.Blocks)) + "/" + strconv.Itoa(len(l.Data))
	},
		func(l impl.Layer) impl.Layer { return impl.Layer{Mark: l.Mark + 5000} })}
	for _, l := range m.Layers {
		lists = append(lists, heldNumbers(l.Blocks), heldTexts(l.Data))
	}
	return lists
}

// marksAnswers asks all functions of marks; the marks, lists of blocks and texts that they answer.
func marksAnswers(m impl.Marks, block int, data string) ([]impl.Marks, [][]int, []string) {
	written, _ := impl.WriteMark(m, block, data)
	set, _, _ := impl.SetMark(m)
	refused, _ := impl.WriteMark(m, -1, data)
	all := []impl.Marks{written, set, refused}
	var lists [][]int
	var texts []string
	for _, a := range append(marksAre(m), 0, 201) {
		dropped, _ := impl.DropMark(m, a)
		back, _ := impl.GoBack(m, a)
		all = append(all, dropped, back)
		for b := range 16 {
			s, _ := impl.ReadAt(m, a, b)
			texts = append(texts, s)
		}
		for _, b := range append(marksAre(m), 0) {
			changed, _ := impl.ChangedIn(m, a, b)
			lists = append(lists, changed)
		}
	}
	impl.GoodMarks(m)
	return all, lists, texts
}

// textsOfMarks are all texts that marks have.
func textsOfMarks(l []impl.Marks) []string {
	var texts []string
	for _, m := range l {
		for _, x := range m.Layers {
			texts = append(texts, x.Data...)
		}
	}
	return texts
}

// Promise 19: nothing that is handed in is changed, good or not, and no text of an answer lies in it.
func TestMarksFunctionsLeaveArgumentsAlone(t *testing.T) {
	for i, m := range append(goodMarks(), badMarks()...) {
		shown, bytes := shownMarks(m)
		data := []byte("xy")
		lists := heldMarks(shown)
		ahead := shownLists(lists)
		answers, _, texts := marksAnswers(shown, i%16, overBytes(data))
		if behind := shownLists(lists); !slices.Equal(ahead, behind) || string(data) != "xy" {
			t.Errorf("%s: was %q, is %q", marksName(m), ahead, behind)
		}
		wantApart(t, append(texts, textsOfMarks(answers)...), append(bytes, data)...)
	}
}

// Promise 19: each list of an answer has memory of its own, apart from that of what was handed in and of all other lists.
func TestMarksAnswersAreNewMemory(t *testing.T) {
	for i, m := range goodMarks() {
		// All lists are held against all others: some of the mixed marks are enough.
		if i%3 != 0 && i > 40 {
			continue
		}
		shown, _ := shownMarks(m)
		fresh, _ := impl.NewMarks(i)
		again, _ := impl.NewMarks(i)
		answers, numberLists, _ := marksAnswers(shown, i%16, "xy")
		var lists []heldList
		for _, answer := range append(answers, fresh, again) {
			lists = append(lists, heldMarks(answer)...)
		}
		for _, answer := range numberLists {
			lists = append(lists, heldNumbers(answer))
		}
		wantNoneShared(t, marksName(m), append(lists, heldMarks(shown)...), len(lists))
	}
}

func wantAlikeMarks(t *testing.T, what string, got []impl.Marks, want []impl.Marks) {
	t.Helper()
	for i := range want {
		if marksName(got[i]) != marksName(want[i]) {
			t.Errorf("%s: got %s, want %s", what, marksName(got[i]), marksName(want[i]))
		}
	}
}

// wantAlikeAnswers asks two marks the same; all that they answer has to be alike. It has the first ones' marks.
func wantAlikeAnswers(t *testing.T, a impl.Marks, b impl.Marks, block int) []impl.Marks {
	t.Helper()
	marks, lists, texts := marksAnswers(a, block, "xy")
	others, otherLists, otherTexts := marksAnswers(b, block, "xy")
	wantAlikeMarks(t, marksName(b), marks, others)
	wantTexts(t, marksName(b), texts, true, otherTexts, true)
	for i, l := range otherLists {
		wantNumbers(t, marksName(b), lists[i], true, l, true)
	}
	return marks
}

// Promise 19: what lies behind a list's length is neither read nor handed out.
func TestMarksBehindTheLengthAreNotRead(t *testing.T) {
	for i, m := range append(goodMarks(), badMarks()...) {
		shown, _ := shownMarks(m)
		if impl.GoodMarks(shown) != ruleGoodMarks(m) {
			t.Errorf("%s: good is not %v", marksName(m), ruleGoodMarks(m))
		}
		for _, answer := range wantAlikeAnswers(t, shown, m, i%16) {
			wantNoMarksBehind(t, answer)
		}
	}
}

// wantNoMarksBehind asks that behind the lists of an answer there is just memory that is empty: no layer that was dropped or gone back behind.
func wantNoMarksBehind(t *testing.T, m impl.Marks) {
	t.Helper()
	for _, l := range m.Layers[len(m.Layers):cap(m.Layers)] {
		if l.Mark != 0 || l.Blocks != nil || l.Data != nil {
			t.Errorf("%s: behind the layers there is %s", marksName(m), layerName(l))
		}
	}
	for _, l := range m.Layers {
		blocks, data := l.Blocks[len(l.Blocks):cap(l.Blocks)], l.Data[len(l.Data):cap(l.Data)]
		if slices.ContainsFunc(blocks, func(b int) bool { return b != 0 }) || slices.ContainsFunc(data, func(s string) bool { return s != "" }) {
			t.Errorf("%s: behind layer %d there are %v and %q", marksName(m), l.Mark, blocks, data)
		}
	}
}

// Marks whose lists have what they lack behind their length are as ones that lack it.
func TestMarksThatAreCut(t *testing.T) {
	m := marksOf(layer(0, "3=ab"), layer(1, "3=cd"), layer(2, "4=ef"))
	m.Layers = m.Layers[:2]
	wantNoSuchMark(t, m, 2)
	set, ok := wantSetMark(t, m)
	wantMarks(t, "cut", set, ok, marksOf(layer(0, "3=ab"), layer(1, "3=cd"), layer(2)), true)
	wantWriteMark(t, m, 4, "gh")
	wantGoBack(t, m, 0)
	if got := layerName(m.Layers[:3][2]); got != layerName(layer(2, "4=ef")) {
		t.Errorf("behind the layers there is %s", got)
	}
	l := layer(1, "3=cd", "4=ef")
	l.Data = l.Data[:1]
	if impl.GoodMarks(marksOf(l)) {
		t.Error("a text behind the length is read")
	}
	l.Blocks = l.Blocks[:1]
	s, ok := impl.ReadAt(marksOf(l), 1, 4)
	wantText(t, "a block that is cut", s, ok, zeroBlock, true)
	written, ok := impl.WriteMark(marksOf(l), 9, "gh")
	wantMarks(t, "a block that is cut", written, ok, marksOf(layer(1, "3=cd", "9=gh")), true)
	if l.Blocks[:2][1] != 4 || l.Data[:2][1] != "ef" {
		t.Errorf("behind the length there are %d and %q", l.Blocks[:2][1], l.Data[:2][1])
	}
}

// A map is gone through in another order each time; no answer may hang on it.
func TestMarksFunctionsAnswerAlikeTwice(t *testing.T) {
	for i, m := range goodMarks() {
		for range 4 {
			wantAlikeAnswers(t, m, m, i%16)
		}
	}
}

// Promise 19: numbers that are far from all that can be, in every argument at once.
func TestMarksOfWrongNumbers(t *testing.T) {
	m := marksOf(layer(0, "3=ab"), layer(200, "3=cd"))
	for _, a := range append([]int{0, 200, math.MaxInt - 200}, wrongNumbers...) {
		for _, b := range append([]int{0, 200, 15}, wrongNumbers...) {
			s, ok := impl.ReadAt(m, a, b)
			if ruleHas(m, a) >= 0 && b >= 0 && b <= 15 {
				wantText(t, "within", s, ok, ruleAt(m, ruleHas(m, a), b), true)
			} else {
				wantText(t, "beyond", s, ok, "", false)
			}
			l, ok := impl.ChangedIn(m, a, b)
			if ruleHas(m, a) >= 0 && ruleHas(m, b) >= 0 {
				wantNumbers(t, "within", l, ok, ruleChanged(m, ruleHas(m, a), ruleHas(m, b)), true)
			} else {
				wantNumbers(t, "beyond", l, ok, nil, false)
			}
			wantWriteMark(t, m, b, "ab")
			wantDrop(t, m, a)
			wantGoBack(t, m, a)
		}
	}
}
