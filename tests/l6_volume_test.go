package tests

import (
	"math"
	"slices"
	"strconv"
	"strings"
	"testing"

	"loop.example/g00541/impl"
)

// ruleMarks are the marks that records tell, in their order.
func ruleMarks(l []impl.Record) []int {
	var marks []int
	for _, r := range l {
		if r.Kind == 3 {
			marks = append(marks, r.At)
		}
	}
	return marks
}

// ruleGoodVolume is what the document says of a good volume, field by field.
func ruleGoodVolume(v impl.Volume) bool {
	good := len(v.Base) == 16 && len(v.Log) < 41 && v.Sure > -1 && v.Sure <= len(v.Log) && v.Folded > -1 && v.Folded < 201
	for _, block := range v.Base {
		good = good && len(block) == 2
	}
	for _, r := range v.Log {
		good = good && ruleGoodRecord(r)
	}
	for i, mark := range ruleMarks(v.Log) {
		good = good && mark == v.Folded+i+1
	}
	return good
}

// ruleBlocks is each block as the last record that writes it makes it, or as it is in the base.
func ruleBlocks(base []string, l []impl.Record) []string {
	blocks := slices.Clone(base)
	made := ruleFold(l)
	for _, r := range l {
		if r.Kind == 3 {
			continue
		}
		for b := r.At; b < r.At+r.Long; b++ {
			blocks[b] = made[b]
		}
	}
	return blocks
}

// ruleMark counts: each mark is one more than the one ahead.
func ruleMark(v impl.Volume) int {
	return v.Folded + len(ruleMarks(v.Log))
}

func ruleRecordFor(op impl.VolOp) (impl.Record, bool) {
	r := impl.Record{Kind: op.Kind, At: op.At, Long: op.Long, Data: op.Data}
	if op.Keep != 0 || !ruleGoodRecord(r) {
		return impl.Record{}, false
	}
	return r, true
}

// ruleDo tells what a good volume is behind an op.
func ruleDo(v impl.Volume, op impl.VolOp) (impl.Volume, bool) {
	many := len(v.Log)
	r, writes := ruleRecordFor(op)
	switch {
	case writes && many < 40 && (op.Kind != 3 || op.At == ruleMark(v)+1):
		return impl.Volume{Base: v.Base, Folded: v.Folded, Log: append(slices.Clone(v.Log), r), Sure: v.Sure}, true
	case op == impl.VolOp{Kind: 4}:
		return impl.Volume{Base: v.Base, Folded: v.Folded, Log: v.Log, Sure: many}, true
	case op == impl.VolOp{Kind: 5, Keep: op.Keep} && op.Keep >= v.Sure && op.Keep <= many:
		return impl.Volume{Base: v.Base, Folded: v.Folded, Log: v.Log[:op.Keep], Sure: op.Keep}, true
	case op == impl.VolOp{Kind: 6}:
		sure := v.Log[:v.Sure]
		return impl.Volume{Base: ruleBlocks(v.Base, sure), Folded: v.Folded + len(ruleMarks(sure)), Log: v.Log[v.Sure:]}, true
	}
	return impl.Volume{}, false
}

// rulePlay has the volume behind each op, and whether it was done.
func rulePlay(l []impl.VolOp) ([]impl.Volume, []bool) {
	v := freshVolume()
	volumes, did := []impl.Volume{v}, []bool{}
	for _, op := range l {
		next, ok := ruleDo(v, op)
		if ok {
			v = next
		}
		volumes, did = append(volumes, v), append(did, ok)
	}
	return volumes, did
}

func freshVolume() impl.Volume {
	return impl.Volume{Base: slices.Repeat([]string{zeroBlock}, 16)}
}

// volumeName tells all that a volume has, also one that is not good.
func volumeName(v impl.Volume) string {
	base := make([]string, len(v.Base))
	for i, block := range v.Base {
		base[i] = strconv.Quote(block)
	}
	return strings.Join(base, "") + " folded " + strconv.Itoa(v.Folded) + " log " + recordNames(v.Log) + " sure " + strconv.Itoa(v.Sure)
}

func opName(op impl.VolOp) string {
	return recordName(impl.Record{Kind: op.Kind, At: op.At, Long: op.Long, Data: op.Data}) + " keep " + strconv.Itoa(op.Keep)
}

func wantVolume(t *testing.T, what string, got impl.Volume, ok bool, want impl.Volume, wantOk bool) {
	t.Helper()
	if volumeName(got) != volumeName(want) || ok != wantOk {
		t.Errorf("%s: got %s %v, want %s %v", what, volumeName(got), ok, volumeName(want), wantOk)
	}
	if ok && (!impl.GoodVolume(got) || !ruleGoodVolume(got)) {
		t.Errorf("%s: %s is not good", what, volumeName(got))
	}
}

func wantTexts(t *testing.T, what string, got []string, ok bool, want []string, wantOk bool) {
	t.Helper()
	if !slices.Equal(got, want) || ok != wantOk {
		t.Errorf("%s: got %q %v, want %q %v", what, got, ok, want, wantOk)
	}
}

// wantDo holds an op on a good volume against the rule, and has what came of it.
func wantDo(t *testing.T, v impl.Volume, op impl.VolOp) (impl.Volume, bool) {
	t.Helper()
	got, ok := impl.DoVolume(v, op)
	want, wantOk := ruleDo(v, op)
	wantVolume(t, volumeName(v)+": "+opName(op), got, ok, want, wantOk)
	return got, ok
}

func wantRefused(t *testing.T, v impl.Volume, op impl.VolOp) {
	t.Helper()
	got, ok := impl.DoVolume(v, op)
	wantVolume(t, volumeName(v)+": "+opName(op), got, ok, impl.Volume{}, false)
}

// wantDone is for what is told by hand.
func wantDone(t *testing.T, v impl.Volume, op impl.VolOp, want impl.Volume) {
	t.Helper()
	got, ok := impl.DoVolume(v, op)
	wantVolume(t, volumeName(v)+": "+opName(op), got, ok, want, true)
}

// wantRecordFor holds the record of an op against the rule.
func wantRecordFor(t *testing.T, op impl.VolOp) {
	t.Helper()
	got, ok := impl.RecordFor(op)
	want, wantOk := ruleRecordFor(op)
	if got != want || ok != wantOk {
		t.Errorf("%s: got %s %v, want %s %v", opName(op), recordName(got), ok, recordName(want), wantOk)
	}
}

// wantTold holds what is told of a good volume against the rules.
func wantTold(t *testing.T, v impl.Volume) {
	t.Helper()
	what := volumeName(v)
	if !impl.GoodVolume(v) {
		t.Errorf("%s: is not good", what)
	}
	all := ruleBlocks(v.Base, v.Log)
	blocks, ok := impl.BlocksIn(v)
	wantTexts(t, what, blocks, ok, all, true)
	mark, ok := impl.MarkOf(v)
	wantNumber(t, what, mark, ok, ruleMark(v), true)
	for long := 1; long <= 4; long++ {
		for at := 0; at+long <= 16; at++ {
			s, ok := impl.ReadBlocks(v, at, long)
			wantText(t, what, s, ok, strings.Join(all, "")[2*at:2*at+2*long], true)
		}
	}
}

// volumeWith is a volume of any blocks, with so many records of which so many are sure.
func volumeWith(n *numbers, folded int, many int, sure int) impl.Volume {
	v := impl.Volume{Folded: folded, Sure: sure}
	for range 16 {
		v.Base = append(v.Base, mixedText(2, uint32(n.below(100000))))
	}
	mark := folded
	for len(v.Log) < many {
		r := someRecord(n)
		if r.Kind == 3 && mark == 200 {
			continue
		}
		if r.Kind == 3 {
			mark++
			r.At = mark
		}
		v.Log = append(v.Log, r)
	}
	return v
}

func someVolumes() []impl.Volume {
	var l []impl.Volume
	for i := range 120 {
		n := &numbers{seed: uint64(i)}
		many := n.below(41)
		l = append(l, volumeWith(n, n.below(201), many, n.below(many+1)))
	}
	return l
}

// marksFrom are records that mark, from one on.
func marksFrom(first int, many int) []impl.Record {
	var l []impl.Record
	for i := range many {
		l = append(l, impl.Record{Kind: 3, At: first + i})
	}
	return l
}

// edgeVolumes are good ones that lie at what the chapter names.
func edgeVolumes() []impl.Volume {
	n := &numbers{seed: 77}
	l := []impl.Volume{freshVolume(), withLog(0, 0, marksFrom(1, 40)...), withLog(0, 40, marksFrom(1, 40)...), withLog(160, 17, marksFrom(161, 40)...),
		withLog(199, 0, marksFrom(200, 1)...), withLog(199, 1, marksFrom(200, 1)...), withLog(200, 0), withLog(200, 1, impl.Record{Kind: 2, Long: 4})}
	for _, many := range []int{0, 1, 2, 39, 40} {
		for _, sure := range []int{0, min(1, many), many / 2, max(many-1, 0), many} {
			for _, folded := range []int{0, 1, 160, 199, 200} {
				l = append(l, volumeWith(n, folded, many, sure))
			}
		}
	}
	return l
}

// withLog is a volume whose Base has two bytes 0 each.
func withLog(folded int, sure int, log ...impl.Record) impl.Volume {
	v := freshVolume()
	v.Folded, v.Log, v.Sure = folded, log, sure
	return v
}

// withBase is a volume whose Base has just these blocks.
func withBase(blocks ...string) impl.Volume {
	return impl.Volume{Base: blocks}
}

// withBlock is a new volume, but for one block.
func withBlock(b int, block string) impl.Volume {
	v := freshVolume()
	v.Base[b] = block
	return v
}

// badVolumes are not good, each for one reason.
func badVolumes() []impl.Volume {
	write, trim := impl.Record{Kind: 1, At: 3, Long: 1, Data: "ab"}, impl.Record{Kind: 2, At: 3, Long: 1}
	mark := func(at int) impl.Record { return impl.Record{Kind: 3, At: at} }
	l := []impl.Volume{{}, withBase(slices.Repeat([]string{zeroBlock}, 15)...), withBase(slices.Repeat([]string{zeroBlock}, 17)...), withBase(strings.Repeat("\x00", 32)),
		withBase(slices.Repeat([]string{"a"}, 32)...), withBase(slices.Repeat([]string{"abcd"}, 8)...),
		withLog(0, 0, slices.Repeat([]impl.Record{write}, 41)...), withLog(0, 0, slices.Repeat([]impl.Record{trim}, 41)...), withLog(0, 41, marksFrom(1, 41)...),
		withLog(0, -1), withLog(0, 1), withLog(0, -1, write), withLog(0, 2, write), withLog(0, 41, slices.Repeat([]impl.Record{write}, 40)...),
		withLog(-1, 0), withLog(201, 0), withLog(-1, 0, mark(0)), withLog(200, 0, mark(201)), withLog(201, 0, mark(202)), withLog(200, 0, mark(200)),
		withLog(0, 0, mark(0)), withLog(0, 0, mark(2)), withLog(5, 0, mark(5)), withLog(5, 0, mark(7)), withLog(5, 0, mark(1)), withLog(5, 0, write, trim, mark(7)), withLog(5, 3, write, trim, mark(4)),
		withLog(0, 0, mark(1), mark(1)), withLog(0, 0, mark(1), mark(3)), withLog(5, 0, mark(6), mark(5)), withLog(5, 0, mark(6), write, mark(6)), withLog(5, 1, mark(6), write, mark(8)),
		withLog(5, 0, mark(6), mark(7), mark(9)), withLog(5, 0, mark(6), mark(7), trim, mark(7)), withLog(199, 0, mark(200), mark(201)), withLog(0, 0, mark(2), mark(1))}
	for b := range 16 {
		l = append(l, withBlock(b, ""), withBlock(b, "a"), withBlock(b, "abc"), withBlock(b, mixedText(300, 1)))
	}
	for _, bad := range badRecords() {
		l = append(l, withLog(0, 0, bad), withLog(0, 2, write, bad), withLog(0, 1, bad, mark(1)), withLog(0, 0, write, bad, trim))
	}
	for _, wrong := range wrongNumbers {
		l = append(l, withLog(wrong, 0), withLog(0, wrong), withLog(wrong, 0, write), withLog(0, wrong, write), withLog(wrong, wrong, write, trim), withLog(wrong, 0, mark(1)), withLog(wrong, 0, mark(0)))
	}
	return l
}

func TestVolumeConstants(t *testing.T) {
	kinds := []int{impl.VoWrite, impl.VoTrim, impl.VoMark, impl.VoFlush, impl.VoCrash, impl.VoFold}
	if impl.MaxOps != 60 || !slices.Equal(kinds, []int{1, 2, 3, 4, 5, 6}) {
		t.Error(impl.MaxOps, kinds)
	}
}

func TestNewVolume(t *testing.T) {
	v := impl.NewVolume()
	wantVolume(t, "a new one", v, true, freshVolume(), true)
	wantTold(t, v)
	v.Base[3] = "is changed"
	wantVolume(t, "the next one", impl.NewVolume(), true, freshVolume(), true)
}

func TestGoodVolume(t *testing.T) {
	for _, v := range append(edgeVolumes(), someVolumes()...) {
		if !impl.GoodVolume(v) || !ruleGoodVolume(v) {
			t.Errorf("%s: is not good", volumeName(v))
		}
	}
	for _, v := range badVolumes() {
		if impl.GoodVolume(v) || ruleGoodVolume(v) {
			t.Errorf("%s: is good", volumeName(v))
		}
	}
}

func TestGoodVolumeOfEverySureAndFolded(t *testing.T) {
	for many := range 43 {
		log := slices.Repeat([]impl.Record{{Kind: 2, At: 3, Long: 2}}, many)
		for sure := -2; sure <= many+2; sure++ {
			v := withLog(7, sure, log...)
			if impl.GoodVolume(v) != (many <= 40 && sure >= 0 && sure <= many) {
				t.Errorf("%d records, %d sure: good is %v", many, sure, impl.GoodVolume(v))
			}
		}
	}
	for folded := -3; folded <= 203; folded++ {
		if is := folded >= 0 && folded <= 200; impl.GoodVolume(withLog(folded, 0)) != is {
			t.Errorf("folded %d: good is not %v", folded, is)
		}
		for mark := -1; mark <= 204; mark++ {
			v := withLog(folded, 0, impl.Record{Kind: 3, At: mark})
			if is := folded >= 0 && mark == folded+1 && mark <= 200; impl.GoodVolume(v) != is {
				t.Errorf("folded %d, mark %d: good is not %v", folded, mark, is)
			}
		}
	}
}

// Every three marks, with and without writes between them.
func TestGoodVolumeOfEveryThreeMarks(t *testing.T) {
	trim := impl.Record{Kind: 2, Long: 1}
	for i := range 4 * 6 * 6 * 6 {
		folded, a, b, c := i%4, i/4%6, i/24%6, i/144
		marks := []impl.Record{{Kind: 3, At: a}, {Kind: 3, At: b}, {Kind: 3, At: c}}
		is := a == folded+1 && b == folded+2 && c == folded+3
		if v := withLog(folded, 1, marks...); impl.GoodVolume(v) != is {
			t.Errorf("%s: good is not %v", volumeName(v), is)
		}
		if v := withLog(folded, 3, trim, marks[0], trim, trim, marks[1], marks[2], trim); impl.GoodVolume(v) != is {
			t.Errorf("%s: good is not %v", volumeName(v), is)
		}
	}
}

// Promise 6: a volume has what its records make.
func TestVolumeHasWhatItsRecordsMake(t *testing.T) {
	for _, v := range append(edgeVolumes(), someVolumes()...) {
		wantTold(t, v)
	}
}

// Promise 6, told apart from how records are done: what was in a volume ahead is there, but for the blocks that the last record is for.
func TestLastRecordCounts(t *testing.T) {
	for _, v := range append(edgeVolumes(), someVolumes()...) {
		for many, r := range v.Log {
			less, more := v, v
			less.Log, less.Sure = v.Log[:many], 0
			more.Log, more.Sure = v.Log[:many+1], 0
			ahead, _ := impl.BlocksIn(less)
			behind, _ := impl.BlocksIn(more)
			for b := range 16 {
				want := ahead[b]
				if r.Kind != 3 && b >= r.At && b < r.At+r.Long {
					want = (r.Data + strings.Repeat("\x00", 8))[2*(b-r.At):][:2]
				}
				if behind[b] != want {
					t.Errorf("%s behind %s: block %d is %q, not %q", recordName(r), volumeName(less), b, behind[b], want)
				}
			}
		}
	}
}

// Promise 6: with an empty Base a volume has what chapter 3 folds of its Log.
func TestVolumeOfAnEmptyBaseIsTheFold(t *testing.T) {
	for _, v := range append(edgeVolumes(), someVolumes()...) {
		v.Base = freshVolume().Base
		folded, _ := impl.FoldRecords(v.Log)
		blocks, ok := impl.BlocksIn(v)
		wantTexts(t, volumeName(v), blocks, ok, folded, true)
	}
}

// Promise 6: folding changes nothing of what a volume tells, whatever is Sure.
func TestFoldChangesNothing(t *testing.T) {
	for _, v := range append(edgeVolumes(), someVolumes()...) {
		blocks, _ := impl.BlocksIn(v)
		mark, _ := impl.MarkOf(v)
		for sure := range len(v.Log) + 1 {
			v.Sure = sure
			folded, _ := wantDo(t, v, impl.VolOp{Kind: impl.VoFold})
			same, ok := impl.BlocksIn(folded)
			wantTexts(t, volumeName(v), same, ok, blocks, true)
			m, ok := impl.MarkOf(folded)
			wantNumber(t, volumeName(v), m, ok, mark, true)
			if !slices.Equal(folded.Log, v.Log[sure:]) || folded.Sure != 0 {
				t.Errorf("%s folded has the log %s, sure %d", volumeName(v), recordNames(folded.Log), folded.Sure)
			}
			again, ok := impl.DoVolume(folded, impl.VolOp{Kind: impl.VoFold})
			wantVolume(t, "folded again", again, ok, folded, true)
		}
	}
}

// Promise 6: a crash keeps all that is Sure, and a beginning of the rest.
func TestCrashKeepsWhatIsSureAndABeginning(t *testing.T) {
	for _, v := range append(edgeVolumes(), someVolumes()...) {
		for keep := -2; keep <= len(v.Log)+2; keep++ {
			crashed, ok := wantDo(t, v, impl.VolOp{Kind: impl.VoCrash, Keep: keep})
			if ok != (keep >= v.Sure && keep <= len(v.Log)) {
				t.Errorf("%s: a crash with %d of it kept is %v", volumeName(v), keep, ok)
			}
			if !ok {
				continue
			}
			if !slices.Equal(crashed.Log, v.Log[:keep]) || crashed.Sure != keep || crashed.Folded != v.Folded || !slices.Equal(crashed.Base, v.Base) {
				t.Errorf("%s: a crash with %d of it kept leaves %s", volumeName(v), keep, volumeName(crashed))
			}
			blocks, ok := impl.BlocksIn(crashed)
			wantTexts(t, volumeName(v), blocks, ok, ruleBlocks(v.Base, v.Log[:keep]), true)
		}
	}
}

// Promise 6: what was flushed stays behind every crash that can be, whatever is written between.
func TestFlushedStaysBehindEveryCrash(t *testing.T) {
	n := &numbers{seed: 6}
	for _, v := range append(edgeVolumes(), someVolumes()...) {
		flushed, ok := wantDo(t, v, impl.VolOp{Kind: impl.VoFlush})
		if !ok || flushed.Sure != len(v.Log) || !slices.Equal(flushed.Log, v.Log) {
			t.Errorf("%s flushed: %s %v", volumeName(v), volumeName(flushed), ok)
		}
		more := flushed
		for range n.below(6) {
			if next, ok := wantDo(t, more, someOp(n, more, 3)); ok {
				more = next
			}
		}
		for keep := range len(more.Log) + 2 {
			crashed, ok := wantDo(t, more, impl.VolOp{Kind: impl.VoCrash, Keep: keep})
			if ok != (keep >= len(v.Log) && keep <= len(more.Log)) {
				t.Errorf("%s: a crash with %d kept is %v", volumeName(more), keep, ok)
			}
			if ok && (!slices.Equal(crashed.Log[:len(v.Log)], v.Log) || !slices.Equal(crashed.Log, more.Log[:keep])) {
				t.Errorf("%s: a crash with %d kept leaves %s", volumeName(more), keep, volumeName(crashed))
			}
		}
	}
}

// someOp is an op of one of the first kinds, most often one that can be done.
func someOp(n *numbers, v impl.Volume, kinds int) impl.VolOp {
	kind := 1 + n.below(kinds)
	op := impl.VolOp{Kind: kind}
	switch kind {
	case 1, 2:
		op.Long = 1 + n.below(4)
		op.At = n.below(18 - op.Long)
		if kind == 1 {
			op.Data = mixedText(2*op.Long+max(n.below(12)-10, 0), uint32(n.below(100000)))
		}
	case 3:
		op.At = ruleMark(v) + 1 + max(n.below(10)-7, 0)
	case 5:
		op.Keep = v.Sure + n.below(len(v.Log)-v.Sure+2)
	}
	if n.below(15) == 0 {
		op.Keep += n.below(3) - 1
	}
	return op
}

// Promise 6: whatever is done from a new volume on, it is as said behind each op, and PlayVolume has the same.
func TestPlayIsDoOpByOp(t *testing.T) {
	for i := range 400 {
		n := &numbers{seed: uint64(1000 + i)}
		// Without folds and crashes, which make room, the Log is full at last.
		kinds := 3 + i%4
		var ops []impl.VolOp
		var did []bool
		v := impl.NewVolume()
		for range 60 {
			op := someOp(n, v, kinds)
			next, ok := wantDo(t, v, op)
			if ok {
				v = next
			}
			ops, did = append(ops, op), append(did, ok)
		}
		wantTold(t, v)
		wantPlayed(t, ops, v, did)
		for _, many := range []int{0, 1, n.below(60), 59} {
			volumes, done := rulePlay(ops[:many])
			wantPlayed(t, ops[:many], volumes[many], done)
		}
	}
}

func wantPlayed(t *testing.T, ops []impl.VolOp, want impl.Volume, wantDid []bool) {
	t.Helper()
	got, did, ok := impl.PlayVolume(ops)
	wantVolume(t, "played", got, ok, want, true)
	if !slices.Equal(did, wantDid) {
		t.Errorf("played: did %v, want %v", did, wantDid)
	}
}

// Every four ops of these, from a new volume on.
func TestEveryShortPlay(t *testing.T) {
	ops := []impl.VolOp{{Kind: 1, At: 0, Long: 2, Data: "abcd"}, {Kind: 1, At: 1, Long: 1, Data: "ef"}, {Kind: 2, At: 0, Long: 1}, {Kind: 3, At: 1}, {Kind: 3, At: 2},
		{Kind: 4}, {Kind: 5}, {Kind: 5, Keep: 1}, {Kind: 5, Keep: 2}, {Kind: 6}}
	for i := range 10000 {
		l := []impl.VolOp{ops[i%10], ops[i/10%10], ops[i/100%10], ops[i/1000]}
		volumes, did := rulePlay(l)
		wantPlayed(t, l, volumes[4], did)
		blocks, ok := impl.BlocksIn(volumes[4])
		wantTexts(t, volumeName(volumes[4]), blocks, ok, ruleBlocks(volumes[4].Base, volumes[4].Log), true)
		mark, ok := impl.MarkOf(volumes[4])
		wantNumber(t, volumeName(volumes[4]), mark, ok, ruleMark(volumes[4]), true)
	}
}

func TestVolumeKnownByHand(t *testing.T) {
	write := impl.Record{Kind: 1, At: 1, Long: 2, Data: "abcd"}
	trim := impl.Record{Kind: 2, At: 2, Long: 1}
	mark := impl.Record{Kind: 3, At: 1}
	v := withLog(0, 0)
	wantDone(t, v, impl.VolOp{Kind: impl.VoWrite, At: 1, Long: 2, Data: "abcd"}, withLog(0, 0, write))
	wantDone(t, withLog(0, 0, write), impl.VolOp{Kind: impl.VoMark, At: 1}, withLog(0, 0, write, mark))
	wantDone(t, withLog(0, 0, write, mark), impl.VolOp{Kind: impl.VoFlush}, withLog(0, 2, write, mark))
	v = withLog(0, 2, write, mark, trim)
	wantDone(t, withLog(0, 2, write, mark), impl.VolOp{Kind: impl.VoTrim, At: 2, Long: 1}, v)
	blocks, ok := impl.BlocksIn(v)
	wantTexts(t, "all three", blocks[:4], ok, []string{zeroBlock, "ab", zeroBlock, zeroBlock}, true)
	s, ok := impl.ReadBlocks(v, 0, 4)
	wantText(t, "the first four", s, ok, "\x00\x00ab\x00\x00\x00\x00", true)
	crashed := withLog(0, 2, write, mark)
	wantDone(t, v, impl.VolOp{Kind: impl.VoCrash, Keep: 2}, crashed)
	s, ok = impl.ReadBlocks(crashed, 1, 2)
	wantText(t, "behind a crash", s, ok, "abcd", true)
	folded := withLog(1, 0, trim)
	folded.Base[1], folded.Base[2] = "ab", "cd"
	wantDone(t, v, impl.VolOp{Kind: impl.VoFold}, folded)
	s, ok = impl.ReadBlocks(folded, 1, 2)
	wantText(t, "behind a fold", s, ok, "ab\x00\x00", true)
	m, ok := impl.MarkOf(folded)
	wantNumber(t, "the mark behind a fold", m, ok, 1, true)
}

func TestFoldsKnownByHand(t *testing.T) {
	fold := impl.VolOp{Kind: impl.VoFold}
	write := impl.Record{Kind: 1, At: 15, Long: 1, Data: "zz"}
	trim := impl.Record{Kind: 2, At: 0, Long: 4}
	// None is Sure: nothing goes, marks neither.
	v := withLog(3, 0, write, impl.Record{Kind: 3, At: 4})
	wantDone(t, v, fold, v)
	wantDone(t, freshVolume(), fold, freshVolume())
	// Some are, with no mark among them: Folded stays.
	v.Sure = 1
	want := withLog(3, 0, impl.Record{Kind: 3, At: 4})
	want.Base[15] = "zz"
	wantDone(t, v, fold, want)
	// All are, with a mark among them.
	v.Sure = 2
	want.Folded, want.Log = 4, nil
	wantDone(t, v, fold, want)
	// Of several marks the last Sure one is told; a later one is still to come.
	v = withLog(3, 3, impl.Record{Kind: 3, At: 4}, trim, impl.Record{Kind: 3, At: 5}, impl.Record{Kind: 3, At: 6})
	v.Base[3], v.Base[4] = "ab", "cd"
	want = withLog(5, 0, impl.Record{Kind: 3, At: 6})
	want.Base[4] = "cd"
	wantDone(t, v, fold, want)
	// 40 marks up to 200.
	wantDone(t, withLog(160, 40, marksFrom(161, 40)...), fold, withLog(200, 0))
}

func TestMarksThatMayBeSet(t *testing.T) {
	trim := impl.Record{Kind: 2, Long: 1}
	for _, v := range []impl.Volume{freshVolume(), withLog(7, 0), withLog(199, 0), withLog(5, 0, trim, impl.Record{Kind: 3, At: 6}, trim), withLog(5, 2, marksFrom(6, 2)...), withLog(197, 0, marksFrom(198, 2)...)} {
		mark := ruleMark(v)
		for at := -1; at <= 203; at++ {
			next := v
			next.Log = append(slices.Clone(v.Log), impl.Record{Kind: 3, At: at})
			if at == mark+1 {
				wantDone(t, v, impl.VolOp{Kind: impl.VoMark, At: at}, next)
			} else {
				wantRefused(t, v, impl.VolOp{Kind: impl.VoMark, At: at})
			}
		}
	}
	for _, last := range []impl.Volume{withLog(200, 0), withLog(200, 1, trim), withLog(199, 0, marksFrom(200, 1)...), withLog(180, 5, marksFrom(181, 20)...)} {
		for at := -1; at <= 203; at++ {
			wantRefused(t, last, impl.VolOp{Kind: impl.VoMark, At: at})
		}
	}
}

func TestRoomInTheLog(t *testing.T) {
	n := &numbers{seed: 40}
	for _, sure := range []int{0, 20, 39} {
		v := volumeWith(n, 20, 39, sure)
		ops := []impl.VolOp{{Kind: impl.VoWrite, At: 2, Long: 1, Data: "ab"}, {Kind: impl.VoTrim, At: 2, Long: 1}, {Kind: impl.VoMark, At: ruleMark(v) + 1}}
		for _, op := range ops {
			full, ok := wantDo(t, v, op)
			if !ok || len(full.Log) != 40 || full.Sure != sure {
				t.Errorf("%s: %s is %v", volumeName(v), opName(op), ok)
			}
			for _, more := range ops[:2] {
				wantRefused(t, full, more)
			}
			wantRefused(t, full, impl.VolOp{Kind: impl.VoMark, At: ruleMark(full) + 1})
			for _, other := range []impl.VolOp{{Kind: impl.VoFlush}, {Kind: impl.VoFold}, {Kind: impl.VoCrash, Keep: 40}, {Kind: impl.VoCrash, Keep: sure}} {
				if _, ok := wantDo(t, full, other); !ok {
					t.Errorf("%s: %s can't be done", volumeName(full), opName(other))
				}
			}
		}
	}
	// Where all of a full Log is folded there is room again.
	full := volumeWith(n, 0, 40, 40)
	folded, _ := wantDo(t, full, impl.VolOp{Kind: impl.VoFold})
	if next, ok := wantDo(t, folded, impl.VolOp{Kind: impl.VoTrim, Long: 1}); !ok || len(next.Log) != 1 {
		t.Errorf("behind a fold: %s %v", volumeName(next), ok)
	}
}

func TestCrashAtItsBounds(t *testing.T) {
	n := &numbers{seed: 41}
	for _, sizes := range [][2]int{{0, 0}, {1, 0}, {1, 1}, {5, 0}, {5, 3}, {5, 5}, {40, 0}, {40, 39}, {40, 40}} {
		many, sure := sizes[0], sizes[1]
		v := volumeWith(n, 11, many, sure)
		for _, keep := range append([]int{sure - 1, many + 1, many + 2, 41, 100}, wrongNumbers...) {
			if keep < sure || keep > many {
				wantRefused(t, v, impl.VolOp{Kind: impl.VoCrash, Keep: keep})
			}
		}
		for _, keep := range []int{sure, many} {
			want := v
			want.Log, want.Sure = v.Log[:keep], keep
			wantDone(t, v, impl.VolOp{Kind: impl.VoCrash, Keep: keep}, want)
		}
	}
}

// The mark of what a crash took away may be set again.
func TestCrashTakesMarksAway(t *testing.T) {
	v := withLog(3, 1, marksFrom(4, 3)...)
	crashed, _ := wantDo(t, v, impl.VolOp{Kind: impl.VoCrash, Keep: 1})
	mark, ok := impl.MarkOf(crashed)
	wantNumber(t, "behind the crash", mark, ok, 4, true)
	wantRefused(t, crashed, impl.VolOp{Kind: impl.VoMark, At: 7})
	wantDone(t, crashed, impl.VolOp{Kind: impl.VoMark, At: 5}, withLog(3, 1, marksFrom(4, 2)...))
	bare, _ := wantDo(t, withLog(3, 0, marksFrom(4, 3)...), impl.VolOp{Kind: impl.VoCrash})
	mark, ok = impl.MarkOf(bare)
	wantNumber(t, "behind a crash of all", mark, ok, 3, true)
}

// goodOps can all be done on the volume that needlessVolume has.
func goodOps() []impl.VolOp {
	return []impl.VolOp{{Kind: impl.VoWrite, At: 2, Long: 1, Data: "ab"}, {Kind: impl.VoTrim, At: 2, Long: 1}, {Kind: impl.VoMark, At: 6},
		{Kind: impl.VoFlush}, {Kind: impl.VoCrash, Keep: 2}, {Kind: impl.VoFold}}
}

func needlessVolume() impl.Volume {
	return withLog(4, 1, impl.Record{Kind: 3, At: 5}, impl.Record{Kind: 2, At: 1, Long: 1}, impl.Record{Kind: 2, At: 5, Long: 2})
}

// Each field that an op has no use for, when it is not zero.
func TestFieldsThatAnOpHasNoUseFor(t *testing.T) {
	v := needlessVolume()
	uses := map[int]string{1: "ALD", 2: "AL", 3: "A", 5: "K"}
	for _, op := range goodOps() {
		if _, ok := wantDo(t, v, op); !ok {
			t.Errorf("%s can't be done", opName(op))
		}
		for _, other := range append([]int{1, 2, 3, 4}, wrongNumbers...) {
			changed := []impl.VolOp{op, op, op, op}
			changed[0].At, changed[1].Long, changed[2].Data, changed[3].Keep = other, other, "cd", other
			for i, field := range "ALDK" {
				wantRecordFor(t, changed[i])
				if !strings.ContainsRune(uses[op.Kind], field) {
					wantRefused(t, v, changed[i])
				} else {
					wantDo(t, v, changed[i])
				}
			}
		}
		for _, text := range []string{"\x00", zeroBlock, "abcd", mixedText(500, 1)} {
			changed := op
			changed.Data = text
			wantDo(t, v, changed)
			wantRecordFor(t, changed)
		}
	}
}

func TestKindsThatAreNone(t *testing.T) {
	for _, kind := range append([]int{0, 7, 8, 255, 257, 260}, wrongNumbers...) {
		for _, op := range append(goodOps(), impl.VolOp{}) {
			op.Kind = kind
			wantRefused(t, needlessVolume(), op)
			wantRefused(t, freshVolume(), op)
			wantRecordFor(t, op)
		}
	}
}

func TestWritesThatAreNoRecord(t *testing.T) {
	for _, r := range badRecords() {
		op := impl.VolOp{Kind: r.Kind, At: r.At, Long: r.Long, Data: r.Data}
		wantRecordFor(t, op)
		if r.Kind < 4 {
			wantRefused(t, freshVolume(), op)
		}
		got, did, ok := impl.PlayVolume([]impl.VolOp{op, {Kind: impl.VoTrim, Long: 1}})
		if _, fine := ruleDo(freshVolume(), op); !fine {
			wantVolume(t, opName(op), got, ok, withLog(0, 0, impl.Record{Kind: 2, Long: 1}), true)
			if !slices.Equal(did, []bool{false, true}) {
				t.Errorf("%s: did %v", opName(op), did)
			}
		}
	}
}

func TestRecordFor(t *testing.T) {
	for _, r := range append(edgeRecords(), recordShapes("abcdefgh")...) {
		op := impl.VolOp{Kind: r.Kind, At: r.At, Long: r.Long, Data: r.Data}
		got, ok := impl.RecordFor(op)
		if got != r || !ok {
			t.Errorf("%s: got %s %v", opName(op), recordName(got), ok)
		}
		for _, keep := range append([]int{1, 2, 40}, wrongNumbers...) {
			op.Keep = keep
			if got, ok := impl.RecordFor(op); ok || got != (impl.Record{}) {
				t.Errorf("%s: got %s %v", opName(op), recordName(got), ok)
			}
		}
	}
	for _, kind := range []int{impl.VoFlush, impl.VoCrash, impl.VoFold} {
		for _, keep := range []int{0, 1} {
			op := impl.VolOp{Kind: kind, Keep: keep}
			if got, ok := impl.RecordFor(op); ok || got != (impl.Record{}) {
				t.Errorf("%s: got %s %v", opName(op), recordName(got), ok)
			}
		}
	}
}

func TestReadBlocksAtItsBounds(t *testing.T) {
	n := &numbers{seed: 16}
	v := volumeWith(n, 0, 6, 3)
	all := strings.Join(ruleBlocks(v.Base, v.Log), "")
	for at := -3; at <= 19; at++ {
		for long := -2; long <= 18; long++ {
			s, ok := impl.ReadBlocks(v, at, long)
			if at >= 0 && long >= 1 && long <= 4 && at+long <= 16 {
				wantText(t, "within", s, ok, all[2*at:][:2*long], true)
			} else {
				wantText(t, "beyond", s, ok, "", false)
			}
		}
	}
	for _, wrong := range wrongNumbers {
		for _, other := range append([]int{0, 1, 4, 15, -wrong, 1 - wrong, 16 - wrong, 17 - wrong}, wrongNumbers...) {
			s, ok := impl.ReadBlocks(v, wrong, other)
			wantText(t, "at "+strconv.Itoa(wrong), s, ok, "", false)
			s, ok = impl.ReadBlocks(v, other, wrong)
			wantText(t, "long "+strconv.Itoa(wrong), s, ok, "", false)
		}
	}
}

func TestPlaysOfEveryManyOps(t *testing.T) {
	wantPlayed(t, nil, freshVolume(), nil)
	wantPlayed(t, []impl.VolOp{}, freshVolume(), nil)
	// Each write is folded at once: all of 60 ops can be done.
	round := []impl.VolOp{{Kind: impl.VoWrite, At: 3, Long: 1, Data: "ab"}, {Kind: impl.VoFlush}, {Kind: impl.VoFold}}
	want := freshVolume()
	want.Base[3] = "ab"
	wantPlayed(t, slices.Repeat(round, 20), want, slices.Repeat([]bool{true}, 60))
	// Of 60 trims the Log has room for 40.
	trim := impl.VolOp{Kind: impl.VoTrim, At: 3, Long: 1}
	full := withLog(0, 0, slices.Repeat([]impl.Record{{Kind: 2, At: 3, Long: 1}}, 40)...)
	wantPlayed(t, slices.Repeat([]impl.VolOp{trim}, 60), full, append(slices.Repeat([]bool{true}, 40), make([]bool, 20)...))
	for _, l := range [][]impl.VolOp{slices.Repeat([]impl.VolOp{trim}, 61), slices.Repeat([]impl.VolOp{{}}, 61), slices.Repeat([]impl.VolOp{{Kind: 4}}, 1000)} {
		v, did, ok := impl.PlayVolume(l)
		wantVolume(t, "beyond", v, ok, impl.Volume{}, false)
		if len(did) != 0 {
			t.Errorf("beyond: did %v", did)
		}
	}
	// What is refused changes nothing, and what comes behind is done.
	wantPlayed(t, []impl.VolOp{{Kind: 9}, {Kind: impl.VoMark, At: 2}, {Kind: impl.VoMark, At: 1}, {Kind: impl.VoCrash, Keep: 2}, {Kind: impl.VoMark, At: 2}},
		withLog(0, 0, marksFrom(1, 2)...), []bool{false, false, true, false, true})
}

// Promise 19: of volumes that are not good nothing is told and nothing is done.
func TestVolumesThatAreNotGood(t *testing.T) {
	for _, v := range badVolumes() {
		what := volumeName(v)
		blocks, ok := impl.BlocksIn(v)
		wantTexts(t, what, blocks, ok, nil, false)
		mark, ok := impl.MarkOf(v)
		wantNumber(t, what, mark, ok, 0, false)
		s, ok := impl.ReadBlocks(v, 0, 1)
		wantText(t, what, s, ok, "", false)
		for _, op := range append(goodOps(), impl.VolOp{}, impl.VolOp{Kind: impl.VoCrash}, impl.VolOp{Kind: impl.VoCrash, Keep: v.Sure}, impl.VolOp{Kind: impl.VoMark, At: 1}) {
			wantRefused(t, v, op)
		}
	}
}

// shownVolume is a volume all of whose texts lie over bytes that can be looked at, and whose lists have more behind their lengths.
func shownVolume(v impl.Volume) (impl.Volume, [][]byte) {
	log, bytes, _ := shownRecords(v.Log)
	base := slices.Clone(v.Base)
	for i, block := range base {
		b := []byte(block)
		bytes = append(bytes, b)
		base[i] = overBytes(b)
	}
	v.Base = longer(base, "be", "hi", "nd it")
	v.Log = log
	return v, bytes
}

func heldTexts(l []string) heldList {
	return held(l, strconv.Quote, func(s string) string { return s + "+" })
}

func heldVolume(v impl.Volume) []heldList {
	return []heldList{heldTexts(v.Base), held(v.Log, recordName, func(r impl.Record) impl.Record { return impl.Record{Kind: r.Kind + 100, At: r.At + 1} })}
}

// volumeAnswers asks all functions of a volume; the volumes, lists of blocks and other texts that they answer.
func volumeAnswers(v impl.Volume, ops []impl.VolOp) ([]impl.Volume, [][]string, []string) {
	var volumes []impl.Volume
	var texts []string
	for _, op := range ops {
		done, _ := impl.DoVolume(v, op)
		volumes = append(volumes, done)
		r, _ := impl.RecordFor(op)
		texts = append(texts, r.Data)
	}
	for _, at := range []int{0, 3, 9} {
		for _, long := range []int{1, 2, 4} {
			s, _ := impl.ReadBlocks(v, at, long)
			texts = append(texts, s)
		}
	}
	blocks, _ := impl.BlocksIn(v)
	again, _ := impl.BlocksIn(v)
	impl.GoodVolume(v)
	impl.MarkOf(v)
	return volumes, [][]string{blocks, again}, texts
}

// opsFor are ops of all kinds whose texts lie over bytes that can be looked at.
func opsFor(v impl.Volume) ([]impl.VolOp, [][]byte) {
	b := []byte("ab12ef78")
	return []impl.VolOp{{Kind: 1, At: 0, Long: 1, Data: overBytes(b[:2])}, {Kind: 1, At: 9, Long: 4, Data: overBytes(b)}, {Kind: 2, At: 2, Long: 3}, {Kind: 3, At: ruleMark(v) + 1},
		{Kind: 4}, {Kind: 5, Keep: v.Sure}, {Kind: 5, Keep: (v.Sure + len(v.Log)) / 2}, {Kind: 5, Keep: len(v.Log)}, {Kind: 6}, {Kind: 7}, {Kind: 1, At: 0, Long: 3, Data: overBytes(b)}}, [][]byte{b}
}

// Promise 19: nothing that is handed in is changed, good or not, and no text of an answer lies in it.
func TestVolumeFunctionsLeaveArgumentsAlone(t *testing.T) {
	for _, v := range slices.Concat(edgeVolumes(), someVolumes(), badVolumes()) {
		shown, bytes := shownVolume(v)
		ops, opBytes := opsFor(v)
		lists := heldVolume(shown)
		ahead := shownLists(lists)
		volumes, blocks, texts := volumeAnswers(shown, ops)
		if behind := shownLists(lists); !slices.Equal(ahead, behind) || string(opBytes[0]) != "ab12ef78" {
			t.Errorf("%s: was %q, is %q", volumeName(v), ahead, behind)
		}
		for _, answer := range volumes {
			texts = append(texts, textsIn(answer)...)
		}
		wantApart(t, slices.Concat(texts, blocks[0], blocks[1]), append(bytes, opBytes...)...)
	}
}

// textsIn are all texts of a volume.
func textsIn(v impl.Volume) []string {
	texts := slices.Clone(v.Base)
	for _, r := range v.Log {
		texts = append(texts, r.Data)
	}
	return texts
}

// Promise 19: each list of an answer has memory of its own, apart from that of what was handed in and of all other lists.
func TestVolumeAnswersAreNewMemory(t *testing.T) {
	for _, v := range append(edgeVolumes(), someVolumes()...) {
		shown, _ := shownVolume(v)
		ops, _ := opsFor(v)
		volumes, blocks, _ := volumeAnswers(shown, ops)
		var lists []heldList
		for _, answer := range append(volumes, impl.NewVolume(), impl.NewVolume()) {
			lists = append(lists, heldVolume(answer)...)
		}
		lists = append(lists, heldTexts(blocks[0]), heldTexts(blocks[1]))
		wantNoneShared(t, volumeName(v), append(lists, heldVolume(shown)...), len(lists))
	}
}

// Promise 19: what lies behind a list's length is neither read nor handed out.
func TestVolumesBehindTheLengthAreNotRead(t *testing.T) {
	for _, v := range slices.Concat(edgeVolumes(), someVolumes(), badVolumes()) {
		shown, _ := shownVolume(v)
		if impl.GoodVolume(shown) != ruleGoodVolume(v) {
			t.Errorf("%s: good is not %v", volumeName(v), ruleGoodVolume(v))
		}
		ops, _ := opsFor(v)
		volumes, blocks, texts := volumeAnswers(shown, ops)
		plain, plainBlocks, plainTexts := volumeAnswers(v, ops)
		wantAlikeVolumes(t, volumeName(v), volumes, plain)
		wantTexts(t, volumeName(v), slices.Concat(blocks[0], blocks[1], texts), true, slices.Concat(plainBlocks[0], plainBlocks[1], plainTexts), true)
		for _, answer := range volumes {
			wantNoRecordsBehind(t, answer)
		}
	}
}

func wantAlikeVolumes(t *testing.T, what string, got []impl.Volume, want []impl.Volume) {
	t.Helper()
	for i := range want {
		if volumeName(got[i]) != volumeName(want[i]) {
			t.Errorf("%s: got %s, want %s", what, volumeName(got[i]), volumeName(want[i]))
		}
	}
}

// wantNoRecordsBehind asks that behind the lists of an answer there is just memory that is empty: no record that a crash took away.
func wantNoRecordsBehind(t *testing.T, v impl.Volume) {
	t.Helper()
	for _, r := range v.Log[len(v.Log):cap(v.Log)] {
		if r != (impl.Record{}) {
			t.Errorf("%s: behind the log there is %s", volumeName(v), recordName(r))
		}
	}
	for _, block := range v.Base[len(v.Base):cap(v.Base)] {
		if block != "" {
			t.Errorf("%s: behind the base there is %q", volumeName(v), block)
		}
	}
}

// A volume whose list has what it lacks behind its length is as one that lacks it.
func TestVolumesThatAreCut(t *testing.T) {
	v := withLog(0, 3, marksFrom(1, 3)...)
	v.Base = v.Base[:15]
	wantRefused(t, v, impl.VolOp{Kind: impl.VoFlush})
	v = withLog(0, 3, marksFrom(1, 3)...)
	v.Log = v.Log[:2]
	wantRefused(t, v, impl.VolOp{Kind: impl.VoFold})
	v.Sure = 2
	wantDone(t, v, impl.VolOp{Kind: impl.VoFold}, withLog(2, 0))
	wantRefused(t, v, impl.VolOp{Kind: impl.VoCrash, Keep: 3})
	mark, ok := impl.MarkOf(v)
	wantNumber(t, "cut", mark, ok, 2, true)
	wantDone(t, v, impl.VolOp{Kind: impl.VoTrim, Long: 1}, withLog(0, 2, append(marksFrom(1, 2), impl.Record{Kind: 2, Long: 1})...))
	if got := v.Log[:3][2]; got != (impl.Record{Kind: 3, At: 3}) {
		t.Errorf("behind the log there is %s", recordName(got))
	}
}

// Promise 19: PlayVolume leaves its ops alone, also those behind their length, and what it answers is its own.
func TestPlayLeavesItsOpsAlone(t *testing.T) {
	for i := range 60 {
		n := &numbers{seed: uint64(600 + i)}
		v := freshVolume()
		var ops []impl.VolOp
		var bytes [][]byte
		for range 60 {
			op := someOp(n, v, 6)
			if next, ok := ruleDo(v, op); ok {
				v = next
			}
			b := []byte(op.Data)
			op.Data = overBytes(b)
			ops, bytes = append(ops, op), append(bytes, b)
		}
		many := n.below(61)
		list := held(ops, opName, func(op impl.VolOp) impl.VolOp { return impl.VolOp{Kind: op.Kind + 50} })
		ahead := list.show()
		volumes, did := rulePlay(ops[:many])
		wantPlayed(t, ops[:many], volumes[many], did)
		got, gotDid, _ := impl.PlayVolume(ops[:many])
		if list.show() != ahead {
			t.Errorf("ops were changed: was %s, is %s", ahead, list.show())
		}
		wantApart(t, textsIn(got), bytes...)
		wantNoRecordsBehind(t, got)
		lists := append(heldVolume(got), held(gotDid, strconv.FormatBool, func(is bool) bool { return !is }), list)
		wantNoneShared(t, "played", lists, 3)
	}
}

func TestVolumeFunctionsAnswerAlikeTwice(t *testing.T) {
	for _, v := range append(edgeVolumes(), someVolumes()...) {
		ops, _ := opsFor(v)
		volumes, blocks, texts := volumeAnswers(v, ops)
		again, blocksAgain, textsAgain := volumeAnswers(v, ops)
		wantAlikeVolumes(t, volumeName(v), again, volumes)
		wantTexts(t, volumeName(v), slices.Concat(blocksAgain[0], blocksAgain[1], textsAgain), true, slices.Concat(blocks[0], blocks[1], texts), true)
	}
}

// Promise 19: numbers that are far from all that can be, in every field at once.
func TestVolumeOfWrongNumbers(t *testing.T) {
	for _, a := range append([]int{0, 1}, wrongNumbers...) {
		for _, b := range append([]int{0, 1, math.MaxInt - 15}, wrongNumbers...) {
			for kind := 0; kind <= 7; kind++ {
				op := impl.VolOp{Kind: kind, At: a, Long: b, Data: "ab", Keep: b}
				wantDo(t, needlessVolume(), op)
				wantDo(t, freshVolume(), impl.VolOp{Kind: kind, At: a, Long: b})
				wantDo(t, freshVolume(), impl.VolOp{Kind: kind, Keep: a})
				wantRecordFor(t, op)
				v := needlessVolume()
				v.Folded, v.Sure = a, b
				if got, ok := impl.DoVolume(v, op); ok || volumeName(got) != volumeName(impl.Volume{}) {
					t.Errorf("folded %d, sure %d: got %s %v", a, b, volumeName(got), ok)
				}
			}
		}
	}
}
