package tests

import (
	"math"
	"slices"
	"strconv"
	"strings"
	"testing"

	"loop.example/g00541/impl"
)

const zeroBlock = "\x00\x00"

// ruleGoodRecord is what the document says of a good record, told kind by kind.
func ruleGoodRecord(r impl.Record) bool {
	within := r.At >= 0 && r.At < 16 && r.Long > 0 && r.Long < 5 && r.At+r.Long < 17
	return r.Kind == 1 && within && len(r.Data) == r.Long*2 ||
		r.Kind == 2 && within && r.Data == "" ||
		r.Kind == 3 && r.At >= 0 && r.At < 201 && r.Long == 0 && r.Data == ""
}

// ruleSummed is a length byte, the bytes, and their sum.
func ruleSummed(body string) string {
	sum := ruleSum(0, body+zeroBlock)
	return string([]byte{byte(len(body) + 2)}) + body + string([]byte{byte(sum / 256), byte(sum % 256)})
}

func ruleRecordText(r impl.Record) string {
	return ruleSummed(string([]byte{byte(r.Kind), byte(r.At), byte(r.Long)}) + r.Data)
}

func ruleSegmentText(l []impl.Record) string {
	s := ""
	for _, r := range l {
		s += ruleRecordText(r)
	}
	return s
}

// recordShapes are all good records, but for what is written: of a write Data is the beginning of data.
func recordShapes(data string) []impl.Record {
	var l []impl.Record
	for long := 1; long <= 4; long++ {
		for at := 0; at+long <= 16; at++ {
			l = append(l, impl.Record{Kind: 2, At: at, Long: long})
			if len(data) >= 2*long {
				l = append(l, impl.Record{Kind: 1, At: at, Long: long, Data: data[:2*long]})
			}
		}
	}
	for mark := 0; mark <= 200; mark++ {
		l = append(l, impl.Record{Kind: 3, At: mark})
	}
	return l
}

// ruleReadAt tries every good record there is on the text from a place on.
func ruleReadAt(s string, at int) (impl.Record, int, bool) {
	if at < 0 || at > len(s) || len(s) > 300 {
		return impl.Record{}, 0, false
	}
	data := ""
	if at+4 <= len(s) {
		data = s[at+4:]
	}
	for _, r := range recordShapes(data) {
		if text := ruleRecordText(r); strings.HasPrefix(s[at:], text) {
			return r, at + len(text), true
		}
	}
	return impl.Record{}, 0, false
}

func ruleReadSegment(s string) ([]impl.Record, int, bool) {
	if len(s) > 300 {
		return nil, 0, false
	}
	var l []impl.Record
	at := 0
	for {
		r, behind, ok := ruleReadAt(s, at)
		if !ok {
			return l, at, true
		}
		l, at = append(l, r), behind
	}
}

// ruleFold is each block as the last record that writes it makes it.
func ruleFold(l []impl.Record) []string {
	blocks := make([]string, 16)
	for b := range blocks {
		blocks[b] = zeroBlock
		for _, r := range slices.Backward(l) {
			if r.Kind == 3 || b < r.At || b >= r.At+r.Long {
				continue
			}
			if r.Kind == 1 {
				blocks[b] = r.Data[2*(b-r.At) : 2*(b-r.At)+2]
			}
			break
		}
	}
	return blocks
}

func recordName(r impl.Record) string {
	return strconv.Itoa(r.Kind) + " " + strconv.Itoa(r.At) + " " + strconv.Itoa(r.Long) + " " + strconv.Quote(r.Data)
}

func recordNames(l []impl.Record) string {
	var names []string
	for _, r := range l {
		names = append(names, recordName(r))
	}
	return strings.Join(names, ", ")
}

func wantRecord(t *testing.T, what string, s string, at int, want impl.Record, behind int, wantOk bool) {
	t.Helper()
	got, end, ok := impl.ReadRecord(s, at)
	if got != want || end != behind || ok != wantOk {
		t.Errorf("%s: at %d of %x: got %s %d %v, want %s %d %v", what, at, s, recordName(got), end, ok, recordName(want), behind, wantOk)
	}
}

func wantNoRecord(t *testing.T, what string, s string, at int) {
	t.Helper()
	wantRecord(t, what, s, at, impl.Record{}, 0, false)
}

func wantSegment(t *testing.T, what string, s string, want []impl.Record, place int, wantOk bool) {
	t.Helper()
	got, end, ok := impl.ReadSegment(s)
	if !slices.Equal(got, want) || end != place || ok != wantOk {
		t.Errorf("%s: of %x: got %s %d %v, want %s %d %v", what, s, recordNames(got), end, ok, recordNames(want), place, wantOk)
	}
}

// someRecord is a good record of any kind.
func someRecord(n *numbers) impl.Record {
	kind := 1 + n.below(3)
	if kind == 3 {
		return impl.Record{Kind: 3, At: n.below(201)}
	}
	long := 1 + n.below(4)
	r := impl.Record{Kind: kind, Long: long, At: n.below(17 - long)}
	if kind == 1 {
		r.Data = mixedText(2*long, uint32(n.below(100000)))
	}
	return r
}

// someSegment is good records whose texts have at most limit bytes.
func someSegment(n *numbers, limit int) []impl.Record {
	var l []impl.Record
	for long := 0; ; {
		r := someRecord(n)
		long += 6 + len(r.Data)
		if long > limit {
			return l
		}
		l = append(l, r)
	}
}

// someSegments are lists of all lengths; among them the empty one, and ones of each kind alone.
func someSegments() [][]impl.Record {
	l := [][]impl.Record{nil, {}}
	for _, r := range edgeRecords() {
		l = append(l, []impl.Record{r}, []impl.Record{r, r})
	}
	for i := range 40 {
		l = append(l, someSegment(&numbers{seed: uint64(i)}, 300*(i+1)/40))
	}
	return l
}

// edgeRecords are good ones that lie at what the chapter names.
func edgeRecords() []impl.Record {
	l := []impl.Record{{Kind: 3}, {Kind: 3, At: 1}, {Kind: 3, At: 199}, {Kind: 3, At: 200}}
	for long := 1; long <= 4; long++ {
		for _, at := range []int{0, 1, 15 - long, 16 - long} {
			l = append(l, impl.Record{Kind: 2, At: at, Long: long},
				impl.Record{Kind: 1, At: at, Long: long, Data: mixedText(2*long, uint32(at))},
				impl.Record{Kind: 1, At: at, Long: long, Data: strings.Repeat("\x00", 2*long)},
				impl.Record{Kind: 1, At: at, Long: long, Data: strings.Repeat("\xff", 2*long)})
		}
	}
	return l
}

// badRecords are not good, each for one reason.
func badRecords() []impl.Record {
	l := []impl.Record{
		{}, {Kind: 1}, {Kind: 2}, {Kind: 4}, {Kind: 4, At: 1, Long: 1}, {Kind: 255}, {Kind: 257, At: 1, Long: 1, Data: "ab"}, {Kind: 259},
		{Kind: 0, At: 1, Long: 1, Data: "ab"}, {Kind: 0, At: 1, Long: 1},
		{Kind: 1, At: 0, Long: 0}, {Kind: 1, At: 0, Long: 0, Data: "ab"}, {Kind: 2, At: 0, Long: 0},
		{Kind: 1, At: 0, Long: 5, Data: "0123456789"}, {Kind: 2, At: 0, Long: 5}, {Kind: 1, At: 0, Long: 16, Data: mixedText(32, 1)}, {Kind: 2, At: 0, Long: 16},
		{Kind: 1, At: -1, Long: 1, Data: "ab"}, {Kind: 2, At: -1, Long: 1}, {Kind: 1, At: -1, Long: 2, Data: "abcd"}, {Kind: 2, At: -1, Long: 2},
		{Kind: 1, At: 16, Long: 1, Data: "ab"}, {Kind: 2, At: 16, Long: 1}, {Kind: 1, At: 15, Long: 2, Data: "abcd"}, {Kind: 2, At: 15, Long: 2},
		{Kind: 1, At: 14, Long: 3, Data: "abcdef"}, {Kind: 2, At: 14, Long: 3}, {Kind: 1, At: 13, Long: 4, Data: "abcdefgh"}, {Kind: 2, At: 13, Long: 4},
		{Kind: 1, At: 256, Long: 1, Data: "ab"}, {Kind: 2, At: 256, Long: 1}, {Kind: 1, At: 0, Long: 257, Data: "ab"}, {Kind: 2, At: 0, Long: 257},
		{Kind: 1, At: 1, Long: 1}, {Kind: 1, At: 1, Long: 1, Data: "a"}, {Kind: 1, At: 1, Long: 1, Data: "abc"}, {Kind: 1, At: 1, Long: 1, Data: "abcd"},
		{Kind: 1, At: 1, Long: 4, Data: "abcdefg"}, {Kind: 1, At: 1, Long: 4, Data: "abcdefghi"}, {Kind: 1, At: 1, Long: 4, Data: mixedText(600, 1)},
		{Kind: 2, At: 1, Long: 1, Data: "ab"}, {Kind: 2, At: 1, Long: 1, Data: "\x00"}, {Kind: 2, At: 1, Long: 1, Data: zeroBlock},
		{Kind: 3, At: 1, Data: "a"}, {Kind: 3, At: 1, Data: zeroBlock}, {Kind: 3, At: 1, Long: 1}, {Kind: 3, At: 0, Long: 1}, {Kind: 3, At: 1, Long: 1, Data: "ab"},
		{Kind: 3, At: 1, Long: 4}, {Kind: 3, At: 1, Long: 256}, {Kind: 3, At: 201}, {Kind: 3, At: 255}, {Kind: 3, At: 256}, {Kind: 3, At: -1}, {Kind: 3, At: 1, Long: -1},
	}
	for _, wrong := range wrongNumbers {
		l = append(l, impl.Record{Kind: wrong, At: 1, Long: 1, Data: "ab"}, impl.Record{Kind: wrong, At: 1}, impl.Record{Kind: wrong, At: wrong, Long: wrong})
		for kind := 1; kind <= 3; kind++ {
			l = append(l, impl.Record{Kind: kind, At: wrong}, impl.Record{Kind: kind, At: wrong, Long: 1}, impl.Record{Kind: kind, At: wrong, Long: 1, Data: "ab"},
				impl.Record{Kind: kind, At: 1, Long: wrong}, impl.Record{Kind: kind, At: 1, Long: wrong, Data: "ab"}, impl.Record{Kind: kind, At: wrong, Long: -wrong},
				impl.Record{Kind: kind, At: wrong, Long: 4, Data: "abcdefgh"}, impl.Record{Kind: kind, At: wrong, Long: 1 - wrong, Data: "ab"})
		}
	}
	return l
}

// badTexts are texts at whose front no record stands, many of them with a sum that is right.
func badTexts() []string {
	l := []string{"\x00", "\x00\x00", "\x00\x00\x00", "\x01", "\x01\x00", "\x02\x00\x00", "\x02\x00\x00\x00", "\xff", mixedText(30, 5), strings.Repeat("\x00", 50), strings.Repeat("\xff", 50),
		ruleSummed(""), ruleSummed("\x01"), ruleSummed("\x03\x00"), ruleSummed("\x02\x01"), ruleSummed("abc"), ruleSummed(strings.Repeat("\x00", 3))}
	for _, r := range badRecords() {
		if r.Kind >= 0 && r.Kind < 256 && r.At >= 0 && r.At < 256 && r.Long >= 0 && r.Long < 256 && len(r.Data) < 33 {
			l = append(l, ruleRecordText(r))
		}
	}
	for _, r := range edgeRecords() {
		text := ruleRecordText(r)
		last := len(text) - 1
		l = append(l, text[:last], text[1:], text[:last]+string([]byte{text[last] ^ 1}), text[:last-1]+string([]byte{text[last-1] ^ 128, text[last]}),
			string([]byte{text[0] + 1})+text[1:], string([]byte{text[0] - 1})+text[1:], text[:1]+string([]byte{text[1] ^ 7})+text[2:])
	}
	return l
}

func TestRecordConstants(t *testing.T) {
	if impl.MaxBlocks != 16 || impl.MaxSegment != 300 || impl.RcWrite != 1 || impl.RcTrim != 2 || impl.RcMark != 3 {
		t.Error(impl.MaxBlocks, impl.MaxSegment, impl.RcWrite, impl.RcTrim, impl.RcMark)
	}
}

func TestGoodRecord(t *testing.T) {
	for _, r := range append(edgeRecords(), recordShapes(mixedText(8, 3))...) {
		if !impl.GoodRecord(r) || !ruleGoodRecord(r) {
			t.Errorf("%s is good", recordName(r))
		}
	}
	for _, r := range badRecords() {
		if impl.GoodRecord(r) || ruleGoodRecord(r) {
			t.Errorf("%s is not good", recordName(r))
		}
	}
}

func TestGoodRecordOfEveryShape(t *testing.T) {
	text := mixedText(20, 9)
	for kind := -1; kind <= 5; kind++ {
		for at := -2; at <= 260; at++ {
			for long := -1; long <= 6; long++ {
				for data := 0; data <= 14; data++ {
					r := impl.Record{Kind: kind, At: at, Long: long, Data: text[:data]}
					if impl.GoodRecord(r) != ruleGoodRecord(r) {
						t.Fatalf("%s: good is %v", recordName(r), impl.GoodRecord(r))
					}
				}
			}
		}
	}
}

func TestRecordTextIsTheRule(t *testing.T) {
	for _, r := range append(edgeRecords(), recordShapes(mixedText(8, 4))...) {
		s, ok := impl.RecordText(r)
		wantText(t, "RecordText of "+recordName(r), s, ok, ruleRecordText(r), true)
		wantRecord(t, "back", s, 0, r, len(s), true)
	}
}

// The sums of these were worked out apart from the program.
func TestRecordTextsKnownByHand(t *testing.T) {
	for _, c := range []struct {
		r    impl.Record
		text string
	}{
		{impl.Record{Kind: 1, At: 1, Long: 1, Data: "ab"}, "\x07\x01\x01\x01ab\x9f\x2a"},
		{impl.Record{Kind: 2, At: 1, Long: 2}, "\x05\x02\x01\x02\x7d\x13"},
		{impl.Record{Kind: 3}, "\x05\x03\x00\x00\x59\x50"},
		{impl.Record{Kind: 3, At: 200}, "\x05\x03\xc8\x00\xc6\xad"},
		{impl.Record{Kind: 1, At: 12, Long: 4, Data: "\x00\x00\xff\xffabcd"}, "\x0d\x01\x0c\x04\x00\x00\xff\xffabcd\x05\xfe"},
	} {
		s, ok := impl.RecordText(c.r)
		wantText(t, "RecordText of "+recordName(c.r), s, ok, c.text, true)
	}
}

func TestRecordTextWrong(t *testing.T) {
	for _, r := range badRecords() {
		s, ok := impl.RecordText(r)
		wantText(t, "RecordText of "+recordName(r), s, ok, "", false)
	}
}

// Promise 3: the records come back from their segment, from the front and each one at its place.
func TestRecordsComeBack(t *testing.T) {
	for _, l := range someSegments() {
		s, ok := impl.SegmentText(l)
		wantText(t, "SegmentText of "+recordNames(l), s, ok, ruleSegmentText(l), true)
		wantSegment(t, "back", s, l, len(s), true)
		at := 0
		for _, r := range l {
			behind := at + len(ruleRecordText(r))
			wantRecord(t, "at its place", s, at, r, behind, true)
			at = behind
		}
		wantNoRecord(t, "at the end", s, at)
	}
}

// Promise 3: of every beginning there are the first records, up to the one that is cut.
func TestTornSegmentsHaveTheFirstRecords(t *testing.T) {
	for _, l := range someSegments() {
		s, _ := impl.SegmentText(l)
		whole, place := 0, 0
		for keep := 0; keep <= len(s); keep++ {
			for whole < len(l) && place+len(ruleRecordText(l[whole])) <= keep {
				place += len(ruleRecordText(l[whole]))
				whole++
			}
			wantSegment(t, "a beginning", s[:keep], l[:whole], place, true)
			got, ok := impl.TornSegment(s, keep)
			wantText(t, "torn at "+strconv.Itoa(keep), got, ok, s[:place], true)
			wantNoRecord(t, "the one that is cut", s[:keep], place)
		}
		if whole != len(l) || place != len(s) {
			t.Errorf("%d of %d records at %d of %d", whole, len(l), place, len(s))
		}
	}
}

// Promise 3: bytes behind that are no record add nothing, even where good records follow them.
func TestBytesBehindThatAreNoRecord(t *testing.T) {
	n := &numbers{seed: 4}
	for _, bad := range badTexts() {
		if _, _, ok := ruleReadAt(bad, 0); ok {
			t.Fatalf("%x is a record", bad)
		}
		for _, limit := range []int{0, 6, 14, 60, 200} {
			l := someSegment(n, limit)
			s := ruleSegmentText(l)
			for _, behind := range []string{"", ruleRecordText(impl.Record{Kind: 3, At: 7})} {
				if _, _, ok := ruleReadAt(bad+behind, 0); ok {
					continue // the end of one that was cut stands there again
				}
				all := s + bad + behind
				wantSegment(t, "bytes behind", all, l, len(s), true)
				wantNoRecord(t, "bytes behind", all, len(s))
				got, ok := impl.TornSegment(all, len(all))
				wantText(t, "bytes behind", got, ok, s, true)
			}
		}
	}
}

// TornSegment of a torn one is the same, and of any bytes it is the text of what ReadSegment has.
func TestTornSegmentIsTheTextOfWhatIsRead(t *testing.T) {
	n := &numbers{seed: 12}
	for range 20 {
		s := ruleSegmentText(someSegment(n, n.below(200))) + mixedText(n.below(40), uint32(n.below(9999))) + ruleSegmentText(someSegment(n, n.below(60)))
		for keep := 0; keep <= len(s); keep++ {
			got, ok := impl.TornSegment(s, keep)
			l, place, _ := ruleReadSegment(s[:keep])
			wantText(t, "torn at "+strconv.Itoa(keep), got, ok, s[:place], true)
			wantSegment(t, "what is left", got, l, len(got), true)
			again, ok := impl.TornSegment(got, len(got))
			wantText(t, "torn again", again, ok, got, true)
		}
	}
}

// A record of which one bit is turned is none (its length byte may be the turned one).
func TestEveryTurnedBitIsSeen(t *testing.T) {
	tail := ruleRecordText(impl.Record{Kind: 3, At: 9}) + mixedText(20, 6)
	for _, r := range edgeRecords() {
		s := ruleRecordText(r)
		for bit := range 8 * len(s) {
			b := []byte(s + tail)
			b[bit/8] ^= 1 << (bit % 8)
			want, behind, ok := ruleReadAt(string(b), 0)
			wantRecord(t, "bit "+strconv.Itoa(bit)+" turned", string(b), 0, want, behind, ok)
			wantNoRecord(t, "bit "+strconv.Itoa(bit)+" turned", string(b[:len(s)]), 0)
		}
	}
}

func TestEveryByteOfARecordChanged(t *testing.T) {
	for _, r := range []impl.Record{{Kind: 1, At: 3, Long: 1, Data: "ab"}, {Kind: 2, At: 3, Long: 2}, {Kind: 3, At: 130}} {
		s := ruleRecordText(r)
		for i := range len(s) {
			for by := 1; by < 256; by++ {
				b := []byte(s)
				b[i] ^= byte(by)
				wantNoRecord(t, "byte "+strconv.Itoa(i)+" changed", string(b), 0)
				wantSegment(t, "byte "+strconv.Itoa(i)+" changed", string(b), nil, 0, true)
			}
		}
	}
}

func TestRecordsCutAtEachByte(t *testing.T) {
	for _, r := range edgeRecords() {
		s := ruleRecordText(r)
		for long := range len(s) {
			wantNoRecord(t, "cut", s[:long], 0)
			wantNoRecord(t, "cut at the front", s[len(s)-long:], 0)
		}
	}
}

func TestReadRecordAtEveryPlace(t *testing.T) {
	n := &numbers{seed: 7}
	for range 12 {
		s := ruleSegmentText(someSegment(n, 120)) + mixedText(n.below(20), uint32(n.below(999)))
		for at := -3; at <= len(s)+3; at++ {
			r, behind, ok := ruleReadAt(s, at)
			wantRecord(t, "every place", s, at, r, behind, ok)
		}
	}
}

func TestReadRecordWrong(t *testing.T) {
	s := ruleSegmentText([]impl.Record{{Kind: 3, At: 1}, {Kind: 2, At: 1, Long: 1}})
	for _, at := range append([]int{len(s), len(s) + 1, 300, 301, 1000}, wrongNumbers...) {
		wantNoRecord(t, "no such place", s, at)
		wantNoRecord(t, "no such place", "", at)
	}
	wantNoRecord(t, "nothing", "", 0)
}

// fullSegments are lists whose text has just MaxSegment bytes.
func fullSegments() [][]impl.Record {
	marks := slices.Repeat([]impl.Record{{Kind: 3, At: 200}}, 50)
	writes := slices.Repeat([]impl.Record{{Kind: 1, At: 2, Long: 4, Data: "abcdefgh"}}, 21)
	return [][]impl.Record{marks, append(writes, impl.Record{Kind: 2, At: 0, Long: 4}), slices.Repeat([]impl.Record{{Kind: 1, At: 15, Long: 1, Data: "xy"}, {Kind: 2, At: 5, Long: 1}, {Kind: 3}}, 15)}
}

func TestSegmentsOfMaxSegment(t *testing.T) {
	for _, l := range fullSegments() {
		s, ok := impl.SegmentText(l)
		want := ruleSegmentText(l)
		if len(want) != 300 {
			t.Fatal(len(want))
		}
		wantText(t, "300 bytes", s, ok, want, true)
		wantSegment(t, "300 bytes", want, l, 300, true)
		wantRecord(t, "300 bytes", want, 0, l[0], len(ruleRecordText(l[0])), true)
		got, ok := impl.TornSegment(want, 300)
		wantText(t, "300 bytes", got, ok, want, true)
		wantBeyondSegment(t, l, want)
	}
	for _, long := range []int{300, 301, 302, 5000} {
		wantSegment(t, strconv.Itoa(long)+" bytes 0", strings.Repeat("\x00", long), nil, 0, long == 300)
	}
}

// wantBeyondSegment holds that one record, or one byte, more than MaxSegment is refused.
func wantBeyondSegment(t *testing.T, l []impl.Record, text string) {
	t.Helper()
	for _, r := range []impl.Record{{Kind: 3}, {Kind: 2, At: 1, Long: 1}, {Kind: 1, Long: 1, Data: "ab"}} {
		s, ok := impl.SegmentText(append(slices.Clone(l), r))
		wantText(t, "one record more", s, ok, "", false)
	}
	s, ok := impl.SegmentText(slices.Repeat(l, 40))
	wantText(t, "many records more", s, ok, "", false)
	for _, more := range []string{"\x00", "\x05", text} {
		wantSegment(t, "beyond 300 bytes", text+more, nil, 0, false)
		for _, at := range []int{0, 300, 301} {
			wantNoRecord(t, "beyond 300 bytes", text+more, at)
		}
		for _, keep := range []int{0, 6, 300, 301, 600} {
			got, ok := impl.TornSegment(text+more, keep)
			wantText(t, "beyond 300 bytes", got, ok, "", false)
		}
	}
}

func TestEmptySegment(t *testing.T) {
	for _, l := range [][]impl.Record{nil, {}} {
		s, ok := impl.SegmentText(l)
		wantText(t, "no records", s, ok, "", true)
	}
	wantSegment(t, "no bytes", "", nil, 0, true)
	got, ok := impl.TornSegment("", 0)
	wantText(t, "no bytes", got, ok, "", true)
}

func TestSegmentTextWrong(t *testing.T) {
	for _, bad := range badRecords() {
		good := []impl.Record{{Kind: 3, At: 1}, {Kind: 2, At: 1, Long: 1}, {Kind: 1, At: 1, Long: 1, Data: "ab"}}
		for i := 0; i <= len(good); i++ {
			l := slices.Insert(slices.Clone(good), i, bad)
			s, ok := impl.SegmentText(l)
			wantText(t, "SegmentText of "+recordNames(l), s, ok, "", false)
			if blocks, ok := impl.FoldRecords(l); len(blocks) != 0 || ok {
				t.Errorf("FoldRecords of %s: %q %v", recordNames(l), blocks, ok)
			}
		}
	}
}

func TestTornSegmentWrong(t *testing.T) {
	s := ruleSegmentText([]impl.Record{{Kind: 3, At: 1}, {Kind: 2, At: 1, Long: 1}})
	for _, keep := range append([]int{len(s) + 1, len(s) + 2, 300, 301}, wrongNumbers...) {
		got, ok := impl.TornSegment(s, keep)
		wantText(t, "a keep of "+strconv.Itoa(keep), got, ok, "", false)
		got, ok = impl.TornSegment("", keep)
		wantText(t, "a keep of "+strconv.Itoa(keep)+" of nothing", got, ok, "", false)
	}
}

func TestBlocksOf(t *testing.T) {
	for _, r := range append(edgeRecords(), recordShapes(mixedText(8, 4))...) {
		var want []int
		for b := r.At; r.Kind != 3 && b < r.At+r.Long; b++ {
			want = append(want, b)
		}
		if got, ok := impl.BlocksOf(r); !ok || !slices.Equal(got, want) {
			t.Errorf("BlocksOf %s: %v %v", recordName(r), got, ok)
		}
	}
	for _, r := range badRecords() {
		if got, ok := impl.BlocksOf(r); ok || len(got) != 0 {
			t.Errorf("BlocksOf %s: %v %v", recordName(r), got, ok)
		}
	}
}

func wantFold(t *testing.T, l []impl.Record, want []string, wantOk bool) {
	t.Helper()
	if got, ok := impl.FoldRecords(l); ok != wantOk || !slices.Equal(got, want) {
		t.Errorf("FoldRecords of %s: got %q %v, want %q %v", recordNames(l), got, ok, want, wantOk)
	}
}

// Promise 3: each block is as the last record made it.
func TestFoldRecords(t *testing.T) {
	for _, l := range someSegments() {
		wantFold(t, l, ruleFold(l), true)
	}
	n := &numbers{seed: 31}
	for many := range 61 {
		var l []impl.Record
		for range many {
			l = append(l, someRecord(n))
		}
		wantFold(t, l, ruleFold(l), true)
	}
}

func TestFoldRecordsKnownByHand(t *testing.T) {
	l := []impl.Record{{Kind: 1, At: 12, Long: 4, Data: "aabbccdd"}, {Kind: 3, At: 5}, {Kind: 2, At: 13, Long: 2}, {Kind: 1, At: 14, Long: 1, Data: "xy"}, {Kind: 1, At: 0, Long: 1, Data: "zz"}}
	want := slices.Repeat([]string{zeroBlock}, 16)
	want[12], want[14], want[15], want[0] = "aa", "xy", "dd", "zz"
	wantFold(t, l, want, true)
	wantFold(t, append(l, impl.Record{Kind: 3, At: 6}), want, true)
	wantFold(t, nil, slices.Repeat([]string{zeroBlock}, 16), true)
	wantFold(t, []impl.Record{}, slices.Repeat([]string{zeroBlock}, 16), true)
}

func TestFoldOfSixtyRecords(t *testing.T) {
	for _, r := range []impl.Record{{Kind: 3, At: 1}, {Kind: 2, At: 1, Long: 3}, {Kind: 1, At: 1, Long: 1, Data: "ab"}} {
		l := slices.Repeat([]impl.Record{r}, 60)
		wantFold(t, l[:59], ruleFold(l[:59]), true)
		wantFold(t, l, ruleFold(l), true)
		wantFold(t, append(l, r), nil, false)
		wantFold(t, slices.Repeat(l, 50), nil, false)
		l[59].Kind = 4
		wantFold(t, l, nil, false)
		wantFold(t, l[:59], ruleFold(l[:59]), true)
	}
}

// What a segment's records make is what the records make that come back from it.
func TestFoldOfWhatIsRead(t *testing.T) {
	for _, l := range someSegments() {
		s, _ := impl.SegmentText(l)
		back, _, _ := impl.ReadSegment(s)
		wantFold(t, back, ruleFold(l), true)
	}
}

// shownRecords are records whose texts lie over bytes that can be looked at, with some behind their list's length.
func shownRecords(l []impl.Record) ([]impl.Record, [][]byte, []impl.Record) {
	all := make([]impl.Record, 0, len(l)+2)
	var bytes [][]byte
	for _, r := range append(slices.Clone(l), impl.Record{Kind: 1, At: -7, Long: 99, Data: "behind"}, impl.Record{Kind: 1, Long: 1, Data: "it"}) {
		b := []byte(r.Data)
		bytes = append(bytes, b)
		r.Data = overBytes(b)
		all = append(all, r)
	}
	return all[:len(l)], bytes, all
}

func TestRecordFunctionsLeaveArgumentsAlone(t *testing.T) {
	lists := append(someSegments(), fullSegments()...)
	for _, bad := range badRecords() {
		lists = append(lists, []impl.Record{{Kind: 1, At: 1, Long: 2, Data: "abcd"}, bad})
	}
	for _, from := range lists {
		l, bytes, all := shownRecords(from)
		was := recordNames(all)
		s, _ := impl.SegmentText(l)
		texts := []string{s}
		blocks, _ := impl.FoldRecords(l)
		texts = append(texts, blocks...)
		for i := range blocks {
			blocks[i] = "written over"
		}
		for _, r := range l {
			impl.GoodRecord(r)
			impl.BlocksOf(r)
			text, _ := impl.RecordText(r)
			texts = append(texts, text)
		}
		if recordNames(all) != was {
			t.Errorf("an argument was changed: %s, now %s", was, recordNames(all))
		}
		wantApart(t, texts, bytes...)
	}
}

// wantApart holds that no text that was answered lies in the memory of an argument.
func wantApart(t *testing.T, answers []string, args ...[]byte) {
	t.Helper()
	for _, answer := range answers {
		for _, arg := range args {
			if shares(answer, arg) {
				t.Errorf("the answer %q shares memory with the argument %q", answer, arg)
			}
		}
	}
}

func TestReadingLeavesItsTextAlone(t *testing.T) {
	for _, from := range append(someSegments(), fullSegments()...) {
		text := ruleSegmentText(from)
		b := []byte(text + "no record, but more of the text")
		s := overBytes(b)[:len(text)]
		l, _, _ := impl.ReadSegment(s)
		var texts []string
		for i, r := range l {
			texts = append(texts, r.Data)
			l[i] = impl.Record{Data: "written over"}
		}
		at := 0
		for range from {
			r, behind, _ := impl.ReadRecord(s, at)
			texts = append(texts, r.Data)
			at = behind
		}
		for _, keep := range []int{0, len(s) / 2, len(s)} {
			torn, _ := impl.TornSegment(s, keep)
			texts = append(texts, torn)
		}
		if string(b) != text+"no record, but more of the text" {
			t.Errorf("the text was changed: %x, now %x", text, b)
		}
		wantApart(t, texts, b)
	}
}

// What lies behind a list's length is not read: a list that is cut is as one that ends there.
func TestRecordsBehindTheLengthAreNotRead(t *testing.T) {
	l := []impl.Record{{Kind: 1, At: 1, Long: 1, Data: "ab"}, {Kind: 2, At: 1, Long: 1}, {Kind: 9, At: math.MinInt}}
	wantFold(t, l[:1], ruleFold(l[:1]), true)
	wantFold(t, l[:2], ruleFold(l[:2]), true)
	wantFold(t, l, nil, false)
	s, ok := impl.SegmentText(l[:2])
	wantText(t, "the first two", s, ok, ruleSegmentText(l[:2]), true)
}

func TestRecordFunctionsAnswerAlikeTwice(t *testing.T) {
	for _, l := range someSegments() {
		s, _ := impl.SegmentText(l)
		again, ok := impl.SegmentText(l)
		wantText(t, "again", again, ok, s, true)
		first, place, _ := impl.ReadSegment(s)
		wantSegment(t, "again", s, first, place, true)
		blocks, _ := impl.FoldRecords(l)
		wantFold(t, l, blocks, true)
	}
}
