package tests

import (
	"math"
	"slices"
	"strconv"
	"strings"
	"testing"

	"loop.example/g00541/impl"
)

// ruleRoll counts all bytes first, and takes the remainder at the end alone.
func ruleRoll(s string) int {
	a, b := 0, 0
	for i := range len(s) {
		a += int(s[i])
		b += int(s[i]) * (len(s) - i)
	}
	return 256*(b%251) + a%251
}

// ruleRollOn has so many times 251 more that nothing falls below 0.
func ruleRollOn(sum int, out byte, in byte, long int) (int, bool) {
	if sum < 0 || sum > 256*250+250 || sum%256 > 250 || long < 1 || long > 120 {
		return 0, false
	}
	a := (sum%256 + 251*1000 - int(out) + int(in)) % 251
	b := (sum/256 + 251*1000 - long*int(out) + a) % 251
	return 256*b + a, true
}

func wholeBlocks(old string) []string {
	var l []string
	for ; len(old) >= 4; old = old[4:] {
		l = append(l, old[:4])
	}
	return l
}

func ruleSums(old string) []int {
	var l []int
	for _, block := range wholeBlocks(old) {
		l = append(l, ruleRoll(block))
	}
	return l
}

// alikeAtFront tries all lengths from the longest one down.
func alikeAtFront(a string, b string) int {
	long := min(len(a), len(b))
	for a[:long] != b[:long] {
		long--
	}
	return long
}

// ruleDelta takes part by part off the front of s, by no sum.
func ruleDelta(old string, s string) []impl.Part {
	var l []impl.Part
	text := ""
	end := func() {
		if text != "" {
			l = append(l, impl.Part{Text: text})
		}
		text = ""
	}
	for s != "" {
		k := slices.IndexFunc(wholeBlocks(old), func(block string) bool { return strings.HasPrefix(s, block) })
		if k < 0 {
			text, s = text+s[:1], s[1:]
			continue
		}
		end()
		long := alikeAtFront(old[4*k:], s)
		l, s = append(l, impl.Part{From: 4 * k, Long: long}), s[long:]
	}
	end()
	return l
}

// ruleGoodPart adds by floats, that do not wrap round.
func ruleGoodPart(old string, p impl.Part) bool {
	copied := p.Text == "" && p.Long >= 1 && p.From >= 0 && float64(p.From)+float64(p.Long) <= float64(len(old))
	return copied || len(p.Text) >= 1 && len(p.Text) <= 120 && p.From == 0 && p.Long == 0
}

func ruleApply(old string, l []impl.Part) (string, bool) {
	if len(old) > 120 || len(l) > 60 {
		return "", false
	}
	s := ""
	for _, p := range l {
		if !ruleGoodPart(old, p) {
			return "", false
		}
		if p.Text != "" {
			s += p.Text
		} else {
			s += old[p.From:][:p.Long]
		}
	}
	if len(s) > 120 {
		return "", false
	}
	return s, true
}

func ruleCost(l []impl.Part) int {
	cost := 0
	for _, p := range l {
		cost += 3
		if p.Text != "" {
			cost += len(p.Text) - 2
		}
	}
	return cost
}

func partName(p impl.Part) string {
	return strconv.Itoa(p.From) + "+" + strconv.Itoa(p.Long) + strconv.Quote(p.Text)
}

func deltaName(old string, l []impl.Part) string {
	return strconv.Quote(old) + " by " + namesOf(l, partName)
}

func pairName(old string, s string) string {
	return strconv.Quote(old) + " to " + strconv.Quote(s)
}

func wantParts(t *testing.T, what string, got []impl.Part, ok bool, want []impl.Part, wantOk bool) {
	t.Helper()
	if !slices.Equal(got, want) || ok != wantOk {
		t.Errorf("%s: got %s %v, want %s %v", what, namesOf(got, partName), ok, namesOf(want, partName), wantOk)
	}
}

// wantDelta holds DeltaOf against the rule, and (promise 11) has the text come back from it.
func wantDelta(t *testing.T, old string, s string) []impl.Part {
	t.Helper()
	l, ok := impl.DeltaOf(old, s)
	wantParts(t, pairName(old, s), l, ok, ruleDelta(old, s), true)
	if !impl.GoodDelta(old, l) {
		t.Errorf("%s: the delta is not good", pairName(old, s))
	}
	back, ok := impl.ApplyDelta(old, l)
	wantText(t, pairName(old, s)+", back", back, ok, s, true)
	return l
}

func wantDeltaIs(t *testing.T, old string, s string, want ...impl.Part) {
	t.Helper()
	wantParts(t, pairName(old, s), wantDelta(t, old, s), true, want, true)
}

func wantNoDelta(t *testing.T, old string, s string) {
	t.Helper()
	l, ok := impl.DeltaOf(old, s)
	wantParts(t, pairName(old, s), l, ok, nil, false)
}

// wantApplied holds a delta, good or not, against the rule.
func wantApplied(t *testing.T, old string, l []impl.Part) bool {
	t.Helper()
	want, wantOk := ruleApply(old, l)
	if impl.GoodDelta(old, l) != wantOk {
		t.Errorf("%s: good is not %v", deltaName(old, l), wantOk)
	}
	s, ok := impl.ApplyDelta(old, l)
	wantText(t, deltaName(old, l), s, ok, want, wantOk)
	return ok
}

func wantGoodDelta(t *testing.T, old string, l ...impl.Part) {
	t.Helper()
	if !wantApplied(t, old, l) {
		t.Errorf("%s: is refused", deltaName(old, l))
	}
}

func wantBadDelta(t *testing.T, old string, l ...impl.Part) {
	t.Helper()
	if wantApplied(t, old, l) {
		t.Errorf("%s: is not refused", deltaName(old, l))
	}
	both, ok := impl.ThenDelta(old, l, nil)
	wantParts(t, deltaName(old, l)+", then nothing", both, ok, nil, false)
	// What the first one makes is the old text again.
	both, ok = impl.ThenDelta(old, whole(old), l)
	wantParts(t, deltaName(old, l)+", behind nothing", both, ok, nil, false)
}

// whole is a delta that makes the old text anew.
func whole(old string) []impl.Part {
	if old == "" {
		return nil
	}
	return []impl.Part{{Long: len(old)}}
}

// wantThen holds two deltas against what they make, one behind the other.
func wantThen(t *testing.T, old string, a []impl.Part, b []impl.Part) {
	t.Helper()
	what := deltaName(old, a) + " then " + namesOf(b, partName)
	both, ok := impl.ThenDelta(old, a, b)
	between, isGood := ruleApply(old, a)
	s, isGoodThen := ruleApply(between, b)
	if !isGood || !isGoodThen {
		wantParts(t, what, both, ok, nil, false)
		return
	}
	wantParts(t, what, both, ok, ruleDelta(old, s), true)
	want, _ := impl.DeltaOf(old, s)
	wantParts(t, what, both, ok, want, true)
	back, ok := impl.ApplyDelta(old, both)
	wantText(t, what, back, ok, s, true)
}

// textOver is of so few kinds of bytes that blocks come again and again.
func textOver(n *numbers, long int, kinds string) string {
	b := make([]byte, long)
	for i := range b {
		b[i] = kinds[n.below(len(kinds))]
	}
	return string(b)
}

func textsOver(most int, kinds string) []string {
	var l []string
	eachList(most, strings.Split(kinds, ""), func(of []string) {
		l = append(l, strings.Join(of, ""))
	})
	return l
}

// changedText has pieces of the old text, whole blocks and others, and new bytes ahead of, between and behind them.
func changedText(n *numbers, old string, most int) string {
	s := ""
	for range n.below(12) {
		switch n.below(4) {
		case 0:
			s += mixedText(n.below(6), uint32(n.below(1000000)))
		case 1:
			if blocks := wholeBlocks(old); len(blocks) > 0 {
				s += blocks[n.below(len(blocks))]
			}
		default:
			from := n.below(len(old) + 1)
			s += old[from:][:n.below(len(old)-from+1)]
		}
	}
	return s[:min(len(s), most)]
}

// mixedPairs shows old texts and others that have something of them.
func mixedPairs(each int, show func(old string, s string)) {
	for i := range each {
		n := &numbers{seed: uint64(11000 + i)}
		for _, old := range []string{mixedText(n.below(121), uint32(i)), textOver(n, n.below(121), "ab"), textOver(n, n.below(121), "\x00\xfb\xff"), textOver(n, 120, "abcdefgh"), strings.Repeat("a", n.below(121))} {
			show(old, changedText(n, old, 120))
			show(old, old)
			show(old, textOver(n, n.below(121), "ab"))
		}
	}
}

// somePart is nearly always good, if there is an old text.
func somePart(n *numbers, old string) impl.Part {
	if len(old) == 0 || n.below(3) == 0 {
		return impl.Part{Text: mixedText(1+n.below(5), uint32(n.below(1000000)))}
	}
	from := n.below(len(old))
	return impl.Part{From: from, Long: 1 + n.below(min(9, len(old)-from))}
}

func someParts(n *numbers, old string, many int) []impl.Part {
	var l []impl.Part
	for range many {
		l = append(l, somePart(n, old))
	}
	return l
}

// mixedDeltas shows deltas of which some come to too much.
func mixedDeltas(each int, show func(old string, l []impl.Part)) {
	for i := range each {
		n := &numbers{seed: uint64(12000 + i)}
		old := mixedText([]int{0, 1, 4, 30, 120, n.below(121)}[i%6], uint32(i))
		show(old, someParts(n, old, n.below(40)))
	}
}

var deltaLengths = []int{0, 1, 2, 3, 4, 5, 7, 8, 9, 11, 12, 13, 59, 60, 61, 116, 117, 119, 120}

var tooLong = []int{121, 122, 124, 128, 240, 256, 400, 100000}

func TestDeltaConstants(t *testing.T) {
	if impl.Block != 4 || impl.MaxDelta != 120 {
		t.Error(impl.Block, impl.MaxDelta)
	}
}

func TestRollsKnownByHand(t *testing.T) {
	for _, c := range []struct {
		text string
		sum  int
	}{
		{"", 0},
		{"\x00", 0},
		{"\x01", 257},
		{"a", 97*256 + 97},
		{"ab", 10691},
		{"bc", 11461},
		// a is 5 each time, b tells where it stands.
		{"\x05\x00\x00", 15*256 + 5},
		{"\x00\x05\x00", 10*256 + 5},
		{"\x00\x00\x05", 5*256 + 5},
		// 250 is the greatest that a and b can be; 251 is 0, 255 is 4.
		{"\xfa", 250*256 + 250},
		{"\xfb", 0},
		{"\xfc", 257},
		{"\xff", 4*256 + 4},
		{"\xfb\xfb\xfb\xfb", 0},
		{"\x01\xf9", 250},
		{"\x02\xf9", 2 * 256},
		{strings.Repeat("\x00", 120), 0},
		{strings.Repeat("\xff", 120), 175*256 + 229},
	} {
		sum, ok := impl.RollOf(c.text)
		wantNumber(t, strconv.Quote(c.text), sum, ok, c.sum, true)
	}
}

func TestRollOfIsTheRule(t *testing.T) {
	for long := range 121 {
		n := &numbers{seed: uint64(long)}
		for _, s := range []string{mixedText(long, uint32(long)), strings.Repeat("\xff", long), strings.Repeat("\x00", long), textOver(n, long, "\xfa\xfb\xfc"), textOver(n, long, "\x00\x01")} {
			sum, ok := impl.RollOf(s)
			wantNumber(t, strconv.Quote(s), sum, ok, ruleRoll(s), true)
		}
	}
	for a := range 256 {
		for b := range 256 {
			s := string([]byte{byte(a), byte(b)})
			sum, ok := impl.RollOf(s)
			wantNumber(t, strconv.Quote(s), sum, ok, ruleRoll(s), true)
		}
	}
	for _, long := range tooLong {
		sum, ok := impl.RollOf(strings.Repeat("a", long))
		wantNumber(t, strconv.Itoa(long)+" bytes", sum, ok, 0, false)
		sum, ok = impl.RollOf(strings.Repeat("\x00", long))
		wantNumber(t, strconv.Itoa(long)+" bytes 0", sum, ok, 0, false)
	}
}

// Promise 11: along whole texts, for every long, the sum is that of the bytes that it stands at.
func TestSumThatRollsIsThatOfItsBytes(t *testing.T) {
	for long := 1; long <= 120; long++ {
		n := &numbers{seed: uint64(long)}
		for _, s := range []string{mixedText(300, uint32(long)), strings.Repeat("\xff", 150), textOver(n, 200, "\x00\xff"), textOver(n, 200, "\xfa\xfb\xfc")} {
			sum, ok := impl.RollOf(s[:long])
			for at := 1; at+long <= len(s) && ok; at++ {
				sum, ok = impl.RollOn(sum, s[at-1], s[at+long-1], long)
				want, _ := impl.RollOf(s[at : at+long])
				wantNumber(t, strconv.Itoa(long)+" bytes, from "+strconv.Itoa(at), sum, ok, want, true)
				wantNumber(t, "the rule of them", want, true, ruleRoll(s[at:at+long]), true)
			}
			if !ok {
				t.Errorf("%d bytes: the sum does not roll", long)
			}
		}
	}
}

// Promise 11: whatever goes out and comes in.
func TestRollOnOfEveryTwoBytes(t *testing.T) {
	for _, long := range []int{1, 2, 4, 119, 120} {
		rest := mixedText(long-1, uint32(long))
		for out := range 256 {
			sum, _ := impl.RollOf(string([]byte{byte(out)}) + rest)
			for in := range 256 {
				want, _ := impl.RollOf(rest + string([]byte{byte(in)}))
				got, ok := impl.RollOn(sum, byte(out), byte(in), long)
				wantNumber(t, strconv.Itoa(long)+" bytes, "+strconv.Itoa(out)+" to "+strconv.Itoa(in), got, ok, want, true)
			}
		}
	}
}

func TestRollOnKnownByHand(t *testing.T) {
	for _, c := range []struct {
		sum  int
		out  byte
		in   byte
		long int
		want int
	}{
		{10691, 'a', 'c', 2, 11461},
		{0, 0, 0, 1, 0},
		{0, 0, 0, 120, 0},
		{0, 0, 255, 1, 4*256 + 4},
		{4*256 + 4, 255, 0, 1, 0},
		{4*256 + 4, 255, 255, 1, 4*256 + 4},
		{250*256 + 250, 0, 0, 7, 249*256 + 250},
		{250*256 + 250, 0, 1, 7, 250 * 256},
		{0, 1, 0, 1, 249*256 + 250},
		{0, 255, 0, 120, (251*200-120*255+247)%251*256 + 247},
		{250, 0, 0, 1, 250*256 + 250},
		{250 * 256, 0, 0, 1, 250 * 256},
	} {
		got, ok := impl.RollOn(c.sum, c.out, c.in, c.long)
		wantNumber(t, strconv.Itoa(c.sum)+" of "+strconv.Itoa(c.long), got, ok, c.want, true)
	}
}

// Any a and b in 0..250 make a sum, also where no bytes have it; none of 251 and more does.
func TestRollOnOfEverySum(t *testing.T) {
	for sum := -600; sum < 256*260; sum++ {
		for _, c := range []struct {
			out  byte
			in   byte
			long int
		}{{0, 0, 1}, {255, 255, 120}, {0, 255, 4}, {255, 0, 119}, {'a', 'b', 3}} {
			want, wantOk := ruleRollOn(sum, c.out, c.in, c.long)
			got, ok := impl.RollOn(sum, c.out, c.in, c.long)
			wantNumber(t, strconv.Itoa(sum)+" of "+strconv.Itoa(c.long), got, ok, want, wantOk)
		}
	}
	for _, sum := range append([]int{251, 255, 256 + 251, 250*256 + 251, 251 * 256, 251*256 + 250, 65535, 65536, 1 << 32, 1<<32 | 5, 1<<62 | 1, math.MaxInt - 250, math.MinInt + 250, -256, -65536 + 5}, wrongNumbers...) {
		got, ok := impl.RollOn(sum, 0, 0, 1)
		wantNumber(t, "the sum "+strconv.Itoa(sum), got, ok, 0, false)
	}
}

func TestRollOnOfEveryLong(t *testing.T) {
	for long := -5; long <= 260; long++ {
		for _, sum := range []int{0, 257, 10691, 250*256 + 250} {
			for _, out := range []byte{0, 1, 128, 255} {
				want, wantOk := ruleRollOn(sum, out, 7, long)
				got, ok := impl.RollOn(sum, out, 7, long)
				wantNumber(t, strconv.Itoa(sum)+" of "+strconv.Itoa(long), got, ok, want, wantOk)
				if wantOk != (long >= 1 && long <= 120) {
					t.Fatalf("the rule is wrong at %d", long)
				}
			}
		}
	}
	for _, long := range append([]int{0, 121, 1 << 32, 1<<32 + 1, 1 << 56}, wrongNumbers...) {
		got, ok := impl.RollOn(0, 0, 0, long)
		wantNumber(t, "long of "+strconv.Itoa(long), got, ok, 0, false)
	}
}

// Promise 11: RollOf each whole block, and of no other bytes.
func TestBlockSums(t *testing.T) {
	for long := range 121 {
		for seed := range 5 {
			old := mixedText(long, uint32(1000*long+seed))
			sums, ok := impl.BlockSums(old)
			wantNumbers(t, strconv.Quote(old), sums, ok, ruleSums(old), true)
			if len(sums) != long/4 {
				t.Fatalf("%d sums of %d bytes", len(sums), long)
			}
			for k, sum := range sums {
				want, ok := impl.RollOf(old[4*k : 4*k+4])
				wantNumber(t, "block "+strconv.Itoa(k), sum, true, want, ok)
			}
			cut, _ := impl.BlockSums(old[:long-long%4])
			wantNumbers(t, "without the last bytes", sums, ok, cut, true)
		}
	}
	sums, ok := impl.BlockSums("abcdefghi")
	abcd, efgh := (97*4+98*3+99*2+100)%251*256+394%251, (101*4+102*3+103*2+104)%251*256+410%251
	wantNumbers(t, "abcdefghi", sums, ok, []int{abcd, efgh}, true)
	for _, long := range tooLong {
		sums, ok := impl.BlockSums(strings.Repeat("a", long))
		wantNumbers(t, strconv.Itoa(long)+" bytes", sums, ok, nil, false)
	}
}

func TestDeltasKnownByHand(t *testing.T) {
	copied := func(from int, long int) impl.Part { return impl.Part{From: from, Long: long} }
	text := func(s string) impl.Part { return impl.Part{Text: s} }
	for _, c := range []struct {
		old  string
		s    string
		want []impl.Part
	}{
		{"", "", nil},
		{"abcdefgh", "", nil},
		{"", "a", []impl.Part{text("a")}},
		{"", "abcd", []impl.Part{text("abcd")}},
		{"abcd", "abcd", []impl.Part{copied(0, 4)}},
		{"abcdefgh", "xabcd", []impl.Part{text("x"), copied(0, 4)}},
		// One byte too few for a block, on either side.
		{"abc", "abc", []impl.Part{text("abc")}},
		{"abc", "abcabc", []impl.Part{text("abcabc")}},
		{"abcd", "abc", []impl.Part{text("abc")}},
		{"abcdefgh", "bcd", []impl.Part{text("bcd")}},
		// Blocks at multiples of 4 alone.
		{"abcdefgh", "bcde", []impl.Part{text("bcde")}},
		{"xabcdxxx", "abcd", []impl.Part{text("abcd")}},
		{"abcdefgh", "defg", []impl.Part{text("defg")}},
		{"abcdefgh", "efgh", []impl.Part{copied(4, 4)}},
		{"abcdefgh", "bcdefgh", []impl.Part{text("bcd"), copied(4, 4)}},
		// The last bytes are no block, but a part may go on over them.
		{"abcdef", "cdef", []impl.Part{text("cdef")}},
		{"abcdefg", "efg", []impl.Part{text("efg")}},
		{"abcdefg", "defgabc", []impl.Part{text("defgabc")}},
		{"abcdef", "abcdef", []impl.Part{copied(0, 6)}},
		{"abcde", "abcde", []impl.Part{copied(0, 5)}},
		// Up to the old text's end, and up to that of s.
		{"abcdef", "abcdefgh", []impl.Part{copied(0, 6), text("gh")}},
		{"abcdefgh", "efghabcd", []impl.Part{copied(4, 4), copied(0, 4)}},
		{"abcdefghij", "abcdefg", []impl.Part{copied(0, 7)}},
		{"abcdefghij", "abcdefx", []impl.Part{copied(0, 6), text("x")}},
		{"abcdefghij", "abcdxefgh", []impl.Part{copied(0, 4), text("x"), copied(4, 4)}},
		// Ahead of, between and behind parts.
		{"abcdefgh", "1abcd22efgh333", []impl.Part{text("1"), copied(0, 4), text("22"), copied(4, 4), text("333")}},
		{"abcdefgh", "abcabcd", []impl.Part{text("abc"), copied(0, 4)}},
		{"abcdefgh", "abcdabcdabcd", []impl.Part{copied(0, 4), copied(0, 4), copied(0, 4)}},
		// The first of two blocks that are alike, also where the other one goes on longer.
		{"abcdabcd", "abcd", []impl.Part{copied(0, 4)}},
		{"abcdxxxxabcd", "xabcd", []impl.Part{text("x"), copied(0, 4)}},
		{"abcdabcdefgh", "abcdefgh", []impl.Part{copied(0, 4), copied(8, 4)}},
		{"abcdabcdef", "abcdef", []impl.Part{copied(0, 4), text("ef")}},
		{"abcdabcdabcd", "abcdabcd", []impl.Part{copied(0, 8)}},
		{"aaaaaaaa", "aaaaaa", []impl.Part{copied(0, 6)}},
		{"aaaaa", "aaaaaaaaaaaa", []impl.Part{copied(0, 5), copied(0, 5), text("aa")}},
		{"aaaa", "aaaabaaa", []impl.Part{copied(0, 4), text("baaa")}},
		// The front of s counts: a part that began earlier takes what a later one would have had.
		{"abcdbcde", "abcde", []impl.Part{copied(0, 4), text("e")}},
		{"bcdeabcd", "abcde", []impl.Part{copied(4, 4), text("e")}},
		{"efghabcde", "abcdefgh", []impl.Part{copied(4, 5), text("fgh")}},
		// Nothing of the old one.
		{"abcdefgh", "stuvwxyz", []impl.Part{text("stuvwxyz")}},
		{"abcdefgh", "ABCDEFGH", []impl.Part{text("ABCDEFGH")}},
		{"abcd", "dcba", []impl.Part{text("dcba")}},
		{"\x00\x00\x00\x00", "\x00\x00\x00\x00\x00", []impl.Part{copied(0, 4), text("\x00")}},
	} {
		wantDeltaIs(t, c.old, c.s, c.want...)
	}
}

// Unlike blocks may have one sum: only the bytes tell whether it is a block.
func TestBlocksOfOneSum(t *testing.T) {
	alike := []string{"bbbb", "c`cb", "bc`c", "adab", "bada", "\x00\x00\x00\x00", "\xfb\x00\x00\x00", "\x00\x00\x00\xfb", "\xfb\xfb\xfb\xfb", "\x01\x00\x00\x00", "\xfc\x00\xfb\x00"}
	pairs := 0
	for _, a := range alike {
		for _, b := range alike {
			sumA, _ := impl.RollOf(a)
			sumB, _ := impl.RollOf(b)
			if a == b || sumA != sumB {
				continue
			}
			pairs++
			wantDeltaIs(t, a, b, impl.Part{Text: b})
			wantDeltaIs(t, a+b, b, impl.Part{From: 4, Long: 4})
			wantDeltaIs(t, a+b+a+b, "x"+b, impl.Part{Text: "x"}, impl.Part{From: 4, Long: 4})
			wantDeltaIs(t, a+a+a, b+"??", impl.Part{Text: b + "??"})
		}
	}
	if pairs < 20 {
		t.Errorf("only %d pairs of blocks have one sum", pairs)
	}
}

func TestDeltasOfEveryLength(t *testing.T) {
	for _, long := range deltaLengths {
		old := mixedText(long, uint32(long))
		for _, sLong := range deltaLengths {
			wantDelta(t, old, mixedText(sLong, uint32(long)))
			wantDelta(t, old, mixedText(sLong, uint32(long+sLong+500)))
			wantDelta(t, old, old[:min(long, sLong)])
			wantDelta(t, strings.Repeat("a", long), strings.Repeat("a", sLong))
		}
		for _, more := range tooLong {
			wantNoDelta(t, old, mixedText(more, uint32(long)))
			wantNoDelta(t, mixedText(more, uint32(long)), old)
		}
	}
	for _, more := range tooLong {
		wantNoDelta(t, mixedText(more, 5), mixedText(more, 5))
	}
}

// A text that is the old one is one part, or, where it has no block, one text.
func TestDeltaOfTheOldTextItself(t *testing.T) {
	for long := range 121 {
		for _, old := range []string{mixedText(long, uint32(long)), strings.Repeat("a", long), strings.Repeat("abcd", 30)[:long]} {
			switch {
			case long == 0:
				wantDeltaIs(t, old, old)
			case long < 4:
				wantDeltaIs(t, old, old, impl.Part{Text: old})
			default:
				wantDeltaIs(t, old, old, impl.Part{Long: long})
			}
		}
	}
}

func TestDeltaOfNothingAlike(t *testing.T) {
	for long := 1; long <= 120; long++ {
		for _, oldLong := range deltaLengths {
			n := &numbers{seed: uint64(long)}
			s := textOver(n, long, "\x00abc\xfb")
			wantDeltaIs(t, textOver(n, oldLong, "xyz\xff"), s, impl.Part{Text: s})
		}
	}
}

// Promise 11: blocks of an old text at every place of another one, with what goes on behind.
func TestBlocksAtEveryPlace(t *testing.T) {
	old := mixedText(30, 77)
	for from := range 31 {
		for long := range 31 - from {
			for _, ahead := range []string{"", "-", "+-+", strings.Repeat("-", 120-long)} {
				wantDelta(t, old, ahead+old[from:from+long])
				wantDelta(t, old, (ahead + old[from:from+long] + "#")[:min(120, len(ahead)+long+1)])
			}
		}
	}
}

// As many parts as there can be are fewer than a delta may have.
func TestDeltasOfMostParts(t *testing.T) {
	for _, c := range []struct {
		s    string
		many int
	}{{strings.Repeat("xabcd", 24), 48}, {strings.Repeat("abcdx", 24), 48}, {strings.Repeat("abcd", 30), 30}} {
		if l := wantDelta(t, "abcd", c.s); len(l) != c.many {
			t.Errorf("%q: %d parts", c.s, len(l))
		}
	}
}

// Promise 11: all short texts of two kinds of bytes.
func TestEveryShortDelta(t *testing.T) {
	olds, texts := textsOver(9, "ab"), textsOver(7, "ab")
	for _, old := range olds {
		for _, s := range texts {
			wantDelta(t, old, s)
		}
	}
}

// Promise 11: long texts, of few kinds of bytes and of all.
func TestTextsComeBackFromTheirDeltas(t *testing.T) {
	copied, news := 0, 0
	mixedPairs(300, func(old string, s string) {
		for _, p := range wantDelta(t, old, s) {
			if p.Text == "" {
				copied++
			} else {
				news++
			}
		}
	})
	if copied < 1000 || news < 1000 {
		t.Errorf("only %d parts and %d texts", copied, news)
	}
}

// A delta costs no more than one text of all would: a part costs less than its bytes, and pays for a text ahead of it.
func TestCostOfDeltas(t *testing.T) {
	mixedPairs(60, func(old string, s string) {
		l, _ := impl.DeltaOf(old, s)
		cost, ok := impl.CostOf(l)
		wantNumber(t, pairName(old, s), cost, ok, ruleCost(l), true)
		if len(s) > 0 && cost > len(s)+1 {
			t.Errorf("%s: costs %d, the text is %d bytes", pairName(old, s), cost, len(s))
		}
	})
}

func TestCostsKnownByHand(t *testing.T) {
	long := strings.Repeat("x", 120)
	for _, c := range []struct {
		l    []impl.Part
		cost int
	}{
		{nil, 0},
		{[]impl.Part{}, 0},
		{[]impl.Part{{Long: 4}}, 3},
		{[]impl.Part{{From: 100, Long: 20}}, 3},
		{[]impl.Part{{Text: "x"}}, 2},
		{[]impl.Part{{Text: "xyz"}, {Long: 4}}, 7},
		{[]impl.Part{{Text: long}}, 121},
		// Parts that are not good cost as others do.
		{[]impl.Part{{}}, 3},
		{[]impl.Part{{From: -1, Long: -5}}, 3},
		{[]impl.Part{{From: math.MaxInt, Long: math.MaxInt}, {From: math.MinInt, Long: math.MinInt}}, 6},
		{[]impl.Part{{From: 3, Long: 4, Text: "x"}}, 2},
		{[]impl.Part{{From: math.MinInt, Long: math.MaxInt, Text: "xy"}}, 3},
		{[]impl.Part{{Text: long + "x"}}, 122},
		{[]impl.Part{{Text: long}, {Text: long}}, 242},
		{[]impl.Part{{Text: strings.Repeat("x", 100000)}}, 100001},
		{make([]impl.Part, 60), 180},
		{slices.Repeat([]impl.Part{{Text: "\x00"}}, 60), 120},
		{slices.Repeat([]impl.Part{{Text: long + "x"}}, 60), 60 * 122},
	} {
		cost, ok := impl.CostOf(c.l)
		wantNumber(t, namesOf(c.l, partName), cost, ok, c.cost, true)
	}
	for many := range 130 {
		for _, p := range []impl.Part{{}, {Long: 1}, {Text: "ab"}, {From: -1, Text: "ab"}} {
			l := slices.Repeat([]impl.Part{p}, many)
			cost, ok := impl.CostOf(l)
			if many <= 60 {
				wantNumber(t, strconv.Itoa(many)+" parts", cost, ok, 3*many, true)
			} else {
				wantNumber(t, strconv.Itoa(many)+" parts", cost, ok, 0, false)
			}
		}
	}
	cost, ok := impl.CostOf(make([]impl.Part, 100000))
	wantNumber(t, "very many parts", cost, ok, 0, false)
}

func TestAppliesKnownByHand(t *testing.T) {
	for _, c := range []struct {
		old  string
		l    []impl.Part
		want string
	}{
		{"", nil, ""},
		{"abcdefgh", nil, ""},
		{"", []impl.Part{{Text: "x"}}, "x"},
		{"abcdefgh", []impl.Part{{Text: "x"}, {Long: 4}}, "xabcd"},
		{"abcdefgh", []impl.Part{{Long: 8}}, "abcdefgh"},
		{"abcdefgh", []impl.Part{{From: 7, Long: 1}, {From: 0, Long: 1}}, "ha"},
		// A part is of any bytes: no block, and in any order, again and again.
		{"abcdefgh", []impl.Part{{From: 3, Long: 2}, {From: 2, Long: 3}, {From: 3, Long: 2}}, "decdede"},
		// Texts side by side.
		{"ab", []impl.Part{{Text: "1"}, {Text: "22"}, {From: 1, Long: 1}, {Text: "3"}}, "122b3"},
		{"a", slices.Repeat([]impl.Part{{Long: 1}}, 60), strings.Repeat("a", 60)},
		{"ab", slices.Repeat([]impl.Part{{Long: 2}}, 60), strings.Repeat("ab", 60)},
		{"\x00\xff", []impl.Part{{From: 1, Long: 1}, {Text: "\x00"}}, "\xff\x00"},
	} {
		wantGoodDelta(t, c.old, c.l...)
		s, ok := impl.ApplyDelta(c.old, c.l)
		wantText(t, deltaName(c.old, c.l), s, ok, c.want, true)
	}
}

// Every From and Long, to just as many bytes as are there, and beyond.
func TestPartsOfEveryFromAndLong(t *testing.T) {
	for _, long := range []int{0, 1, 2, 4, 7, 119, 120} {
		old := mixedText(long, uint32(long))
		for from := -3; from <= long+3; from++ {
			for many := -3; many <= long+3; many++ {
				p := impl.Part{From: from, Long: many}
				is := from >= 0 && many >= 1 && from+many <= long
				if wantApplied(t, old, []impl.Part{p}) != is {
					t.Fatalf("%s: good is not %v", deltaName(old, []impl.Part{p}), is)
				}
			}
		}
		wantBadDelta(t, old, impl.Part{From: long, Long: 1})
		wantBadDelta(t, old, impl.Part{From: long})
		wantBadDelta(t, old, impl.Part{})
	}
}

// Promise 19: numbers that are negative or very great, the sum of which wraps round, too.
func TestPartsOfWrongNumbers(t *testing.T) {
	numbers := append([]int{1 << 62, 1<<62 + 1, -1 << 62, 1 << 32, 1<<32 + 1, math.MaxInt - 3, math.MaxInt - 119}, wrongNumbers...)
	for _, old := range []string{"", "a", "abcdefgh", mixedText(120, 3)} {
		for _, x := range numbers {
			for _, y := range append([]int{0, 1, 4, 8, 120}, numbers...) {
				wantBadDelta(t, old, impl.Part{From: x, Long: y})
				wantBadDelta(t, old, impl.Part{From: y, Long: x})
				wantBadDelta(t, old, impl.Part{From: x, Long: y, Text: "a"})
				wantBadDelta(t, old, impl.Part{Text: "a"}, impl.Part{From: y, Long: x, Text: "a"})
			}
		}
		// Many of them come to a sum that wraps round.
		for _, x := range numbers {
			wantBadDelta(t, old, slices.Repeat([]impl.Part{{Long: x}}, 4)...)
			wantBadDelta(t, old, impl.Part{Long: x}, impl.Part{Long: -x})
		}
	}
}

func TestPartsWithTextAndMore(t *testing.T) {
	for _, old := range []string{"", "abcdefgh", mixedText(120, 9)} {
		for from := -2; from <= 4; from++ {
			for long := -2; long <= 4; long++ {
				p := impl.Part{From: from, Long: long, Text: "xy"}
				is := from == 0 && long == 0
				if wantApplied(t, old, []impl.Part{{Text: "1"}, p}) != is {
					t.Errorf("%s: good is not %v", partName(p), is)
				}
			}
		}
	}
	wantBadDelta(t, "abcdefgh", impl.Part{Long: 4, Text: "abcd"})
	wantBadDelta(t, "abcdefgh", impl.Part{From: 4, Text: "efgh"})
}

func TestTextsOfEveryLongInDeltas(t *testing.T) {
	for _, old := range []string{"", "abcdefgh", mixedText(120, 1)} {
		for long := 1; long <= 120; long++ {
			wantGoodDelta(t, old, impl.Part{Text: mixedText(long, uint32(long))})
		}
		for _, long := range tooLong {
			wantBadDelta(t, old, impl.Part{Text: mixedText(long, uint32(long))})
		}
	}
}

// Parts that come to MaxDelta bytes, and to one more.
func TestDeltasThatComeToTheLimit(t *testing.T) {
	old := mixedText(120, 5)
	for first := 1; first < 120; first++ {
		for _, a := range []impl.Part{{Long: first}, {From: 120 - first, Long: first}, {Text: old[:first]}} {
			wantGoodDelta(t, old, a, impl.Part{Long: 120 - first})
			wantGoodDelta(t, old, a, impl.Part{Text: old[first:]})
			wantBadDelta(t, old, a, impl.Part{Long: 121 - first})
			wantBadDelta(t, old, a, impl.Part{Text: old[:121-first]})
			wantBadDelta(t, old, a, impl.Part{Text: old[first:]}, impl.Part{Long: 1})
			wantBadDelta(t, old, a, impl.Part{Text: old[first:]}, impl.Part{Text: "x"})
		}
	}
	wantGoodDelta(t, old, slices.Repeat([]impl.Part{{Text: "xy"}}, 60)...)
	wantBadDelta(t, old, append(slices.Repeat([]impl.Part{{Text: "xy"}}, 59), impl.Part{Text: "xyz"})...)
	wantBadDelta(t, old, append(slices.Repeat([]impl.Part{{Long: 2}}, 59), impl.Part{Long: 3})...)
	wantBadDelta(t, old, slices.Repeat([]impl.Part{{Long: 120}}, 60)...)
	wantBadDelta(t, old, slices.Repeat([]impl.Part{{Text: old}}, 2)...)
}

func TestDeltasOfEveryManyParts(t *testing.T) {
	for many := range 125 {
		for _, p := range []impl.Part{{Long: 1}, {From: 7, Long: 1}, {Text: "x"}} {
			l := slices.Repeat([]impl.Part{p}, many)
			if impl.GoodDelta("abcdefgh", l) != (many <= 60) {
				t.Errorf("%d parts: good is not %v", many, many <= 60)
			}
			wantApplied(t, "abcdefgh", l)
		}
	}
	wantBadDelta(t, "abcdefgh", slices.Repeat([]impl.Part{{Long: 1}}, 61)...)
	wantBadDelta(t, "abcdefgh", slices.Repeat([]impl.Part{{Text: "x"}}, 61)...)
	wantBadDelta(t, "abcdefgh", make([]impl.Part, 100000)...)
	// Wherever the one stands that is not good.
	for at := range 60 {
		for _, bad := range []impl.Part{{}, {From: 8, Long: 1}, {Long: 9}, {From: 1, Text: "x"}, {From: -1, Long: 1}} {
			l := slices.Repeat([]impl.Part{{Long: 1}}, 60)
			l[at] = bad
			wantBadDelta(t, "abcdefgh", l...)
		}
	}
}

func TestDeltasOfTooLongOldTexts(t *testing.T) {
	for _, long := range tooLong {
		old := mixedText(long, 4)
		for _, l := range [][]impl.Part{nil, {{Text: "x"}}, {{Long: 1}}, {{From: 120, Long: 1}}, {{Long: 120}}} {
			wantApplied(t, old, l)
			if impl.GoodDelta(old, l) {
				t.Errorf("of %d bytes %s is good", long, namesOf(l, partName))
			}
			both, ok := impl.ThenDelta(old, l, nil)
			wantParts(t, "too long", both, ok, nil, false)
		}
	}
}

func TestMixedDeltas(t *testing.T) {
	good := 0
	mixedDeltas(2000, func(old string, l []impl.Part) {
		if wantApplied(t, old, l) {
			good++
		}
		cost, ok := impl.CostOf(l)
		wantNumber(t, deltaName(old, l), cost, ok, ruleCost(l), true)
	})
	if good < 500 || good > 1900 {
		t.Errorf("%d of 2000 are good", good)
	}
}

func TestThenDeltasKnownByHand(t *testing.T) {
	for _, c := range []struct {
		old  string
		a    []impl.Part
		b    []impl.Part
		want []impl.Part
		ok   bool
	}{
		{"", nil, nil, nil, true},
		{"abcdefgh", nil, nil, nil, true},
		{"abcdefgh", []impl.Part{{Text: "x"}, {Long: 4}}, []impl.Part{{From: 1, Long: 4}}, []impl.Part{{Long: 4}}, true},
		{"abcdefgh", []impl.Part{{Long: 8}}, []impl.Part{{Long: 8}}, []impl.Part{{Long: 8}}, true},
		// It is found anew: what was told by many parts may be one.
		{"abcdefgh", []impl.Part{{Long: 2}, {From: 2, Long: 3}, {Text: "fgh"}}, []impl.Part{{Long: 5}, {From: 5, Long: 1}, {Text: "gh"}}, []impl.Part{{Long: 8}}, true},
		{"abcdefgh", []impl.Part{{From: 1, Long: 4}}, []impl.Part{{Long: 4}}, []impl.Part{{Text: "bcde"}}, true},
		// What is made of nothing, and nothing that is made of something.
		{"abcdefgh", nil, []impl.Part{{Text: "abcd"}}, []impl.Part{{Long: 4}}, true},
		{"abcdefgh", []impl.Part{{Long: 8}}, nil, nil, true},
		{"", []impl.Part{{Text: "abcd"}}, []impl.Part{{Long: 4}, {Long: 4}}, []impl.Part{{Text: "abcdabcd"}}, true},
		// b is of what a makes, not of the old text.
		{"abcdefgh", []impl.Part{{Long: 4}}, []impl.Part{{From: 4, Long: 4}}, nil, false},
		{"abcdefgh", []impl.Part{{Long: 4}}, []impl.Part{{Long: 5}}, nil, false},
		{"abcdefgh", nil, []impl.Part{{Long: 1}}, nil, false},
		{"ab", []impl.Part{{Text: "cdef"}}, []impl.Part{{From: 2, Long: 2}}, []impl.Part{{Text: "ef"}}, true},
		// Either one is not good.
		{"ab", []impl.Part{{Long: 3}}, []impl.Part{{Text: "x"}}, nil, false},
		{"ab", []impl.Part{{Long: 2}}, []impl.Part{{Long: 3}}, nil, false},
		{"ab", []impl.Part{{}}, nil, nil, false},
		{"ab", nil, []impl.Part{{}}, nil, false},
		{"ab", []impl.Part{{From: 1, Text: "x"}}, nil, nil, false},
		{"ab", slices.Repeat([]impl.Part{{Long: 1}}, 61), nil, nil, false},
		{"ab", nil, slices.Repeat([]impl.Part{{Text: "x"}}, 61), nil, false},
		// Each comes to at most MaxDelta, or it is not good.
		{"ab", slices.Repeat([]impl.Part{{Long: 2}}, 60), []impl.Part{{Long: 120}}, []impl.Part{{Text: strings.Repeat("ab", 60)}}, true},
		{"ab", slices.Repeat([]impl.Part{{Long: 2}}, 60), []impl.Part{{Long: 120}, {Long: 1}}, nil, false},
		{"ab", slices.Repeat([]impl.Part{{Text: "abc"}}, 41), []impl.Part{{Long: 1}}, nil, false},
	} {
		both, ok := impl.ThenDelta(c.old, c.a, c.b)
		wantParts(t, deltaName(c.old, c.a)+" then "+namesOf(c.b, partName), both, ok, c.want, c.ok)
		wantThen(t, c.old, c.a, c.b)
	}
}

// Promise 11: of deltas that DeltaOf makes, from text to text.
func TestThenDeltaIsTheDeltaOfBoth(t *testing.T) {
	mixedPairs(100, func(old string, between string) {
		n := &numbers{seed: uint64(len(old) + 200*len(between))}
		for _, s := range []string{changedText(n, between, 120), changedText(n, old, 120), old, between, ""} {
			a, b := ruleDelta(old, between), ruleDelta(between, s)
			wantThen(t, old, a, b)
			want, _ := impl.DeltaOf(old, s)
			both, ok := impl.ThenDelta(old, a, b)
			wantParts(t, pairName(old, between)+" to "+strconv.Quote(s), both, ok, want, true)
		}
	})
}

// Of any deltas, some of which are not good.
func TestThenDeltaOfMixedDeltas(t *testing.T) {
	good := 0
	mixedDeltas(1500, func(old string, a []impl.Part) {
		n := &numbers{seed: uint64(len(old) + 200*len(a))}
		a = a[:min(len(a), 12)]
		between, _ := ruleApply(old, a)
		for _, b := range [][]impl.Part{someParts(n, between, n.below(20)), someParts(n, old, 3), {{From: 1, Long: n.below(100)}}} {
			wantThen(t, old, a, b)
			if _, ok := impl.ThenDelta(old, a, b); ok {
				good++
			}
		}
	})
	if good < 500 || good > 4000 {
		t.Errorf("%d of 4500 are good", good)
	}
}

func heldParts(l []impl.Part) heldList {
	return held(l, partName, func(p impl.Part) impl.Part {
		return impl.Part{From: p.From + 1000, Long: p.Long + 1000, Text: p.Text + "+"}
	})
}

func textsOfParts(l []impl.Part) []string {
	var texts []string
	for _, p := range l {
		texts = append(texts, p.Text)
	}
	return texts
}

// shownParts lie over bytes that can be looked at, and have more behind their length.
func shownParts(l []impl.Part) ([]impl.Part, [][]byte) {
	texts, bytes := overTexts(textsOfParts(l))
	shown := slices.Clone(l)
	for i, text := range texts {
		shown[i].Text = text
	}
	return longer(shown, impl.Part{Text: "behind"}, impl.Part{From: -7, Long: 300}, impl.Part{Long: 1}), bytes
}

// deltaAnswer is all that the functions answer of a text, another one, and two deltas.
type deltaAnswer struct {
	parts [][]impl.Part
	sums  []int
	told  []int
	texts []string
	oks   []bool
}

func deltaAnswers(old string, s string, a []impl.Part, b []impl.Part) deltaAnswer {
	delta, ok1 := impl.DeltaOf(old, s)
	both, ok2 := impl.ThenDelta(old, a, b)
	again, ok3 := impl.ThenDelta(old, a, nil)
	sums, ok4 := impl.BlockSums(old)
	made, ok5 := impl.ApplyDelta(old, a)
	then, ok6 := impl.ApplyDelta(made, b)
	roll, ok7 := impl.RollOf(s)
	next, ok8 := impl.RollOn(roll, 7, 200, len(s))
	cost, ok9 := impl.CostOf(a)
	good := impl.GoodDelta(old, a)
	return deltaAnswer{parts: [][]impl.Part{delta, both, again}, sums: sums, told: []int{roll, next, cost}, texts: []string{made, then}, oks: []bool{good, ok1, ok2, ok3, ok4, ok5, ok6, ok7, ok8, ok9}}
}

func (a deltaAnswer) allTexts() []string {
	texts := slices.Clone(a.texts)
	for _, l := range a.parts {
		texts = append(texts, textsOfParts(l)...)
	}
	return texts
}

func (a deltaAnswer) name() string {
	name := ""
	for _, l := range a.parts {
		name += namesOf(l, partName)
	}
	return name + namesOf(a.sums, strconv.Itoa) + namesOf(a.told, strconv.Itoa) + namesOf(a.texts, strconv.Quote) + namesOf(a.oks, strconv.FormatBool)
}

// badDeltas are refused for all kinds of reasons.
func badDeltas() [][]impl.Part {
	return [][]impl.Part{{{}}, {{Text: "ab"}, {From: 1, Text: "cd"}}, {{From: 100, Long: 100}}, {{Text: "ab"}, {Long: -1}}, make([]impl.Part, 61), slices.Repeat([]impl.Part{{Text: "abc"}}, 61), {{Text: strings.Repeat("x", 121)}}, {{Text: strings.Repeat("x", 100)}, {Text: strings.Repeat("y", 100)}}}
}

// memoryDeltas shows texts and deltas, good or not.
func memoryDeltas(show func(old string, s string, a []impl.Part, b []impl.Part)) {
	mixedPairs(20, func(old string, s string) {
		show(old, s, ruleDelta(old, s), ruleDelta(s, old))
	})
	mixedDeltas(60, func(old string, l []impl.Part) {
		l = l[:min(len(l), 10)]
		s, _ := ruleApply(old, l)
		show(old, s, l, whole(s))
	})
	long := mixedText(120, 6)
	for _, l := range append(badDeltas(), []impl.Part{{Text: long}}, []impl.Part{{Long: 120}}, nil) {
		show(long, long[:7], l, l)
		show(long, long[:7], whole(long), l)
		show(long+"x", long, l, nil)
		show(long, long+"x", nil, l)
		show("", long, l, []impl.Part{{Text: long}})
	}
}

// Promise 19: nothing that is handed in is changed, nor what lies behind it, and no answer lies in it.
func TestDeltaFunctionsLeaveArgumentsAlone(t *testing.T) {
	memoryDeltas(func(old string, s string, a []impl.Part, b []impl.Part) {
		what := pairName(old, s) + " " + namesOf(a, partName) + " " + namesOf(b, partName)
		texts, bytes := overTexts([]string{old, s})
		shownA, bytesA := shownParts(a)
		shownB, bytesB := shownParts(b)
		lists := []heldList{heldParts(shownA), heldParts(shownB)}
		ahead := append(shownLists(lists), old, s)
		got := deltaAnswers(texts[0], texts[1], shownA, shownB)
		if behind := append(shownLists(lists), texts...); !slices.Equal(ahead, behind) {
			t.Errorf("%s: was %q, is %q", what, ahead, behind)
		}
		wantApart(t, got.allTexts(), slices.Concat(bytes, bytesA, bytesB)...)
		answers := []heldList{heldNumbers(got.sums)}
		for _, l := range got.parts {
			answers = append(answers, heldParts(l))
		}
		wantNoneShared(t, what, append(answers, lists...), len(answers))
	})
}

// Promise 19: no two texts of the answers lie in the same bytes. (Go itself has each text of one byte just once.)
func TestTextsOfDeltasAreApart(t *testing.T) {
	memoryDeltas(func(old string, s string, a []impl.Part, b []impl.Part) {
		all := deltaAnswers(old, s, a, b).allTexts()
		for i := range all {
			for _, other := range all[:i] {
				if len(other) > 1 && len(all[i]) > 1 && shares(all[i], bytesUnder(other)) {
					t.Fatalf("%s: two texts, %q and %q, lie in the same bytes", pairName(old, s), other, all[i])
				}
			}
		}
	})
}

// Promise 19: what lies behind a list's length is neither read nor handed out.
func TestPartsBehindTheLengthAreNotRead(t *testing.T) {
	memoryDeltas(func(old string, s string, a []impl.Part, b []impl.Part) {
		shownA, _ := shownParts(a)
		shownB, _ := shownParts(b)
		got, want := deltaAnswers(old, s, shownA, shownB), deltaAnswers(old, s, slices.Clip(a), slices.Clip(b))
		if got.name() != want.name() {
			t.Errorf("%s: got %s, want %s", pairName(old, s), got.name(), want.name())
		}
		for _, l := range got.parts {
			if slices.ContainsFunc(l[len(l):cap(l)], func(p impl.Part) bool { return p != impl.Part{} }) {
				t.Errorf("%s: behind its parts there is %s", pairName(old, s), namesOf(l[:cap(l)], partName))
			}
		}
		if l := got.sums; slices.ContainsFunc(l[len(l):cap(l)], func(x int) bool { return x != 0 }) {
			t.Errorf("%s: behind its sums there is %v", pairName(old, s), l[:cap(l)])
		}
	})
	// Cut to its limit a list is good, whatever lies behind, and so is a text.
	cut := append(slices.Repeat([]impl.Part{{Long: 1}}, 60), impl.Part{Long: 1}, impl.Part{From: -1})[:60]
	wantGoodDelta(t, "abcd", cut...)
	cost, ok := impl.CostOf(cut)
	wantNumber(t, "sixty parts, cut", cost, ok, 180, true)
	long := mixedText(300, 8)
	wantDelta(t, long[:120], long[4:124])
	wantDeltaIs(t, long[:6], long[4:12], impl.Part{Text: long[4:12]})
	wantDeltaIs(t, long[:6], long[:10], impl.Part{Long: 6}, impl.Part{Text: long[6:10]})
}

func TestDeltaFunctionsAnswerAlikeTwice(t *testing.T) {
	memoryDeltas(func(old string, s string, a []impl.Part, b []impl.Part) {
		first, again := deltaAnswers(old, s, a, b), deltaAnswers(old, s, a, b)
		if first.name() != again.name() {
			t.Errorf("%s: first %s, then %s", pairName(old, s), first.name(), again.name())
		}
	})
}
