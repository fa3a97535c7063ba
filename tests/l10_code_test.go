package tests

import (
	"math"
	"math/bits"
	"slices"
	"strconv"
	"strings"
	"testing"

	"loop.example/g00541/impl"
)

// spanOf has every mask that some of these make, unlike together; taking none makes 0.
func spanOf(masks []int) map[int]bool {
	span := map[int]bool{0: true}
	for _, mask := range masks {
		for _, x := range slices.Collect(keysOf(span)) {
			span[x^mask] = true
		}
	}
	return span
}

func keysOf(span map[int]bool) func(yield func(int) bool) {
	return func(yield func(int) bool) {
		for x := 0; x < 1024; x++ {
			if span[x] && !yield(x) {
				return
			}
		}
	}
}

// ruleRank: of so many masks as the rank tells 2 to the rank are made.
func ruleRank(masks []int) int {
	return bits.Len(uint(len(spanOf(masks)))) - 1
}

// ruleReduced finds what is told among all that the masks make: a highest bit counts if one of these has it, and of those with it the one that has no other such bit is told.
func ruleReduced(many int, masks []int) []int {
	span := spanOf(masks)
	highest := 0
	for x := range span {
		if x > 0 {
			highest |= 1 << (bits.Len(uint(x)) - 1)
		}
	}
	var told []int
	for bit := many - 1; bit >= 0; bit-- {
		for x := range keysOf(span) {
			if bits.Len(uint(x)) == bit+1 && x&highest == 1<<bit {
				told = append(told, x)
			}
		}
	}
	return told
}

// wordsReduced goes as the document's words do, with a mark at what is told.
func wordsReduced(many int, masks []int) []int {
	masks = slices.Clone(masks)
	var order []int
	for bit := many - 1; bit >= 0; bit-- {
		first := -1
		for i, mask := range masks {
			if first < 0 && mask&(1<<bit) != 0 && !slices.Contains(order, i) {
				first = i
			}
		}
		if first < 0 {
			continue
		}
		for i := range masks {
			if i != first && masks[i]&(1<<bit) != 0 {
				masks[i] ^= masks[first]
			}
		}
		order = append(order, first)
	}
	var told []int
	for _, i := range order {
		told = append(told, masks[i])
	}
	return told
}

func ruleOneLength(l []string) bool {
	for _, text := range l {
		if len(text) != len(l[0]) || len(text) > 20 {
			return false
		}
	}
	return true
}

func ruleGoodMasks(many int, masks []int) bool {
	if many < 1 || many > 10 || len(masks) > 20 {
		return false
	}
	for _, mask := range masks {
		if mask < 0 || float64(mask) > math.Pow(2, float64(many))-1 {
			return false
		}
	}
	return true
}

func masksOf(p []impl.Packet) []int {
	var l []int
	for _, x := range p {
		l = append(l, x.Mask)
	}
	return l
}

func textsOf(p []impl.Packet) []string {
	var l []string
	for _, x := range p {
		l = append(l, x.Text)
	}
	return l
}

func ruleGoodPackets(many int, p []impl.Packet) bool {
	return ruleGoodMasks(many, masksOf(p)) && ruleOneLength(textsOf(p))
}

func bitOf(text string, at int) int {
	return int(text[at/8]>>(at%8)) & 1
}

// rulePacket counts, bit by bit, how many of the mask's sources have it.
func rulePacket(l []string, mask int) impl.Packet {
	text := make([]byte, len(l[0]))
	for at := range 8 * len(text) {
		count := 0
		for k, source := range l {
			count += (mask >> k & 1) * bitOf(source, at)
		}
		text[at/8] |= byte(count%2) << (at % 8)
	}
	return impl.Packet{Mask: mask, Text: string(text)}
}

// ruleFitting tries all that the sources of a mask may have at one bit: a 1 for each that has it. It has the first that fits all packets, and how many do.
func ruleFitting(of int, p []impl.Packet, at int) (int, int) {
	first, count := 0, 0
	for x := of; x >= 0; x-- {
		fits := x&^of == 0
		for _, packet := range p {
			fits = fits && bits.OnesCount(uint(packet.Mask&x))%2 == bitOf(packet.Text, at)
		}
		if fits {
			first = x
			count++
		}
	}
	return first, count
}

// ruleSources solves bit by bit; false where nothing fits, or more than one.
func ruleSources(many int, of int, p []impl.Packet) ([]string, bool) {
	texts := make([][]byte, many)
	for at := range 8 * len(p[0].Text) {
		x, count := ruleFitting(of, p, at)
		if count != 1 {
			return nil, false
		}
		for k := range texts {
			if at%8 == 0 && of>>k&1 == 1 {
				texts[k] = append(texts[k], 0)
			}
			if x>>k&1 == 1 {
				texts[k][at/8] |= 1 << (at % 8)
			}
		}
	}
	var l []string
	for _, text := range texts {
		l = append(l, string(text))
	}
	return l, true
}

func ruleDecode(many int, p []impl.Packet) ([]string, bool) {
	if !ruleGoodPackets(many, p) || ruleRank(masksOf(p)) < many {
		return nil, false
	}
	return ruleSources(many, 1<<many-1, p)
}

// ruleKnown has which sources come to be known, in whatever order.
func ruleKnown(p []impl.Packet) int {
	known := 0
	for range 10 {
		for _, x := range p {
			if bits.OnesCount(uint(x.Mask&^known)) == 1 {
				known |= x.Mask
			}
		}
	}
	return known
}

// rulePeel solves for those sources that come to be known from the packets that are of these alone.
func rulePeel(many int, p []impl.Packet) ([]string, []bool, bool) {
	if !ruleGoodPackets(many, p) {
		return nil, nil, false
	}
	of := ruleKnown(p)
	var within []impl.Packet
	for _, x := range p {
		if x.Mask&^of == 0 {
			within = append(within, x)
		}
	}
	known := make([]bool, many)
	for k := range known {
		known[k] = of>>k&1 == 1
	}
	if len(within) == 0 {
		return make([]string, many), known, true
	}
	l, ok := ruleSources(many, of, within)
	if !ok {
		return nil, nil, false
	}
	return l, known, true
}

func packetName(x impl.Packet) string {
	return strconv.Itoa(x.Mask) + strconv.Quote(x.Text)
}

func packetsName(many int, p []impl.Packet) string {
	return "of " + strconv.Itoa(many) + ": " + namesOf(p, packetName)
}

func masksName(many int, masks []int) string {
	return "of " + strconv.Itoa(many) + ": " + namesOf(masks, strconv.Itoa)
}

func wantPacket(t *testing.T, what string, got impl.Packet, ok bool, want impl.Packet, wantOk bool) {
	t.Helper()
	if got != want || ok != wantOk {
		t.Errorf("%s: got %s %v, want %s %v", what, packetName(got), ok, packetName(want), wantOk)
	}
}

func wantBool(t *testing.T, what string, got bool, ok bool, want bool, wantOk bool) {
	t.Helper()
	if got != want || ok != wantOk {
		t.Errorf("%s: got %v %v, want %v %v", what, got, ok, want, wantOk)
	}
}

// wantOfMasks holds what is told of good masks against the rules.
func wantOfMasks(t *testing.T, many int, masks []int) {
	t.Helper()
	what := masksName(many, masks)
	rank, ok := impl.RankOf(many, masks)
	wantNumber(t, what+", rank", rank, ok, ruleRank(masks), true)
	told, ok := impl.ReduceMasks(many, masks)
	wantNumbers(t, what+", reduced", told, ok, ruleReduced(many, masks), true)
	wantNumbers(t, what+", reduced by words", told, ok, wordsReduced(many, masks), true)
	if len(told) != rank {
		t.Errorf("%s: %d are told, the rank is %d", what, len(told), rank)
	}
}

// wantSpan asks for each mask there is, of the masks and of the reduced ones.
func wantSpan(t *testing.T, many int, masks []int) {
	t.Helper()
	what := masksName(many, masks)
	span := spanOf(masks)
	told, _ := impl.ReduceMasks(many, masks)
	for mask := range 1 << many {
		is, ok := impl.InSpan(many, masks, mask)
		wantBool(t, what+", span of "+strconv.Itoa(mask), is, ok, span[mask], true)
		is, ok = impl.InSpan(many, told, mask)
		wantBool(t, what+", reduced, span of "+strconv.Itoa(mask), is, ok, span[mask], true)
	}
}

func wantRefusedMasks(t *testing.T, many int, masks []int) {
	t.Helper()
	what := masksName(many, masks)
	rank, ok := impl.RankOf(many, masks)
	wantNumber(t, what, rank, ok, 0, false)
	told, ok := impl.ReduceMasks(many, masks)
	wantNumbers(t, what, told, ok, nil, false)
	for _, mask := range []int{0, 1} {
		is, ok := impl.InSpan(many, masks, mask)
		wantBool(t, what, is, ok, false, false)
	}
}

func wantPeeled(t *testing.T, many int, p []impl.Packet, want []string, wantKnown []bool, wantOk bool) {
	t.Helper()
	what := packetsName(many, p) + ", peeled"
	l, known, ok := impl.Peel(many, p)
	wantTexts(t, what, l, ok, want, wantOk)
	wantBools(t, what, known, ok, wantKnown, wantOk)
}

// wantOfPackets holds what is told of any packets against the rules, and Peel against Decode; whether both told.
func wantOfPackets(t *testing.T, many int, p []impl.Packet) bool {
	t.Helper()
	what := packetsName(many, p)
	if impl.GoodPackets(many, p) != ruleGoodPackets(many, p) {
		t.Errorf("%s: good is not %v", what, ruleGoodPackets(many, p))
	}
	want, wantOk := ruleDecode(many, p)
	whole, ok := impl.Decode(many, p)
	wantTexts(t, what+", decoded", whole, ok, want, wantOk)
	peeled, known, wantOk := rulePeel(many, p)
	wantPeeled(t, many, p, peeled, known, wantOk)
	return wantPeelAsDecode(t, many, p)
}

// Promise 10: what Peel makes known is what Decode tells, wherever both tell.
func wantPeelAsDecode(t *testing.T, many int, p []impl.Packet) bool {
	t.Helper()
	whole, ok := impl.Decode(many, p)
	l, known, peeled := impl.Peel(many, p)
	if ok && !peeled {
		t.Errorf("%s: Decode tells %q, Peel does not", packetsName(many, p), whole)
	}
	if !ok || !peeled {
		return false
	}
	for k, is := range known {
		if is && l[k] != whole[k] || !is && l[k] != "" {
			t.Errorf("%s: Peel tells %q, Decode %q", packetsName(many, p), l, whole)
		}
	}
	return true
}

// Promise 10: the sources come back.
func wantBack(t *testing.T, sources []string, p []impl.Packet) {
	t.Helper()
	l, ok := impl.Decode(len(sources), p)
	wantTexts(t, packetsName(len(sources), p), l, ok, sources, true)
	wantPeelAsDecode(t, len(sources), p)
}

func wantRefusedPackets(t *testing.T, many int, p []impl.Packet) {
	t.Helper()
	what := packetsName(many, p)
	if impl.GoodPackets(many, p) {
		t.Errorf("%s: is good", what)
	}
	l, ok := impl.Decode(many, p)
	wantTexts(t, what, l, ok, nil, false)
	wantPeeled(t, many, p, nil, nil, false)
}

func wantNoPacket(t *testing.T, l []string, mask int) {
	t.Helper()
	got, ok := impl.PacketOf(l, mask)
	wantPacket(t, namesOf(l, strconv.Quote)+", packet of "+strconv.Itoa(mask), got, ok, impl.Packet{}, false)
}

// eachList shows all lists of at most so many of these.
func eachList[T any](most int, of []T, show func(l []T)) {
	var more func(l []T)
	more = func(l []T) {
		show(l)
		if len(l) == most {
			return
		}
		for _, x := range of {
			more(append(slices.Clone(l), x))
		}
	}
	more(nil)
}

func someSources(n *numbers, many int, long int) []string {
	var l []string
	for range many {
		l = append(l, mixedText(long, uint32(n.below(1000000))))
	}
	return l
}

// someMask is 0 now and then, or of few sources, or of any.
func someMask(n *numbers, many int) int {
	switch n.below(8) {
	case 0:
		return 0
	case 1, 2:
		return 1 << n.below(many)
	case 3, 4:
		return 1<<n.below(many) | 1<<n.below(many)
	}
	return n.below(1 << many)
}

func someMasks(n *numbers, many int, count int) []int {
	var l []int
	for range count {
		l = append(l, someMask(n, many))
	}
	return l
}

// packetsOf makes the packets of the sources without the program's help.
func packetsOf(sources []string, masks ...int) []impl.Packet {
	var p []impl.Packet
	for _, mask := range masks {
		p = append(p, rulePacket(sources, mask))
	}
	return p
}

func mixed[T any](n *numbers, l []T) []T {
	l = slices.Clone(l)
	for i := range l {
		k := i + n.below(len(l)-i)
		l[i], l[k] = l[k], l[i]
	}
	return l
}

// enoughMasks are just so many as there are sources, and the rank is that.
func enoughMasks(n *numbers, many int) []int {
	var l []int
	for len(l) < many {
		if mask := someMask(n, many); !spanOf(l)[mask] {
			l = append(l, mask)
		}
	}
	return l
}

// withTurned has one bit of one packet's text turned.
func withTurned(p []impl.Packet, i int, at int) []impl.Packet {
	p = slices.Clone(p)
	b := []byte(p[i].Text)
	b[at/8] ^= 1 << (at % 8)
	p[i].Text = string(b)
	return p
}

// mixedPackets shows sources and packets of these, some of them not enough, some of them spoiled.
func mixedPackets(each int, show func(many int, p []impl.Packet)) {
	for many := 1; many <= 10; many++ {
		for i := range each {
			n := &numbers{seed: uint64(10000 + 100*many + i)}
			long := []int{0, 1, 2, 3, 20}[n.below(5)]
			p := packetsOf(someSources(n, many, long), someMasks(n, many, n.below(21))...)
			show(many, p)
			if len(p) > 0 && long > 0 {
				show(many, withTurned(p, n.below(len(p)), n.below(8*long)))
			}
		}
	}
}

func TestCodeConstants(t *testing.T) {
	if impl.MaxSources != 10 || impl.MaxPackets != 20 {
		t.Error(impl.MaxSources, impl.MaxPackets)
	}
}

func TestGoodSources(t *testing.T) {
	for many := range 24 {
		for long := range 45 {
			l := slices.Repeat([]string{strings.Repeat("x", long)}, many)
			is := many >= 1 && many <= 10 && long <= 20
			if impl.GoodSources(l) != is {
				t.Errorf("%d sources of %d bytes: good is not %v", many, long, is)
			}
			for k := range l {
				for _, other := range []int{0, 1, 19, 20, 21, long - 1, long + 1, 1000} {
					if other < 0 || other == long || many == 1 {
						continue
					}
					unlike := slices.Clone(l)
					unlike[k] = strings.Repeat("x", other)
					if impl.GoodSources(unlike) {
						t.Errorf("%d sources of %d bytes, but for %d of %d: are good", many, long, k, other)
					}
					wantNoPacket(t, unlike, 0)
				}
			}
		}
	}
	for _, none := range [][]string{nil, {}, make([]string, 0, 4)} {
		if impl.GoodSources(none) {
			t.Error("no source is good")
		}
		for mask := -1; mask <= 2; mask++ {
			wantNoPacket(t, none, mask)
		}
	}
	if impl.GoodSources(make([]string, 100000)) || impl.GoodSources([]string{strings.Repeat("x", 100000)}) {
		t.Error("very many, or very long ones, are good")
	}
}

func TestPacketsKnownByHand(t *testing.T) {
	long := strings.Repeat("\xff", 20)
	for _, c := range []struct {
		sources []string
		mask    int
		text    string
	}{
		{[]string{"ab", "cd"}, 0, "\x00\x00"},
		{[]string{"ab", "cd"}, 1, "ab"},
		{[]string{"ab", "cd"}, 2, "cd"},
		{[]string{"ab", "cd"}, 3, "\x02\x06"},
		{[]string{"a"}, 0, "\x00"},
		{[]string{"a"}, 1, "a"},
		{[]string{""}, 0, ""},
		{[]string{""}, 1, ""},
		{[]string{"", "", ""}, 5, ""},
		{[]string{"x", "x"}, 3, "\x00"},
		{[]string{"\x01", "\x02", "\x04", "\x08"}, 13, "\x0d"},
		{[]string{"\x01", "\x02", "\x04", "\x80"}, 15, "\x87"},
		{[]string{"\xff\x00", "\x0f\x00", "\x00\x55"}, 7, "\xf0\x55"},
		{[]string{long, long, long}, 7, long},
		{[]string{long, long, long}, 6, strings.Repeat("\x00", 20)},
		{[]string{"0", "1", "2", "3", "4", "5", "6", "7", "8", "9"}, 1023, "\x01"},
		{[]string{"0", "1", "2", "3", "4", "5", "6", "7", "8", "9"}, 512, "9"},
		{[]string{"0", "1", "2", "3", "4", "5", "6", "7", "8", "9"}, 513, "\x09"},
	} {
		got, ok := impl.PacketOf(c.sources, c.mask)
		wantPacket(t, namesOf(c.sources, strconv.Quote), got, ok, impl.Packet{Mask: c.mask, Text: c.text}, true)
	}
}

// Every mask there is, of every count of sources, and those beyond.
func TestPacketsOfEveryMask(t *testing.T) {
	for many := 1; many <= 10; many++ {
		n := &numbers{seed: uint64(many)}
		for _, long := range []int{0, 1, 5, 20} {
			l := someSources(n, many, long)
			for mask := range 1 << many {
				got, ok := impl.PacketOf(l, mask)
				wantPacket(t, namesOf(l, strconv.Quote), got, ok, rulePacket(l, mask), true)
			}
			none, ok := impl.PacketOf(l, 0)
			wantText(t, "packet of none", none.Text, ok, strings.Repeat("\x00", long), true)
			for _, mask := range append([]int{1 << many, 1<<many + 1, 2 << many, 1024, 1 << 32, 1<<32 + 1, 1 << 62, -1 << many}, wrongNumbers...) {
				wantNoPacket(t, l, mask)
			}
		}
	}
	for _, many := range []int{11, 12, 20, 63, 64, 65} {
		for _, mask := range append([]int{0, 1, 1023}, wrongNumbers...) {
			wantNoPacket(t, slices.Repeat([]string{"a"}, many), mask)
		}
	}
	for _, long := range []int{21, 22, 400, 401} {
		wantNoPacket(t, []string{strings.Repeat("x", long)}, 1)
		wantNoPacket(t, []string{strings.Repeat("x", long)}, 0)
	}
}

// Two packets, unlike together, are the packet of their masks so.
func TestPacketsTogetherArePackets(t *testing.T) {
	for many := 1; many <= 10; many++ {
		n := &numbers{seed: uint64(many)}
		l := someSources(n, many, 20)
		for range 200 {
			a, _ := impl.PacketOf(l, n.below(1<<many))
			b, _ := impl.PacketOf(l, n.below(1<<many))
			both, _ := impl.PacketOf(l, a.Mask^b.Mask)
			text, ok := impl.UnlikeBits(a.Text, b.Text)
			wantText(t, packetName(a)+" and "+packetName(b), text, ok, both.Text, true)
		}
	}
}

func TestMasksKnownByHand(t *testing.T) {
	for _, c := range []struct {
		many  int
		masks []int
		told  []int
	}{
		{1, nil, nil},
		{10, nil, nil},
		{1, []int{0}, nil},
		{1, []int{1}, []int{1}},
		{1, []int{1, 1, 0, 1}, []int{1}},
		{3, []int{0, 0, 0}, nil},
		{3, []int{1, 2, 3}, []int{2, 1}},
		{3, []int{3, 2, 1}, []int{2, 1}},
		{3, []int{7}, []int{7}},
		{3, []int{7, 7}, []int{7}},
		{3, []int{3, 5, 6}, []int{5, 3}},
		{3, []int{6, 5, 3}, []int{5, 3}},
		{3, []int{7, 3, 1}, []int{4, 2, 1}},
		// Also what is told already becomes unlike: 6 has no bit of the later ones in the end.
		{3, []int{6, 3}, []int{5, 3}},
		{3, []int{6, 2}, []int{4, 2}},
		{4, []int{15, 7}, []int{8, 7}},
		{4, []int{9, 3}, []int{9, 3}},
		{4, []int{12, 10, 9}, []int{9, 5, 3}},
		{4, []int{12, 10, 9, 1}, []int{8, 4, 2, 1}},
		{10, []int{1023, 511}, []int{512, 511}},
		{10, []int{512, 1, 0, 513}, []int{512, 1}},
		{10, []int{1, 2, 4, 8, 16, 32, 64, 128, 256, 512}, []int{512, 256, 128, 64, 32, 16, 8, 4, 2, 1}},
		{10, []int{1, 3, 7, 15, 31, 63, 127, 255, 511, 1023}, []int{512, 256, 128, 64, 32, 16, 8, 4, 2, 1}},
	} {
		told, ok := impl.ReduceMasks(c.many, c.masks)
		wantNumbers(t, masksName(c.many, c.masks), told, ok, c.told, true)
		rank, ok := impl.RankOf(c.many, c.masks)
		wantNumber(t, masksName(c.many, c.masks), rank, ok, len(c.told), true)
		wantOfMasks(t, c.many, c.masks)
		wantSpan(t, c.many, c.masks)
	}
}

func TestEveryFewMasks(t *testing.T) {
	for _, c := range []struct{ many, most int }{{1, 6}, {2, 5}, {3, 4}, {4, 3}, {5, 2}, {10, 1}} {
		eachList(c.most, upTo(1<<c.many), func(masks []int) {
			wantOfMasks(t, c.many, masks)
			if c.many < 10 {
				wantSpan(t, c.many, masks)
			}
		})
	}
}

func TestMixedMasks(t *testing.T) {
	for many := 1; many <= 10; many++ {
		for i := range 60 {
			n := &numbers{seed: uint64(1000*many + i)}
			masks := someMasks(n, many, i%21)
			wantOfMasks(t, many, masks)
			if i < 12 {
				wantSpan(t, many, masks)
			}
			// Some that these make change nothing.
			if len(masks) > 1 {
				masks[n.below(len(masks))] = masks[0] ^ masks[len(masks)-1]
				wantOfMasks(t, many, masks)
			}
		}
	}
}

// The masks may come in any order: what they make is the same, and what is told, too.
func TestMasksInEveryOrder(t *testing.T) {
	for many := 1; many <= 10; many++ {
		for i := range 6 {
			n := &numbers{seed: uint64(500*many + i)}
			masks := someMasks(n, many, 5)
			want, _ := impl.ReduceMasks(many, masks)
			eachOrder(masks, func(order []int) {
				told, ok := impl.ReduceMasks(many, order)
				wantNumbers(t, masksName(many, order), told, ok, want, true)
				again, ok := impl.ReduceMasks(many, told)
				wantNumbers(t, masksName(many, told), again, ok, told, true)
				if !slices.Equal(told, wordsReduced(many, order)) {
					t.Errorf("%s: told is %v", masksName(many, order), told)
				}
			})
		}
	}
}

// 0 is made by taking none, so it is in every span.
func TestNothingIsInEverySpan(t *testing.T) {
	for many := 1; many <= 10; many++ {
		for _, masks := range [][]int{nil, {}, {0}, {1}, {1<<many - 1}, {1, 1}, make([]int, 20)} {
			is, ok := impl.InSpan(many, masks, 0)
			wantBool(t, masksName(many, masks), is, ok, true, true)
		}
		for mask := 1; mask < 1<<many; mask++ {
			is, ok := impl.InSpan(many, nil, mask)
			wantBool(t, "of no masks "+strconv.Itoa(mask), is, ok, false, true)
			is, ok = impl.InSpan(many, []int{mask}, mask)
			wantBool(t, "of itself "+strconv.Itoa(mask), is, ok, true, true)
		}
	}
}

// Promise 19: masks, and how many sources there are, at their limits and beyond.
func TestMasksAtTheLimits(t *testing.T) {
	for many := 1; many <= 10; many++ {
		top := 1<<many - 1
		for count := range 24 {
			masks := slices.Repeat([]int{top}, count)
			if count > 20 {
				wantRefusedMasks(t, many, masks)
				wantRefusedMasks(t, many, make([]int, count))
				continue
			}
			wantOfMasks(t, many, masks)
			wantOfMasks(t, many, make([]int, count))
			for i := range masks {
				for _, mask := range append([]int{top + 1, top + 2, 2 * (top + 1), 1 << 32, 1<<32 | 1}, wrongNumbers...) {
					bad := slices.Clone(masks)
					bad[i] = mask
					wantRefusedMasks(t, many, bad)
				}
			}
		}
		for _, mask := range append([]int{top + 1, top + 2, 1 << 32, -1 - top}, wrongNumbers...) {
			for _, masks := range [][]int{nil, {0}, {top}, {1, top}, make([]int, 20)} {
				is, ok := impl.InSpan(many, masks, mask)
				wantBool(t, masksName(many, masks)+", span of "+strconv.Itoa(mask), is, ok, false, false)
			}
		}
	}
	wantRefusedMasks(t, 3, make([]int, 100000))
}

func TestManyThatAreNotSo(t *testing.T) {
	for _, many := range append([]int{0, 11, 12, 20, 32, 62, 63, 64, 65, 128, 1 << 32, 1<<32 | 3}, wrongNumbers...) {
		for _, masks := range [][]int{nil, {}, {0}, {1}, {1, 2, 3}, {1023}} {
			wantRefusedMasks(t, many, masks)
			var p []impl.Packet
			for _, mask := range masks {
				p = append(p, impl.Packet{Mask: mask, Text: "\x00"})
			}
			wantRefusedPackets(t, many, p)
		}
	}
}

// Promise 10: with just enough packets, in any order, and with any others beside, all comes back.
func TestSourcesComeBack(t *testing.T) {
	for many := 1; many <= 10; many++ {
		for i := range 60 {
			n := &numbers{seed: uint64(3000*many + i)}
			sources := someSources(n, many, []int{0, 1, 2, 7, 19, 20}[i%6])
			masks := enoughMasks(n, many)
			p := packetsOf(sources, masks...)
			wantBack(t, sources, p)
			wantBack(t, sources, mixed(n, p))
			beside := append(p, packetsOf(sources, someMasks(n, many, n.below(21-many))...)...)
			wantBack(t, sources, beside)
			wantBack(t, sources, mixed(n, beside))
			for len(beside) < 20 {
				beside = append(beside, beside[n.below(len(beside))])
			}
			wantBack(t, sources, mixed(n, beside))
		}
	}
}

// Promise 10: by the program's own packets, also where several sources are alike.
func TestSourcesComeBackFromTheirPackets(t *testing.T) {
	for many := 1; many <= 10; many++ {
		for _, sources := range [][]string{slices.Repeat([]string{""}, many), slices.Repeat([]string{"\x00\x00"}, many), slices.Repeat([]string{strings.Repeat("\xff", 20)}, many), someSources(&numbers{seed: 8}, many, 20)} {
			for i := range 10 {
				var p []impl.Packet
				for _, mask := range enoughMasks(&numbers{seed: uint64(i)}, many) {
					x, _ := impl.PacketOf(sources, mask)
					p = append(p, x)
				}
				wantBack(t, sources, p)
			}
		}
	}
}

// Promise 10: of just enough packets none can be lacked, of whatever texts.
func TestOnePacketTooFew(t *testing.T) {
	for many := 1; many <= 10; many++ {
		for i := range 12 {
			n := &numbers{seed: uint64(4000*many + i)}
			sources := someSources(n, many, []int{0, 1, 20}[i%3])
			masks := enoughMasks(n, many)
			for k := range masks {
				few := slices.Delete(slices.Clone(masks), k, k+1)
				// As many as ahead, or MaxPackets, but the rank is less.
				for len(few) > 0 && len(few) < []int{many, 20}[i%2] {
					few = append(few, few[n.below(len(few))]^few[n.below(len(few))])
				}
				p := packetsOf(sources, few...)
				l, ok := impl.Decode(many, p)
				wantTexts(t, packetsName(many, p), l, ok, nil, false)
			}
		}
	}
}

// Promise 10: packets beyond those that are enough have to say the same.
func TestPacketsThatNoSourcesMake(t *testing.T) {
	for many := 1; many <= 10; many++ {
		for i := range 8 {
			n := &numbers{seed: uint64(6000*many + i)}
			long := []int{1, 3, 20}[i%3]
			sources := someSources(n, many, long)
			for _, beside := range []int{0, 1, 1<<many - 1, n.below(1 << many)} {
				p := packetsOf(sources, mixed(n, append(enoughMasks(n, many), beside))...)
				at := slices.IndexFunc(p, func(x impl.Packet) bool { return x.Mask == beside })
				for _, bit := range []int{0, 7, 8*long - 1, n.below(8 * long)} {
					torn := withTurned(p, at, bit)
					l, ok := impl.Decode(many, torn)
					wantTexts(t, packetsName(many, torn), l, ok, nil, false)
				}
				wantBack(t, sources, p)
			}
		}
	}
}

func TestDecodesKnownByHand(t *testing.T) {
	zeros := strings.Repeat("\x00", 20)
	for _, c := range []struct {
		many int
		p    []impl.Packet
		want []string
		ok   bool
	}{
		{1, nil, nil, false},
		{1, []impl.Packet{{Mask: 1, Text: "a"}}, []string{"a"}, true},
		{1, []impl.Packet{{Mask: 1, Text: ""}}, []string{""}, true},
		{1, []impl.Packet{{Mask: 0, Text: "\x00"}}, nil, false},
		{1, []impl.Packet{{Mask: 0, Text: ""}}, nil, false},
		{1, []impl.Packet{{Mask: 0, Text: "\x00"}, {Mask: 1, Text: "a"}}, []string{"a"}, true},
		{1, []impl.Packet{{Mask: 0, Text: "a"}, {Mask: 1, Text: "a"}}, nil, false},
		{1, []impl.Packet{{Mask: 1, Text: "a"}, {Mask: 0, Text: "\x01"}}, nil, false},
		{1, []impl.Packet{{Mask: 1, Text: "a"}, {Mask: 1, Text: "a"}}, []string{"a"}, true},
		{1, []impl.Packet{{Mask: 1, Text: "a"}, {Mask: 1, Text: "b"}}, nil, false},
		{2, []impl.Packet{{Mask: 3, Text: "\x02\x06"}, {Mask: 1, Text: "ab"}}, []string{"ab", "cd"}, true},
		{2, []impl.Packet{{Mask: 1, Text: "ab"}, {Mask: 3, Text: "\x02\x06"}}, []string{"ab", "cd"}, true},
		{2, []impl.Packet{{Mask: 2, Text: "cd"}, {Mask: 1, Text: "ab"}}, []string{"ab", "cd"}, true},
		{2, []impl.Packet{{Mask: 3, Text: "\x02\x06"}}, nil, false},
		{2, []impl.Packet{{Mask: 1, Text: "ab"}}, nil, false},
		// Of empty texts there is just one kind of sources, but the rank is less.
		{2, []impl.Packet{{Mask: 1, Text: ""}}, nil, false},
		{2, []impl.Packet{{Mask: 3, Text: ""}, {Mask: 2, Text: ""}}, []string{"", ""}, true},
		{3, []impl.Packet{{Mask: 3, Text: "\x03"}, {Mask: 5, Text: "\x05"}, {Mask: 6, Text: "\x06"}}, nil, false},
		{3, []impl.Packet{{Mask: 3, Text: "\x03"}, {Mask: 5, Text: "\x05"}, {Mask: 7, Text: "\x07"}}, []string{"\x01", "\x02", "\x04"}, true},
		{3, []impl.Packet{{Mask: 7, Text: "\x07"}, {Mask: 7, Text: "\x07"}, {Mask: 6, Text: "\x06"}, {Mask: 4, Text: "\x04"}}, []string{"\x01", "\x02", "\x04"}, true},
		{3, []impl.Packet{{Mask: 7, Text: "\x07"}, {Mask: 7, Text: "\x06"}, {Mask: 6, Text: "\x06"}, {Mask: 4, Text: "\x04"}}, nil, false},
		{1, []impl.Packet{{Mask: 1, Text: zeros}, {Mask: 0, Text: zeros}}, []string{zeros}, true},
		{1, []impl.Packet{{Mask: 1, Text: zeros}, {Mask: 0, Text: zeros[1:] + "\x01"}}, nil, false},
		{1, []impl.Packet{{Mask: 1, Text: zeros}, {Mask: 0, Text: "\x80" + zeros[1:]}}, nil, false},
	} {
		l, ok := impl.Decode(c.many, c.p)
		wantTexts(t, packetsName(c.many, c.p), l, ok, c.want, c.ok)
		wantOfPackets(t, c.many, c.p)
	}
}

func TestPeelsKnownByHand(t *testing.T) {
	for _, c := range []struct {
		many  int
		p     []impl.Packet
		want  []string
		known int
		ok    bool
	}{
		{1, nil, []string{""}, 0, true},
		{3, nil, []string{"", "", ""}, 0, true},
		{1, []impl.Packet{{Mask: 1, Text: "a"}}, []string{"a"}, 1, true},
		{1, []impl.Packet{{Mask: 1, Text: ""}}, []string{""}, 1, true},
		// A packet of nothing says nothing: what it has must be bytes 0.
		{2, []impl.Packet{{Mask: 0, Text: "\x00"}}, []string{"", ""}, 0, true},
		{2, []impl.Packet{{Mask: 0, Text: ""}}, []string{"", ""}, 0, true},
		{2, []impl.Packet{{Mask: 0, Text: "\x01"}}, nil, 0, false},
		{2, []impl.Packet{{Mask: 2, Text: "a"}, {Mask: 0, Text: "\x00"}}, []string{"", "a"}, 2, true},
		{2, []impl.Packet{{Mask: 2, Text: "a"}, {Mask: 0, Text: "a"}}, nil, 0, false},
		{2, []impl.Packet{{Mask: 3, Text: "a"}, {Mask: 0, Text: "\x80"}}, nil, 0, false},
		{2, []impl.Packet{{Mask: 3, Text: "\x02\x06"}, {Mask: 1, Text: "ab"}}, []string{"ab", "cd"}, 3, true},
		{2, []impl.Packet{{Mask: 3, Text: "\x02\x06"}}, []string{"", ""}, 0, true},
		{3, []impl.Packet{{Mask: 3, Text: "\x02\x06"}, {Mask: 1, Text: "ab"}}, []string{"ab", "cd", ""}, 3, true},
		// One makes the next known, from the last one on.
		{4, []impl.Packet{{Mask: 15, Text: "\x0f"}, {Mask: 7, Text: "\x07"}, {Mask: 3, Text: "\x03"}, {Mask: 1, Text: "\x01"}}, []string{"\x01", "\x02", "\x04", "\x08"}, 15, true},
		{4, []impl.Packet{{Mask: 12, Text: "\x0c"}, {Mask: 6, Text: "\x06"}, {Mask: 3, Text: "\x03"}, {Mask: 8, Text: "\x08"}}, []string{"\x01", "\x02", "\x04", "\x08"}, 15, true},
		// Decode would tell all, but no packet is of one source alone.
		{3, []impl.Packet{{Mask: 3, Text: "\x03"}, {Mask: 5, Text: "\x05"}, {Mask: 7, Text: "\x07"}}, []string{"", "", ""}, 0, true},
		{4, []impl.Packet{{Mask: 3, Text: "\x03"}, {Mask: 5, Text: "\x05"}, {Mask: 7, Text: "\x07"}, {Mask: 8, Text: "\x08"}}, []string{"", "", "", "\x08"}, 8, true},
		// The same twice, and unlike ones: of known sources, and of those that are not.
		{1, []impl.Packet{{Mask: 1, Text: "a"}, {Mask: 1, Text: "a"}}, []string{"a"}, 1, true},
		{1, []impl.Packet{{Mask: 1, Text: "a"}, {Mask: 1, Text: "b"}}, nil, 0, false},
		{2, []impl.Packet{{Mask: 1, Text: "a"}, {Mask: 2, Text: "b"}, {Mask: 3, Text: "\x03"}}, []string{"a", "b"}, 3, true},
		{2, []impl.Packet{{Mask: 1, Text: "a"}, {Mask: 2, Text: "b"}, {Mask: 3, Text: "\x02"}}, nil, 0, false},
		{2, []impl.Packet{{Mask: 3, Text: "\x02"}, {Mask: 2, Text: "b"}, {Mask: 1, Text: "a"}}, nil, 0, false},
		{2, []impl.Packet{{Mask: 3, Text: "a"}, {Mask: 3, Text: "b"}}, []string{"", ""}, 0, true},
		{3, []impl.Packet{{Mask: 3, Text: "a"}, {Mask: 3, Text: "b"}, {Mask: 4, Text: "c"}}, []string{"", "", "c"}, 4, true},
		{3, []impl.Packet{{Mask: 3, Text: "a"}, {Mask: 3, Text: "b"}, {Mask: 4, Text: "c"}, {Mask: 6, Text: "d"}}, nil, 0, false},
	} {
		known := make([]bool, c.many)
		for k := range known {
			known[k] = c.known>>k&1 == 1
		}
		if !c.ok {
			known = nil
		}
		wantPeeled(t, c.many, c.p, c.want, known, c.ok)
		wantOfPackets(t, c.many, c.p)
	}
}

// All packets of few sources, of one bit each.
func TestEveryFewPackets(t *testing.T) {
	both := 0
	for _, c := range []struct{ many, most int }{{1, 5}, {2, 4}, {3, 3}} {
		var of []impl.Packet
		for mask := range 1 << c.many {
			of = append(of, impl.Packet{Mask: mask, Text: "\x00"}, impl.Packet{Mask: mask, Text: "\x01"})
		}
		eachList(c.most, of, func(p []impl.Packet) {
			if wantOfPackets(t, c.many, p) {
				both++
			}
		})
	}
	if both < 1000 {
		t.Errorf("only %d lists of which Decode and Peel tell both", both)
	}
}

// The texts empty, too, of all few masks: then the rank alone tells.
func TestEveryFewPacketsOfEmptyTexts(t *testing.T) {
	for _, c := range []struct{ many, most int }{{1, 4}, {2, 4}, {3, 4}, {4, 3}} {
		eachList(c.most, upTo(1<<c.many), func(masks []int) {
			p := packetsOf(slices.Repeat([]string{""}, c.many), masks...)
			wantOfPackets(t, c.many, p)
			_, ok := impl.Decode(c.many, p)
			if rank, _ := impl.RankOf(c.many, masks); ok != (rank == c.many) {
				t.Errorf("%s: Decode tells %v, the rank is %d", packetsName(c.many, p), ok, rank)
			}
		})
	}
}

func TestMixedPackets(t *testing.T) {
	mixedPackets(25, func(many int, p []impl.Packet) {
		wantOfPackets(t, many, p)
	})
}

// Peel, told as the document does: one source by one.
func TestPeelIsItsSteps(t *testing.T) {
	mixedPackets(60, func(many int, p []impl.Packet) {
		l, known := make([]string, many), make([]bool, many)
		for {
			i, k := firstToPeel(p, known)
			if i < 0 {
				break
			}
			l[k], known[k] = leftToPeel(p[i], l, known), true
		}
		for _, x := range p {
			if len(notKnown(x.Mask, known)) == 0 && strings.Trim(leftToPeel(x, l, known), "\x00") != "" {
				wantPeeled(t, many, p, nil, nil, false)
				return
			}
		}
		wantPeeled(t, many, p, l, known, true)
	})
}

func notKnown(mask int, known []bool) []int {
	var l []int
	for k, is := range known {
		if mask>>k&1 == 1 && !is {
			l = append(l, k)
		}
	}
	return l
}

func firstToPeel(p []impl.Packet, known []bool) (int, int) {
	for i, x := range p {
		if l := notKnown(x.Mask, known); len(l) == 1 {
			return i, l[0]
		}
	}
	return -1, -1
}

func leftToPeel(x impl.Packet, l []string, known []bool) string {
	text := x.Text
	for k, is := range known {
		if is && x.Mask>>k&1 == 1 {
			text, _ = impl.UnlikeBits(text, l[k])
		}
	}
	return text
}

// Promise 10: packets by which one source after the other can be peeled, in any order: Peel has what Decode has.
func TestPeelOfChains(t *testing.T) {
	for many := 1; many <= 10; many++ {
		for i := range 40 {
			n := &numbers{seed: uint64(7000*many + i)}
			sources := someSources(n, many, []int{0, 1, 20}[i%3])
			var masks []int
			known := 0
			for _, k := range mixed(n, upTo(many)) {
				masks = append(masks, 1<<k|known&n.below(1<<many))
				known |= 1 << k
			}
			p := mixed(n, packetsOf(sources, append(masks, someMasks(n, many, n.below(11))...)...))
			wantBack(t, sources, p)
			wantPeeled(t, many, p, sources, slices.Repeat([]bool{true}, many), true)
		}
	}
}

func TestGoodPackets(t *testing.T) {
	for many := 1; many <= 10; many++ {
		for mask := -3; mask <= 1<<many+3; mask++ {
			for _, p := range [][]impl.Packet{{{Mask: mask, Text: "ab"}}, {{Mask: 1, Text: "ab"}, {Mask: mask, Text: "ab"}}, {{Mask: mask, Text: "ab"}, {Mask: 0, Text: "\x00\x00"}}} {
				if mask < 0 || mask >= 1<<many {
					wantRefusedPackets(t, many, p)
				} else if !impl.GoodPackets(many, p) {
					t.Errorf("%s: is not good", packetsName(many, p))
				}
			}
		}
		for _, mask := range append([]int{1 << 32, 1<<32 | 1, 1024}, wrongNumbers...) {
			wantRefusedPackets(t, many, []impl.Packet{{Mask: mask, Text: "ab"}})
			wantRefusedPackets(t, many, []impl.Packet{{Mask: 1, Text: "ab"}, {Mask: 1, Text: "ab"}, {Mask: mask, Text: "ab"}})
		}
		for _, none := range [][]impl.Packet{nil, {}, make([]impl.Packet, 0, 4)} {
			if !impl.GoodPackets(many, none) {
				t.Errorf("no packet of %d is not good", many)
			}
			wantOfPackets(t, many, none)
			wantPeeled(t, many, none, make([]string, many), make([]bool, many), true)
		}
	}
}

// Promise 19: MaxPackets packets are answered, one more is refused, whatever they are.
func TestOnePacketMoreThanMayBe(t *testing.T) {
	for many := 1; many <= 10; many++ {
		sources := someSources(&numbers{seed: uint64(many)}, many, 3)
		var p []impl.Packet
		for i := range 24 {
			p = append(p, rulePacket(sources, 1<<(i%many)))
			switch {
			case len(p) > 20:
				wantRefusedPackets(t, many, p)
				wantRefusedPackets(t, many, make([]impl.Packet, len(p)))
			case len(p) >= many:
				wantBack(t, sources, p)
				wantPeeled(t, many, p, sources, slices.Repeat([]bool{true}, many), true)
			default:
				wantOfPackets(t, many, p)
			}
		}
	}
	wantRefusedPackets(t, 3, make([]impl.Packet, 100000))
}

// Promise 19: texts of unlike lengths, and of more than 20 bytes, at any place, also of the mask 0.
func TestPacketsOfWrongLengths(t *testing.T) {
	for long := range 24 {
		text := strings.Repeat("\x00", long)
		for count := 1; count <= 20; count++ {
			p := make([]impl.Packet, count)
			for i := range p {
				p[i] = impl.Packet{Mask: i % 4, Text: text}
			}
			if long > 20 {
				wantRefusedPackets(t, 2, p)
				continue
			}
			if !impl.GoodPackets(2, p) {
				t.Errorf("%s: is not good", packetsName(2, p))
			}
			for i := range p {
				for _, other := range []int{0, long - 1, long + 1, 20, 21, 500} {
					if other < 0 || other == long || count == 1 {
						continue
					}
					bad := slices.Clone(p)
					bad[i].Text = strings.Repeat("\x00", other)
					wantRefusedPackets(t, 2, bad)
				}
			}
		}
	}
	wantRefusedPackets(t, 1, []impl.Packet{{Mask: 1, Text: strings.Repeat("x", 401)}})
	wantRefusedPackets(t, 1, []impl.Packet{{Mask: 1, Text: strings.Repeat("x", 401)}, {Mask: 1, Text: strings.Repeat("x", 401)}})
}

func heldPackets(p []impl.Packet) heldList {
	return held(p, packetName, func(x impl.Packet) impl.Packet { return impl.Packet{Mask: x.Mask + 1000, Text: x.Text + "+"} })
}

// shownPackets lie over bytes that can be looked at, and have more behind their length.
func shownPackets(p []impl.Packet) ([]impl.Packet, [][]byte) {
	texts, bytes := overTexts(textsOf(p))
	shown := slices.Clone(p)
	for i, text := range texts {
		shown[i].Text = text
	}
	return longer(shown, impl.Packet{Mask: 1, Text: "behind"}, impl.Packet{Mask: -7}), bytes
}

// codeAnswers asks all functions of packets, of their masks, and of their texts as sources.
func codeAnswers(many int, p []impl.Packet, masks []int, sources []string) ([][]int, [][]string, [][]bool) {
	told, _ := impl.ReduceMasks(many, masks)
	rank, _ := impl.RankOf(many, masks)
	whole, _ := impl.Decode(many, p)
	l, known, _ := impl.Peel(many, p)
	in, _ := impl.InSpan(many, masks, 1)
	var packets []string
	for _, mask := range []int{0, 1, 2, 3, 512} {
		x, _ := impl.PacketOf(sources, mask)
		packets = append(packets, x.Text)
	}
	is := []bool{impl.GoodPackets(many, p), impl.GoodSources(sources), in}
	return [][]int{told, {rank}}, [][]string{whole, l, packets}, [][]bool{known, is}
}

// badPackets are refused for all kinds of reasons.
func badPackets() [][]impl.Packet {
	return [][]impl.Packet{{{Mask: 1, Text: "ab"}, {Mask: 2, Text: "abc"}}, {{Mask: 1, Text: "ab"}, {Mask: -1, Text: "ab"}}, {{Mask: 1, Text: "ab"}, {Mask: 1024, Text: "ab"}}, {{Mask: 1, Text: strings.Repeat("x", 21)}}, make([]impl.Packet, 21),
		slices.Repeat([]impl.Packet{{Mask: 1, Text: "ab"}}, 25), {{Mask: 1, Text: "ab"}, {Mask: 1, Text: "cd"}}, {{Mask: 0, Text: "ab"}}, {{Mask: math.MinInt, Text: ""}, {Mask: math.MaxInt, Text: ""}}}
}

// memoryPackets shows packets, good or not, of how many sources.
func memoryPackets(show func(many int, p []impl.Packet)) {
	mixedPackets(8, show)
	for many := 1; many <= 10; many++ {
		n := &numbers{seed: uint64(many)}
		// Nothing has to be done with these: their texts are what is told.
		show(many, packetsOf(someSources(n, many, 20), 1, 2, 4, 8, 16, 32, 64, 128, 256, 512)[:many])
		show(many, packetsOf(someSources(n, many, 20), enoughMasks(n, many)...))
	}
	for _, p := range badPackets() {
		show(2, p)
		show(0, p)
		show(11, p)
	}
}

// Promise 19: nothing that is handed in is changed, nor what lies behind it, and no text of an answer lies in it.
func TestCodeFunctionsLeaveArgumentsAlone(t *testing.T) {
	memoryPackets(func(many int, p []impl.Packet) {
		shown, bytes := shownPackets(p)
		sources, sourceBytes := overTexts(textsOf(p)[:min(len(p), 10)])
		masks, sources := longer(masksOf(p), -1, 1, 1<<20), longer(sources, "be", "hind it")
		lists := []heldList{heldPackets(shown), heldNumbers(masks), heldTexts(sources)}
		ahead := shownLists(lists)
		numbers, texts, bools := codeAnswers(many, shown, masks, sources)
		if behind := shownLists(lists); !slices.Equal(ahead, behind) {
			t.Errorf("%s: was %q, is %q", packetsName(many, p), ahead, behind)
		}
		for _, l := range texts {
			wantApart(t, l, append(bytes, sourceBytes...)...)
		}
		var answers []heldList
		for _, l := range numbers {
			answers = append(answers, heldNumbers(l))
		}
		for _, l := range texts {
			answers = append(answers, heldTexts(l))
		}
		for _, l := range bools {
			answers = append(answers, heldBools(l))
		}
		wantNoneShared(t, packetsName(many, p), append(answers, lists...), len(answers))
	})
}

// Promise 19: no two texts of the answers lie in the same bytes, also where those of the packets do. (Go itself has each text of one byte just once.)
func TestTextsOfSourcesAreApart(t *testing.T) {
	same := mixedText(20, 7)
	apart := func(many int, p []impl.Packet) {
		_, texts, _ := codeAnswers(many, p, masksOf(p), textsOf(p)[:min(len(p), 10)])
		all := slices.Concat(texts...)
		for i := range all {
			for _, other := range all[:i] {
				if len(other) > 1 && shares(all[i], bytesUnder(other)) {
					t.Fatalf("%s: two texts %q lie in the same bytes", packetsName(many, p), other)
				}
			}
		}
	}
	memoryPackets(apart)
	apart(3, []impl.Packet{{Mask: 1, Text: same}, {Mask: 2, Text: same}, {Mask: 4, Text: same}})
	apart(3, []impl.Packet{{Mask: 1, Text: same}, {Mask: 2, Text: same}, {Mask: 5, Text: same}, {Mask: 0, Text: strings.Repeat("\x00", 20)}})
	apart(1, []impl.Packet{{Mask: 1, Text: same}, {Mask: 1, Text: same}})
}

// Promise 19: what lies behind a list's length is neither read nor handed out.
func TestPacketsBehindTheLengthAreNotRead(t *testing.T) {
	memoryPackets(func(many int, p []impl.Packet) {
		what := packetsName(many, p)
		shown, _ := shownPackets(p)
		masks, sources := masksOf(p), textsOf(p)[:min(len(p), 10)]
		numbers, texts, bools := codeAnswers(many, shown, longer(masks, -1, 1, 1<<20), longer(sources, "be", "hind it"))
		plainNumbers, plainTexts, plainBools := codeAnswers(many, slices.Clip(p), slices.Clip(masks), slices.Clip(sources))
		for i, l := range numbers {
			wantNumbers(t, what, l, true, plainNumbers[i], true)
			if slices.ContainsFunc(l[len(l):cap(l)], func(x int) bool { return x != 0 }) {
				t.Errorf("%s: behind its numbers there is %v", what, l[:cap(l)])
			}
		}
		for i, l := range texts {
			wantTexts(t, what, l, true, plainTexts[i], true)
			if strings.Join(l[len(l):cap(l)], "") != "" {
				t.Errorf("%s: behind its texts there is %q", what, l[:cap(l)])
			}
		}
		for i, l := range bools {
			wantBools(t, what, l, true, plainBools[i], true)
			if slices.Contains(l[len(l):cap(l)], true) {
				t.Errorf("%s: behind its bools there is a true", what)
			}
		}
	})
	// Cut to its limit a list is good, whatever lies behind.
	cut := append(make([]int, 20), 1, 2, -1)[:20]
	wantOfMasks(t, 2, cut)
	p := append(slices.Repeat([]impl.Packet{{Mask: 1, Text: "a"}}, 20), impl.Packet{Mask: 2, Text: "bc"})[:20]
	wantOfPackets(t, 2, p)
	if sources := strings.Split("abcdefghijklm", "")[:10]; !impl.GoodSources(sources) {
		t.Error("ten sources, cut, are not good")
	}
}

func TestCodeFunctionsAnswerAlikeTwice(t *testing.T) {
	memoryPackets(func(many int, p []impl.Packet) {
		masks, sources := masksOf(p), textsOf(p)[:min(len(p), 10)]
		numbers, texts, bools := codeAnswers(many, p, masks, sources)
		numbersAgain, textsAgain, boolsAgain := codeAnswers(many, p, masks, sources)
		for i, l := range numbers {
			wantNumbers(t, packetsName(many, p), numbersAgain[i], true, l, true)
		}
		for i, l := range texts {
			wantTexts(t, packetsName(many, p), textsAgain[i], true, l, true)
		}
		for i, l := range bools {
			wantBools(t, packetsName(many, p), boolsAgain[i], true, l, true)
		}
	})
}
