package tests

import (
	"strconv"
	"strings"
	"testing"
	"unsafe"

	"loop.example/g00541/impl"
)

// ruleSum is the sum as the document tells it: bit by bit, from the highest one of each byte on.
func ruleSum(sum int, s string) int {
	for i := 0; i < len(s); i++ {
		for k := 7; k >= 0; k-- {
			sum = 2*sum + int(s[i]>>k&1)
			if sum >= 65536 {
				sum ^= 69665
			}
		}
	}
	return sum
}

// edgeTexts are texts at every length that the chapter names, and some between.
func edgeTexts() []string {
	l := []string{"", "\x00", "\x01", "\x80", "\xff", "\x00\x00", "\xff\xff", "a", "ab", "123456789"}
	for i, long := range []int{1, 2, 3, 17, 60, 255, 256, 397, 398, 399, 400} {
		l = append(l, mixedText(long, uint32(7*i+1)), strings.Repeat("\x00", long), strings.Repeat("\xff", long))
	}
	return l
}

func TestSumConstants(t *testing.T) {
	if impl.MaxText != 400 || impl.Poly != 69665 {
		t.Error(impl.MaxText, impl.Poly)
	}
}

func TestSumOnIsTheRule(t *testing.T) {
	for _, s := range edgeTexts() {
		for _, sum := range []int{0, 1, 2, 255, 256, 4095, 4096, 32767, 32768, 61440, 65534, 65535} {
			n, ok := impl.SumOn(sum, s)
			wantNumber(t, "SumOn "+strconv.Itoa(sum)+" of "+strconv.Itoa(len(s)), n, ok, ruleSum(sum, s), true)
		}
		n, ok := impl.SumOf(s)
		wantNumber(t, "SumOf "+strconv.Itoa(len(s)), n, ok, ruleSum(0, s), true)
	}
}

func TestSumOnOneByteOfEverySum(t *testing.T) {
	for sum := 0; sum <= 65535; sum++ {
		for _, s := range []string{"", "\x00", "\x01", "\x10", "\x80", "\xa5", "\xff"} {
			if n, ok := impl.SumOn(sum, s); n != ruleSum(sum, s) || !ok {
				t.Fatalf("SumOn %d %x: got %d %v, want %d", sum, s, n, ok, ruleSum(sum, s))
			}
		}
	}
	for b := 0; b < 256; b++ {
		s := string([]byte{byte(b)})
		for _, sum := range []int{0, 1, 4660, 43981, 65535} {
			if n, ok := impl.SumOn(sum, s); n != ruleSum(sum, s) || !ok {
				t.Fatalf("SumOn %d %x: got %d %v, want %d", sum, s, n, ok, ruleSum(sum, s))
			}
		}
	}
}

func TestSumsKnownByHand(t *testing.T) {
	n, ok := impl.SumOf("")
	wantNumber(t, "of nothing", n, ok, 0, true)
	n, ok = impl.SumOf("\x80")
	wantNumber(t, "the first bit is the highest one", n, ok, 128, true)
	n, ok = impl.SumOf("\x12\x34")
	wantNumber(t, "two bytes are their own sum", n, ok, 0x1234, true)
	n, ok = impl.SumOf("\x01\x00\x00")
	wantNumber(t, "the bit that goes out", n, ok, 69665-65536, true)
	n, ok = impl.SumOn(65535, "")
	wantNumber(t, "the greatest sum of nothing", n, ok, 65535, true)
	s, ok := impl.WithSum("123456789")
	wantText(t, "digits", s, ok, "123456789\x31\xc3", true)
	s, ok = impl.WithSum("")
	wantText(t, "nothing with its sum", s, ok, "\x00\x00", true)
	s, ok = impl.CheckSum("\x00\x00")
	wantText(t, "nothing comes back", s, ok, "", true)
}

func TestSumOnGoesOn(t *testing.T) {
	for _, s := range edgeTexts() {
		whole, _ := impl.SumOf(s)
		for _, cut := range []int{0, 1, 2, len(s) / 2, len(s) - 2, len(s) - 1, len(s)} {
			if cut < 0 || cut > len(s) {
				continue
			}
			first, ok := impl.SumOf(s[:cut])
			if !ok {
				t.Fatal("no sum of the first ones")
			}
			n, ok := impl.SumOn(first, s[cut:])
			wantNumber(t, "going on at "+strconv.Itoa(cut)+" of "+strconv.Itoa(len(s)), n, ok, whole, true)
		}
	}
}

func TestSumOfUnlikeTextsIsUnlikeSums(t *testing.T) {
	for _, long := range []int{0, 1, 2, 3, 4, 31, 398, 399, 400} {
		for seed := uint32(0); seed < 40; seed++ {
			a, b := mixedText(long, seed), mixedText(long, 1000+seed*seed)
			u, ok := impl.UnlikeBits(a, b)
			if !ok || len(u) != long {
				t.Fatalf("UnlikeBits of %d: %d %v", long, len(u), ok)
			}
			for i := range long {
				if u[i] != a[i]^b[i] {
					t.Fatalf("byte %d of %d: %x of %x and %x", i, long, u[i], a[i], b[i])
				}
			}
			na, _ := impl.SumOf(a)
			nb, _ := impl.SumOf(b)
			n, ok := impl.SumOf(u)
			wantNumber(t, "unlike of "+strconv.Itoa(long), n, ok, na^nb, true)
		}
	}
}

func TestUnlikeBits(t *testing.T) {
	s, ok := impl.UnlikeBits("", "")
	wantText(t, "nothing", s, ok, "", true)
	s, ok = impl.UnlikeBits("\x0f\xff\x00", "\xf0\x0f\x00")
	wantText(t, "some", s, ok, "\xff\xf0\x00", true)
	for _, long := range []int{1, 2, 399, 400} {
		a := mixedText(long, 3)
		s, ok = impl.UnlikeBits(a, strings.Repeat("\x00", long))
		wantText(t, "against noughts", s, ok, a, true)
		s, ok = impl.UnlikeBits(a, a)
		wantText(t, "against itself", s, ok, strings.Repeat("\x00", long), true)
	}
}

func TestUnlikeBitsWrong(t *testing.T) {
	a := mixedText(402, 9)
	for _, c := range [][2]int{{0, 1}, {1, 0}, {1, 2}, {2, 1}, {399, 400}, {400, 399}, {400, 401}, {401, 400}, {401, 401}, {402, 402}, {0, 401}} {
		s, ok := impl.UnlikeBits(a[:c[0]], a[:c[1]])
		wantText(t, "UnlikeBits of "+strconv.Itoa(c[0])+" and "+strconv.Itoa(c[1]), s, ok, "", false)
	}
}

func TestCheckSumGivesBack(t *testing.T) {
	for _, s := range edgeTexts() {
		with, ok := impl.WithSum(s)
		if len(s) > 398 {
			wantText(t, "WithSum of "+strconv.Itoa(len(s)), with, ok, "", false)
			continue
		}
		n := ruleSum(0, s+"\x00\x00")
		wantText(t, "WithSum of "+strconv.Itoa(len(s)), with, ok, s+string([]byte{byte(n >> 8), byte(n & 255)}), true)
		back, ok := impl.CheckSum(with)
		wantText(t, "CheckSum of "+strconv.Itoa(len(with)), back, ok, s, true)
	}
}

func TestCheckSumRefuses(t *testing.T) {
	for _, s := range []string{"", "\x00", "\x01", "\x00\x01", "\x01\x00", "\x80\x00", "\x01\x21\x10", "\x01\x10\x20", "\x01\x10",
		strings.Repeat("\x00", 401), strings.Repeat("\x00", 1000), strings.Repeat("\xff", 400)} {
		got, ok := impl.CheckSum(s)
		wantText(t, "CheckSum of "+strconv.Itoa(len(s)), got, ok, "", false)
	}
	got, ok := impl.CheckSum(strings.Repeat("\x00", 400))
	wantText(t, "at the limit", got, ok, strings.Repeat("\x00", 398), true)
}

// wantSeen turns bits of a text with a sum, from a place on, and wants CheckSum not to take it.
func wantSeen(t *testing.T, with string, from int, bits int) {
	t.Helper()
	torn, ok := impl.TurnBits(with, from, bits)
	if !ok || torn == with || len(torn) != len(with) {
		t.Fatalf("TurnBits of %d bytes, %d, %d: %v", len(with), from, bits, ok)
	}
	if got, ok := impl.CheckSum(torn); ok || got != "" {
		t.Fatalf("not seen: %d bytes, %d, %d", len(with), from, bits)
	}
}

// Every burst there is, at every place: within one byte, across two and across three.
func TestEveryBurstOfAShortText(t *testing.T) {
	for _, s := range []string{"", "k", "\x00\xff"} {
		with, _ := impl.WithSum(s)
		for bits := 1; bits <= 65535; bits += 2 {
			span, _ := impl.SpanOf(bits)
			for from := 0; from+span <= 8*len(with); from++ {
				wantSeen(t, with, from, bits)
			}
		}
	}
}

func TestBurstsAtFrontMiddleAndEnd(t *testing.T) {
	for i, long := range []int{8, 61, 397, 398} {
		with, _ := impl.WithSum(mixedText(long, uint32(i)))
		all := 8 * len(with)
		for bits := 1; bits <= 65535; bits += 62 {
			span, _ := impl.SpanOf(bits)
			for shift := 0; shift < 8; shift++ {
				wantSeen(t, with, shift, bits)
				wantSeen(t, with, all/2+shift, bits)
				wantSeen(t, with, all-span-shift, bits)
			}
		}
	}
}

func TestBurstsAtEveryPlace(t *testing.T) {
	with, _ := impl.WithSum(mixedText(398, 77))
	for _, bits := range []int{1, 3, 5, 129, 257, 4129, 32769, 65535} {
		span, _ := impl.SpanOf(bits)
		for from := 0; from+span <= 8*len(with); from++ {
			wantSeen(t, with, from, bits)
		}
	}
}

// Seventeen bits that are just Poly are the shortest burst that no sum by Poly can see.
func TestPolyItselfIsNotSeen(t *testing.T) {
	with, _ := impl.WithSum("a text that is kept")
	for from := 0; from+17 <= 8*len(with); from++ {
		torn, ok := impl.TurnBits(with, from, impl.Poly)
		if _, taken := impl.CheckSum(torn); !ok || !taken || torn == with {
			t.Error(from, ok, taken)
		}
	}
}

// ruleTurn turns as the document tells it, by a list of bits; where one that is turned lies beyond there is none.
func ruleTurn(s string, from int, bits int) (string, bool) {
	b := []byte(s)
	for i, c := range strconv.FormatInt(int64(bits), 2) {
		if c != '1' {
			continue
		}
		if from+i >= 8*len(s) {
			return "", false
		}
		b[(from+i)/8] ^= 1 << (7 - (from+i)%8)
	}
	return string(b), true
}

func TestTurnBitsIsTheRule(t *testing.T) {
	patterns := []int{0, 1, 2, 3, 4, 5, 6, 12, 128, 255, 256, 257, 32768, 65535, 65536, 65537, 69665, 8388607, 8388608, 8388609, 11184810, 16777214, 16777215}
	for _, long := range []int{0, 1, 2, 3, 4, 5} {
		s := mixedText(long, 21)
		for from := 0; from <= 8*long; from++ {
			for _, bits := range patterns {
				want, wantOk := ruleTurn(s, from, bits)
				got, ok := impl.TurnBits(s, from, bits)
				wantText(t, "TurnBits of "+strconv.Itoa(long)+" from "+strconv.Itoa(from)+" by "+strconv.Itoa(bits), got, ok, want, wantOk)
			}
		}
	}
	s := mixedText(400, 22)
	for _, from := range []int{0, 1, 7, 8, 1600, 3175, 3176, 3177, 3198, 3199, 3200} {
		for _, bits := range patterns {
			want, wantOk := ruleTurn(s, from, bits)
			got, ok := impl.TurnBits(s, from, bits)
			wantText(t, "TurnBits of 400 from "+strconv.Itoa(from)+" by "+strconv.Itoa(bits), got, ok, want, wantOk)
		}
	}
}

func TestTurnBitsEnds(t *testing.T) {
	s, ok := impl.TurnBits("", 0, 0)
	wantText(t, "nothing of nothing", s, ok, "", true)
	s, ok = impl.TurnBits("", 0, 1)
	wantText(t, "a bit of nothing", s, ok, "", false)
	s, ok = impl.TurnBits("\x00\x00", 16, 0)
	wantText(t, "no bits at the end", s, ok, "\x00\x00", true)
	s, ok = impl.TurnBits("\x00\x00", 17, 0)
	wantText(t, "no bits behind the end", s, ok, "", false)
	s, ok = impl.TurnBits("\x00\x00", 16, 1)
	wantText(t, "a bit at the end", s, ok, "", false)
	s, ok = impl.TurnBits("\x00\x00", 15, 1)
	wantText(t, "the last bit", s, ok, "\x00\x01", true)
	s, ok = impl.TurnBits("\x00\x00", 0, 65535)
	wantText(t, "all bits", s, ok, "\xff\xff", true)
	s, ok = impl.TurnBits("\x00\x00", 1, 65535)
	wantText(t, "one bit behind", s, ok, "", false)
	s, ok = impl.TurnBits("\x00\x00\x00", 0, 16777215)
	wantText(t, "all that bits may have", s, ok, "\xff\xff\xff", true)
	s, ok = impl.TurnBits("\x00\x00\x00", 1, 16777215)
	wantText(t, "one bit behind three bytes", s, ok, "", false)
	s, ok = impl.TurnBits("\x00", 7, 2)
	wantText(t, "a nought behind the end turns nothing", s, ok, "\x01", true)
}

func TestTurnBitsTwiceIsNothing(t *testing.T) {
	s := mixedText(40, 5)
	for from := 0; from <= 8*40-24; from += 3 {
		for _, bits := range []int{1, 65535, 65536, 9999999, 16777215} {
			once, ok := impl.TurnBits(s, from, bits)
			if !ok || once == s {
				t.Fatal(from, bits, ok)
			}
			twice, ok := impl.TurnBits(once, from, bits)
			wantText(t, "twice", twice, ok, s, true)
		}
	}
}

func TestTurnBitsWrong(t *testing.T) {
	for _, bits := range append([]int{16777216, 16777217, 33554432}, wrongNumbers...) {
		for _, from := range []int{0, 1, 320} {
			s, ok := impl.TurnBits(mixedText(40, 1), from, bits)
			wantText(t, "bits "+strconv.Itoa(bits), s, ok, "", false)
		}
	}
	for _, from := range append([]int{321, 322, 640, 3200}, wrongNumbers...) {
		for _, bits := range []int{0, 1, 16777215} {
			s, ok := impl.TurnBits(mixedText(40, 1), from, bits)
			wantText(t, "from "+strconv.Itoa(from), s, ok, "", false)
		}
	}
	for _, long := range []int{401, 402, 5000} {
		s, ok := impl.TurnBits(mixedText(long, 1), 0, 0)
		wantText(t, "long "+strconv.Itoa(long), s, ok, "", false)
	}
}

func TestSpanOf(t *testing.T) {
	for bits := 0; bits < 1<<17; bits++ {
		want := len(strings.Trim(strconv.FormatInt(int64(bits), 2), "0"))
		if n, ok := impl.SpanOf(bits); n != want || !ok {
			t.Fatalf("SpanOf %d: got %d %v, want %d", bits, n, ok, want)
		}
	}
	for _, c := range [][2]int{{0, 0}, {1, 1}, {2, 1}, {3, 2}, {12, 2}, {65535, 16}, {65536, 1}, {65537, 17}, {8388608, 1}, {8388609, 24}, {16777214, 23}, {16777215, 24}} {
		n, ok := impl.SpanOf(c[0])
		wantNumber(t, "SpanOf "+strconv.Itoa(c[0]), n, ok, c[1], true)
	}
	for _, bits := range append([]int{16777216, 16777217, 33554432}, wrongNumbers...) {
		n, ok := impl.SpanOf(bits)
		wantNumber(t, "SpanOf "+strconv.Itoa(bits), n, ok, 0, false)
	}
}

func TestSumZeros(t *testing.T) {
	for _, sum := range []int{0, 1, 255, 32768, 65535} {
		for _, many := range []int{0, 1, 2, 3, 255, 256, 398, 399, 400} {
			zeros := strings.Repeat("\x00", many)
			on, okOn := impl.SumOn(sum, zeros)
			n, ok := impl.SumZeros(sum, many)
			wantNumber(t, "SumZeros "+strconv.Itoa(sum)+" "+strconv.Itoa(many), n, ok, ruleSum(sum, zeros), true)
			wantNumber(t, "SumOn of noughts", on, okOn, n, ok)
		}
	}
}

func TestSumsWrong(t *testing.T) {
	for _, sum := range append([]int{65536, 65537, 69665, 131072}, wrongNumbers...) {
		n, ok := impl.SumOn(sum, "")
		wantNumber(t, "SumOn of nothing, "+strconv.Itoa(sum), n, ok, 0, false)
		n, ok = impl.SumOn(sum, "a text")
		wantNumber(t, "SumOn "+strconv.Itoa(sum), n, ok, 0, false)
		for _, many := range []int{0, 1, 400, 401, -1} {
			n, ok = impl.SumZeros(sum, many)
			wantNumber(t, "SumZeros "+strconv.Itoa(sum)+" "+strconv.Itoa(many), n, ok, 0, false)
		}
	}
	for _, many := range append([]int{401, 402, 65536}, wrongNumbers...) {
		n, ok := impl.SumZeros(1, many)
		wantNumber(t, "SumZeros 1 "+strconv.Itoa(many), n, ok, 0, false)
	}
	for _, long := range []int{401, 402, 5000} {
		s := mixedText(long, 1)
		n, ok := impl.SumOf(s)
		wantNumber(t, "SumOf of "+strconv.Itoa(long), n, ok, 0, false)
		n, ok = impl.SumOn(1, s)
		wantNumber(t, "SumOn of "+strconv.Itoa(long), n, ok, 0, false)
		w, ok := impl.WithSum(s)
		wantText(t, "WithSum of "+strconv.Itoa(long), w, ok, "", false)
	}
	for _, long := range []int{399, 400} {
		w, ok := impl.WithSum(strings.Repeat("a", long))
		wantText(t, "WithSum of "+strconv.Itoa(long), w, ok, "", false)
	}
}

// The texts that are handed in lie over bytes that can be looked at behind the calls.
func TestSumFunctionsLeaveArgumentsAlone(t *testing.T) {
	for _, text := range []string{"ab\x91\xd3", mixedText(400, 4), strings.Repeat("\x00", 400), "\x01\x10\x21"} {
		bytes := []byte(text)
		other := make([]byte, len(bytes))
		s := unsafe.String(&bytes[0], len(bytes))
		zeros := unsafe.String(&other[0], len(other))
		var answers []string
		add := func(a string, ok bool) { answers = append(answers, a) }
		impl.SumOf(s)
		impl.SumOn(1, s)
		add(impl.WithSum(s))
		add(impl.WithSum(s[:len(s)-2]))
		add(impl.CheckSum(s))
		add(impl.TurnBits(s, 0, 0))
		add(impl.TurnBits(s, 3, 65535))
		add(impl.UnlikeBits(s, zeros))
		add(impl.UnlikeBits(zeros, s))
		if string(bytes) != text || strings.Trim(string(other), "\x00") != "" {
			t.Errorf("an argument of %d bytes was changed", len(text))
		}
		for i, a := range answers {
			if shares(a, bytes) || shares(a, other) {
				t.Errorf("answer %d of %d bytes shares an argument's memory", i, len(text))
			}
		}
	}
}

// What is answered hangs on the arguments alone: asked again it is the same.
func TestSumFunctionsAnswerAlikeTwice(t *testing.T) {
	for _, s := range edgeTexts() {
		a, okA := impl.SumOf(s)
		impl.SumOn(65535, mixedText(400, 8))
		impl.TurnBits(s, 0, 16777215)
		b, okB := impl.SumOf(s)
		wantNumber(t, "again", b, okB, a, okA)
	}
}
