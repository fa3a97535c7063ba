package impl

import (
	"math/bits"
	"strings"
)

const MaxText = 400
const Poly = 69665

const sumLimit = 65536
const bitsLimit = 16777216

// What four bits that go out at a sum's upper end turn in it: they times Poly
// without its highest bit. The ones of that (bits 12, 5 and 0) stand four bits
// or more apart, so plain multiplying carries nothing over and is the product
// that the sum needs.
const (
	out0 = iota * (Poly - sumLimit)
	out1
	out2
	out3
	out4
	out5
	out6
	out7
	out8
	out9
	out10
	out11
	out12
	out13
	out14
	out15
)

var outTable = [16]int{
	out0, out1, out2, out3, out4, out5, out6, out7,
	out8, out9, out10, out11, out12, out13, out14, out15,
}

func SumOf(s string) (int, bool) {
	return SumOn(0, s)
}

func SumOn(sum int, s string) (int, bool) {
	if !isSum(sum) || len(s) > MaxText {
		return 0, false
	}
	for i := range len(s) {
		sum = fourBitsOn(sum, int(s[i]>>4))
		sum = fourBitsOn(sum, int(s[i]&15))
	}
	return sum, true
}

func WithSum(s string) (string, bool) {
	// With two bytes more SumOf's limit is the one of s: MaxText - 2.
	sum, ok := SumOf(s + "\x00\x00")
	if !ok {
		return "", false
	}
	return s + string([]byte{byte(sum >> 8), byte(sum)}), true
}

func CheckSum(t string) (string, bool) {
	if len(t) < 2 {
		return "", false
	}
	sum, ok := SumOf(t)
	if !ok || sum != 0 {
		return "", false
	}
	// A piece of t would share its memory.
	return strings.Clone(t[:len(t)-2]), true
}

func TurnBits(s string, from int, bits int) (string, bool) {
	span, ok := SpanOf(bits)
	// What has to lie within ends with the lowest 1: noughts behind it turn nothing.
	if !ok || len(s) > MaxText || from < 0 || from > 8*len(s)-span {
		return "", false
	}
	turned := []byte(s)
	for i := range span {
		if bits>>(highestOne(bits)-i)&1 == 1 {
			turned[(from+i)/8] ^= 128 >> ((from + i) % 8)
		}
	}
	return string(turned), true
}

func SpanOf(bits int) (int, bool) {
	if bits < 0 || bits >= bitsLimit {
		return 0, false
	}
	if bits == 0 {
		return 0, true
	}
	return highestOne(bits) - lowestOne(bits) + 1, true
}

func UnlikeBits(a string, b string) (string, bool) {
	if len(a) != len(b) || len(a) > MaxText {
		return "", false
	}
	unlike := make([]byte, len(a))
	for i := range unlike {
		unlike[i] = a[i] ^ b[i]
	}
	return string(unlike), true
}

func SumZeros(sum int, many int) (int, bool) {
	if many < 0 || many > MaxText {
		return 0, false
	}
	return SumOn(sum, strings.Repeat("\x00", many))
}

func isSum(sum int) bool {
	return sum >= 0 && sum < sumLimit
}

func fourBitsOn(sum int, four int) int {
	return (sum<<4&(sumLimit-1) | four) ^ outTable[sum>>12]
}

func highestOne(n int) int {
	return bits.Len(uint(n)) - 1
}

func lowestOne(n int) int {
	return bits.TrailingZeros(uint(n))
}
