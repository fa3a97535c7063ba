package tests

import (
	"math"
	"testing"
	"unsafe"
)

// mixedText is a text of so many bytes that has all kinds of bytes, the same ones each time.
func mixedText(long int, seed uint32) string {
	b := make([]byte, long)
	for i := range b {
		seed = seed*1664525 + 1013904223
		b[i] = byte(seed >> 24)
	}
	return string(b)
}

// wrongNumbers are below or far above every limit of the program.
var wrongNumbers = []int{-1, -2, -65536, math.MinInt32, math.MinInt, math.MinInt + 1, math.MaxInt32, math.MaxInt64 - 1, math.MaxInt}

func wantNumber(t *testing.T, what string, got int, ok bool, want int, wantOk bool) {
	t.Helper()
	if got != want || ok != wantOk {
		t.Errorf("%s: got %d %v, want %d %v", what, got, ok, want, wantOk)
	}
}

func wantText(t *testing.T, what string, got string, ok bool, want string, wantOk bool) {
	t.Helper()
	if got != want || ok != wantOk {
		t.Errorf("%s: got %x %v, want %x %v", what, got, ok, want, wantOk)
	}
}

// numbers gives numbers from 0 on below a limit, all of one seed the same ones each time.
type numbers struct{ seed uint64 }

func (n *numbers) below(limit int) int {
	n.seed = n.seed*6364136223846793005 + 1442695040888963407
	return int(n.seed>>33) % limit
}

// overBytes is a text that lies in the bytes that are given, so that they can be looked at behind a call.
func overBytes(b []byte) string {
	return unsafe.String(unsafe.SliceData(b), len(b))
}

// bytesUnder are the bytes that a text lies in; they are only looked at.
func bytesUnder(s string) []byte {
	return unsafe.Slice(unsafe.StringData(s), len(s))
}

// shares tells whether an answer lies in the memory of an argument.
func shares(answer string, arg []byte) bool {
	if len(answer) == 0 || len(arg) == 0 {
		return false
	}
	at := uintptr(unsafe.Pointer(unsafe.StringData(answer)))
	from := uintptr(unsafe.Pointer(&arg[0]))
	return at < from+uintptr(len(arg)) && from < at+uintptr(len(answer))
}
