package siphash_test

import (
	"math"
	"testing"

	. "counterfoil/siphash"
)

// counting returns the bytes 0, 1 and so on.
func counting(n int) []byte {
	b := make([]byte, n)
	for i := range b {
		b[i] = byte(i)
	}
	return b
}

func TestSum(t *testing.T) {
	k := Key(counting(16))
	// The test vectors of the authors' reference implementation.
	want := map[int]uint64{
		0: 0x726fdb47dd0e0e31, 1: 0x74f839c593dc67fd, 2: 0x0d6c8009d9a94f5a, 3: 0x85676696d7fb7e2d, 4: 0xcf2794e0277187b7,
		5: 0x18765564cd99a68d, 6: 0xcbc9466e58fee3ce, 7: 0xab0200f58b01d137, 8: 0x93f5f5799a932462, 9: 0x9e0082df0ba9e4b0,
		15: 0xa129ca6149be45e5,
	}
	for n, s := range want {
		if got := Sum(k, counting(n)); got != s {
			t.Errorf("%d bytes: %x, not %x", n, got, s)
		}
	}
	if Sum(Key{}, nil) != 0x1e924b9d737700d7 {
		t.Errorf("the zero key: %x", Sum(Key{}, nil))
	}
}

func TestSumOfLongTextsCountsTheirLengthModulo256(t *testing.T) {
	k := Key(counting(16))
	seen := map[uint64]int{}
	for _, n := range []int{0, 8, 255, 256, 257, 512, 1024} {
		s := Sum(k, make([]byte, n))
		if m, ok := seen[s]; ok {
			t.Error("the same sum:", n, m)
		}
		seen[s] = n
	}
}

func TestOf(t *testing.T) {
	if Of(0x0001020304050607, 0x08090a0b0c0d0e0f) != Key(counting(16)) || Of(0, 0) != (Key{}) {
		t.Error("Of")
	}
}

func TestDerive(t *testing.T) {
	k := Key(counting(16))
	use := []byte{1, 2, 3, 4, 5, 6, 7, 8}
	want := Of(Sum(k, append([]byte{1}, use...)), Sum(k, append([]byte{2}, use...)))
	if Derive(k, 0x0102030405060708) != want {
		t.Error("Derive")
	}
	if Derive(k, 1) == Derive(k, 2) || Derive(k, 1) == Derive(Key{}, 1) {
		t.Error("keys of different uses are the same")
	}
}

func TestFold(t *testing.T) {
	n := uint64(0xfedcba9876543210)
	cases := map[int]uint64{1: 0, 5: 0x10, 15: 0x3210, 40: 0x9876543210, 63: 0x7edcba9876543210, 64: n, 0: n, -1: n, 65: n, math.MinInt: n, math.MaxInt: n}
	for size, want := range cases {
		if got := Fold(n, size); got != want {
			t.Errorf("%d: %x", size, got)
		}
	}
}
