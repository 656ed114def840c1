package varint_test

import (
	"bytes"
	"math"
	"math/rand"
	"slices"
	"testing"

	"counterfoil/api"
	. "counterfoil/varint"
)

func TestSizeAndPut(t *testing.T) {
	cases := []struct {
		n    uint64
		want []byte
	}{
		{0, []byte{0}}, {37, []byte{0x25}}, {63, []byte{0x3f}}, {64, []byte{0x40, 0x40}}, {15293, []byte{0x7b, 0xbd}}, {16383, []byte{0x7f, 0xff}},
		{16384, []byte{0x80, 0, 0x40, 0}}, {494878333, []byte{0x9d, 0x7f, 0x3e, 0x7d}}, {1<<30 - 1, []byte{0xbf, 0xff, 0xff, 0xff}},
		{1 << 30, []byte{0xc0, 0, 0, 0, 0x40, 0, 0, 0}}, {151288809941952652, []byte{0xc2, 0x19, 0x7c, 0x5e, 0xff, 0x14, 0xe8, 0x8c}},
		{Most, []byte{0xff, 0xff, 0xff, 0xff, 0xff, 0xff, 0xff, 0xff}},
	}
	for _, c := range cases {
		if Size(c.n) != len(c.want) {
			t.Error(c.n, Size(c.n))
		}
		got, e := Put([]byte{9}, c.n)
		if e != api.OK || !bytes.Equal(got, append([]byte{9}, c.want...)) {
			t.Errorf("%d: %x", c.n, got)
		}
		n, rest, e := Take(append(bytes.Clone(c.want), 7, 8))
		if n != c.n || !bytes.Equal(rest, []byte{7, 8}) || e != api.OK {
			t.Error(n, rest, e)
		}
	}
	for _, n := range []uint64{Most + 1, math.MaxUint64} {
		if got, e := Put([]byte{9}, n); Size(n) != 0 || len(got) != 0 || e != api.ErrLong {
			t.Error(n, got, e)
		}
	}
}

func TestConstants(t *testing.T) {
	if Most != 4611686018427387903 {
		t.Error("constants")
	}
}

func TestTake(t *testing.T) {
	for _, b := range [][]byte{nil, {0x40}, {0x80, 0, 0}, {0xc0, 0, 0, 0, 0, 0, 0}} {
		if n, rest, e := Take(b); n != 0 || len(rest) != 0 || e != api.ErrShort {
			t.Error(b, n, rest, e)
		}
	}
	// More bytes than necessary.
	if n, rest, e := Take([]byte{0x40, 0x25}); n != 37 || len(rest) != 0 || e != api.OK {
		t.Error(n, rest, e)
	}
	if n, _, e := Take([]byte{0xc0, 0, 0, 0, 0, 0, 0, 5}); n != 5 || e != api.OK {
		t.Error(n, e)
	}
	b := []byte{1, 2, 3}
	_, rest, _ := Take(b)
	rest[0] = 9
	if b[1] != 2 {
		t.Error("shared memory")
	}
}

func TestAll(t *testing.T) {
	if l, e := All([]byte{1, 0x7b, 0xbd, 0x40, 0x25}); !slices.Equal(l, []uint64{1, 15293, 37}) || e != api.OK {
		t.Error(l, e)
	}
	if l, e := All(nil); len(l) != 0 || e != api.OK {
		t.Error(l, e)
	}
	if l, e := All([]byte{1, 2, 0x7b}); len(l) != 0 || e != api.ErrShort {
		t.Error(l, e)
	}
}

func TestBits(t *testing.T) {
	cases := []struct {
		n, acked uint64
		size     int
	}{
		{1, 0, 1}, {128, 0, 1}, {129, 0, 2}, {32768, 0, 2}, {32769, 0, 3}, {1 << 23, 0, 3}, {1<<23 + 1, 0, 4}, {1 << 31, 0, 4},
		{0xac5c02, 0xabe8b3, 2}, {0xace8fe, 0xabe8b3, 3}, {Most, Most - 1, 1}, {Most, Most - 1<<31, 4},
	}
	for _, c := range cases {
		if size, e := Bits(c.n, c.acked); size != c.size || e != api.OK {
			t.Error(c, size, e)
		}
	}
	for _, c := range [][2]uint64{{0, 0}, {5, 5}, {5, 6}, {1<<31 + 1, 0}, {Most, 0}, {Most + 1, Most}, {math.MaxUint64, math.MaxUint64 - 1}} {
		if size, e := Bits(c[0], c[1]); size != 0 || e != api.ErrArg {
			t.Error(c, size, e)
		}
	}
}

func TestExpand(t *testing.T) {
	cases := []struct {
		expected, told uint64
		size           int
		want           uint64
	}{
		{0xa82f30eb, 0x9b32, 2, 0xa82f9b32}, {0, 0, 1, 0}, {0, 255, 1, 255}, {0x100, 0x80, 1, 0x180}, {0x100, 0x81, 1, 0x81}, {0x17f, 0xff, 1, 0x1ff}, {0x17e, 0xff, 1, 0xff},
		{0x180, 0, 1, 0x200}, {0x17f, 0, 1, 0x100}, {0x1ff, 0, 1, 0x200}, {0x200, 0xff, 1, 0x1ff},
		{Most, 0, 1, Most - 255}, {Most, 0xffffffff, 4, Most}, {Most - 256, 0, 1, Most - 255}, {5, 0xffffffff, 4, 0xffffffff},
	}
	for _, c := range cases {
		if got, e := Expand(c.expected, c.told, c.size); got != c.want || e != api.OK {
			t.Errorf("%x %x %d: %x, not %x", c.expected, c.told, c.size, got, c.want)
		}
	}
	bad := []struct {
		expected, told uint64
		size           int
	}{{0, 0, 0}, {0, 0, 5}, {0, 0, -1}, {0, 0, math.MinInt}, {Most + 1, 0, 1}, {0, 256, 1}, {0, 1 << 32, 4}}
	for _, c := range bad {
		if got, e := Expand(c.expected, c.told, c.size); got != 0 || e != api.ErrArg {
			t.Error(c, got, e)
		}
	}
}

func TestInverses(t *testing.T) {
	rnd := rand.New(rand.NewSource(35))
	for range 2000 {
		n := rnd.Uint64() >> (2 + rnd.Intn(62))
		b, e := Put(nil, n)
		if got, rest, f := Take(b); got != n || len(rest) != 0 || e != api.OK || f != api.OK {
			t.Fatal(n)
		}
		n = max(n, 1)
		acked := n - 1 - min(n-1, uint64(rnd.Int63n(1<<31))>>rnd.Intn(31))
		size, e := Bits(n, acked)
		if e != api.OK {
			continue
		}
		expected := acked + 1 + uint64(rnd.Int63n(int64(n-acked)))
		for _, x := range []uint64{acked + 1, n, expected} {
			if got, e := Expand(x, n&(1<<(8*size)-1), size); got != n || e != api.OK {
				t.Fatalf("%x %x %x: %x", n, acked, x, got)
			}
		}
	}
}
