package octet_test

import (
	"bytes"
	"math"
	"math/rand"
	"testing"

	"counterfoil/api"
	. "counterfoil/octet"
)

func TestPut(t *testing.T) {
	cases := []struct {
		b    []byte
		n    uint64
		size int
		want []byte
	}{
		{nil, 258, 4, []byte{0, 0, 1, 2}},
		{[]byte{9}, 0x1234, 2, []byte{9, 0x12, 0x34}},
		{[]byte{9}, 0x1234, 1, []byte{9, 0x34}},
		{[]byte{9}, 5, 0, []byte{9}},
		{[]byte{9}, 5, -3, []byte{9}},
		{nil, 0x0102030405060708, 8, []byte{1, 2, 3, 4, 5, 6, 7, 8}},
		{nil, 0x0102030405060708, 11, []byte{1, 2, 3, 4, 5, 6, 7, 8}},
	}
	for _, c := range cases {
		if got := Put(c.b, c.n, c.size); !bytes.Equal(got, c.want) {
			t.Errorf("Put(%v, %d, %d) = %v", c.b, c.n, c.size, got)
		}
	}
}

func TestPutLeavesSpareCapacity(t *testing.T) {
	b := []byte{1, 2, 3, 4}
	out := Put(b[:2], 0xffff, 2)
	if b[2] != 3 || b[3] != 4 {
		t.Error("the spare capacity was overwritten")
	}
	out[0] = 77
	if b[0] != 1 {
		t.Error("the result shares memory with its argument")
	}
}

func TestSet(t *testing.T) {
	b := []byte{1, 2, 3, 4}
	got, e := Set(b, 1, 0xabcd, 2)
	if e != api.OK || !bytes.Equal(got, []byte{1, 0xab, 0xcd, 4}) || !bytes.Equal(b, []byte{1, 2, 3, 4}) {
		t.Error(got, e, b)
	}
	if got, e := Set(b, 0, 7, 4); e != api.OK || !bytes.Equal(got, []byte{0, 0, 0, 7}) {
		t.Error(got, e)
	}
	if got, e := Set(b, 3, 7, 1); e != api.OK || !bytes.Equal(got, []byte{1, 2, 3, 7}) {
		t.Error(got, e)
	}
	bad := [][2]int{{0, 0}, {0, 9}, {0, -1}, {-1, 1}, {4, 1}, {3, 2}, {0, 5}, {math.MaxInt, 8}, {math.MinInt, 1}}
	for _, c := range bad {
		if got, e := Set(b, c[0], 7, c[1]); e != api.ErrShort || len(got) != 0 {
			t.Errorf("Set at %d of size %d: %v, %d", c[0], c[1], got, e)
		}
	}
}

func TestSetOfTooManyBytes(t *testing.T) {
	for _, size := range []int{9, 10, 20, math.MaxInt} {
		if got, e := Set(make([]byte, 20), 0, 7, size); e != api.ErrShort || len(got) != 0 {
			t.Error(size, got, e)
		}
	}
	if got, e := Set(make([]byte, 20), 12, 7, 8); e != api.OK || got[19] != 7 {
		t.Error(got, e)
	}
}

func TestEqual(t *testing.T) {
	if !Equal(nil, []byte{}) || !Equal([]byte{1, 2}, []byte{1, 2}) || Equal([]byte{1}, []byte{1, 2}) || Equal([]byte{1}, []byte{2}) {
		t.Error("Equal")
	}
}

func TestReader(t *testing.T) {
	r := Read([]byte{1, 2, 3, 4, 5, 6, 7, 8, 9, 10, 11, 12})
	if r.Byte() != 1 || r.Word() != 0x0203 || r.Long() != 0x04050607 || r.Num(3) != 0x08090a || r.Left() != 2 {
		t.Error("numbers")
	}
	if r.Num(0) != 0 || r.Left() != 2 || r.Bad() {
		t.Error("a number of no bytes")
	}
	if !bytes.Equal(r.Bytes(1), []byte{11}) || !bytes.Equal(r.Rest(), []byte{12}) || r.Left() != 0 || r.Bad() {
		t.Error("bytes")
	}
	if len(r.Rest()) != 0 || len(r.Bytes(0)) != 0 || r.Bad() {
		t.Error("nothing is left, and nothing was missing")
	}
}

func TestReaderTurnsBad(t *testing.T) {
	asks := []func(r *Reader) bool{
		func(r *Reader) bool { return r.Num(4) == 0 },
		func(r *Reader) bool { return r.Num(9) == 0 },
		func(r *Reader) bool { return r.Num(-1) == 0 },
		func(r *Reader) bool { return r.Long() == 0 },
		func(r *Reader) bool { return len(r.Bytes(4)) == 0 },
		func(r *Reader) bool { return len(r.Bytes(-1)) == 0 },
		func(r *Reader) bool { return len(r.Bytes(math.MinInt)) == 0 },
	}
	for i, ask := range asks {
		r := Read([]byte{1, 2, 3})
		if !ask(r) || r.Left() != 0 || !r.Bad() {
			t.Error("ask", i)
		}
		if r.Num(0) != 0 || len(r.Rest()) != 0 || r.Byte() != 0 || !r.Bad() {
			t.Error("afterwards", i)
		}
	}
}

func TestSizesThatAreTooGreat(t *testing.T) {
	for _, size := range []int{9, 10, math.MaxInt} {
		r := Read(make([]byte, 20))
		if r.Num(size) != 0 || !r.Bad() || r.Left() != 0 {
			t.Error(size)
		}
	}
}

func TestReaderKeepsNothingOfItsArgument(t *testing.T) {
	b := []byte{1, 2, 3}
	r := Read(b)
	b[0] = 99
	one := r.Bytes(1)
	one = append(one, 55)
	if one[0] != 1 || !bytes.Equal(r.Rest(), []byte{2, 3}) {
		t.Error("shared memory")
	}
}

func TestNilReader(t *testing.T) {
	var r *Reader
	if r.Left() != 0 || !r.Bad() || r.Num(1) != 0 || len(r.Bytes(1)) != 0 || len(r.Rest()) != 0 {
		t.Error("nil")
	}
}

func TestReaderInvertsPut(t *testing.T) {
	rnd := rand.New(rand.NewSource(1))
	for range 200 {
		var b []byte
		var nums []uint64
		var sizes []int
		for range rnd.Intn(8) {
			size := rnd.Intn(9)
			n := rnd.Uint64()
			if size < 8 {
				n &= 1<<(8*size) - 1
			}
			b = Put(b, n, size)
			nums, sizes = append(nums, n), append(sizes, size)
		}
		r := Read(b)
		for i, size := range sizes {
			if r.Num(size) != nums[i] {
				t.Fatal("a number came back changed")
			}
		}
		if r.Left() != 0 || r.Bad() {
			t.Fatal("bytes are left over")
		}
	}
}
