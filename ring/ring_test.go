package ring_test

import (
	"bytes"
	"math"
	"testing"

	"counterfoil/api"
	. "counterfoil/ring"
	"counterfoil/siphash"
)

var master = siphash.Of(0x0102030405060708, 0x090a0b0c0d0e0f10)

func TestEpochs(t *testing.T) {
	for _, now := range []uint64{0, 1, 2, 7, math.MaxUint64 - 1, math.MaxUint64} {
		r := New(master, now)
		if r.Epoch() != now || r.Bit() != int(now%2) || r.Next().Epoch() != now+1 || r.Next() != New(master, now+1) {
			t.Error(now)
		}
	}
	if New(master, 1) == New(master, 2) || New(master, 1) == New(siphash.Key{}, 1) || New(siphash.Key{}, 0) != (Ring{}) {
		t.Error("rings that are compared")
	}
	if r := New(master, math.MaxUint64).Next(); r.Epoch() != 0 {
		t.Error(r.Epoch())
	}
}

func TestAt(t *testing.T) {
	zero := New(master, 0)
	if k, ok := zero.At(0); !ok || k != siphash.Derive(master, 0) {
		t.Error("epoch 0")
	}
	if k, ok := zero.At(1); ok || k != (siphash.Key{}) {
		t.Error("there is nothing before epoch 0")
	}
	for _, now := range []uint64{1, 2, 9, math.MaxUint64} {
		r := New(master, now)
		if k, ok := r.At(r.Bit()); !ok || k != siphash.Derive(master, now) {
			t.Error("this epoch", now)
		}
		if k, ok := r.At(1 - r.Bit()); !ok || k != siphash.Derive(master, now-1) {
			t.Error("the previous epoch", now)
		}
		for _, bit := range []int{-1, 2, 3, math.MinInt, math.MaxInt} {
			if k, ok := r.At(bit); ok || k != (siphash.Key{}) {
				t.Error("no bit", bit)
			}
		}
	}
}

func TestKeysStayForOneEpoch(t *testing.T) {
	for _, now := range []uint64{0, 1, 2, 1000, math.MaxUint64 - 1} {
		r := New(master, now)
		a, ok := r.At(r.Bit())
		b, still := r.Next().At(r.Bit())
		if !ok || !still || a != b {
			t.Error(now)
		}
		if c, _ := r.Next().Next().At(r.Bit()); c == a {
			t.Error("the key is used twice", now)
		}
	}
}

func TestBytes(t *testing.T) {
	r := New(master, 0x1112131415161718)
	want := []byte{1, 2, 3, 4, 5, 6, 7, 8, 9, 10, 11, 12, 13, 14, 15, 16, 0x11, 0x12, 0x13, 0x14, 0x15, 0x16, 0x17, 0x18}
	b := r.Bytes()
	if !bytes.Equal(b, want) {
		t.Error(b)
	}
	if got, e := Parse(b); got != r || e != api.OK {
		t.Error(got, e)
	}
	for _, n := range []int{0, 16, 23, 25} {
		if got, e := Parse(make([]byte, n)); got != (Ring{}) || e != api.ErrShort {
			t.Error(n, got, e)
		}
	}
}
