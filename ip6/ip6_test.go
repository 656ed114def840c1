package ip6_test

import (
	"bytes"
	"math/rand"
	"testing"

	"counterfoil/addr"
	"counterfoil/api"
	. "counterfoil/ip6"
)

func sample() Header {
	return Header{Class: 0xab, Label: 0xcdef1, Next: 17, Hops: 5, Src: addr.V6(1, 2), Dst: addr.V6(3, 4)}
}

func pack(t *testing.T, h Header, load []byte) []byte {
	t.Helper()
	b, e := Packet(h, load)
	if e != api.OK {
		t.Fatal(e)
	}
	return b
}

func TestRight(t *testing.T) {
	change := func(f func(h *Header)) Header {
		h := sample()
		f(&h)
		return h
	}
	good := []Header{sample(), change(func(h *Header) { h.Label = MostLabel }), change(func(h *Header) { h.Length = 65535 })}
	for i, h := range good {
		if !h.Right() || len(h.Bytes()) != Size {
			t.Error("good", i)
		}
	}
	bad := []Header{
		{},
		change(func(h *Header) { h.Label = MostLabel + 1 }),
		change(func(h *Header) { h.Length = -1 }),
		change(func(h *Header) { h.Length = 65536 }),
		change(func(h *Header) { h.Src = addr.V4(1, 2, 3, 4) }),
		change(func(h *Header) { h.Dst = addr.V4(1, 2, 3, 4) }),
	}
	for i, h := range bad {
		if h.Right() || len(h.Bytes()) != 0 {
			t.Error("bad", i)
		}
	}
}

func TestBytes(t *testing.T) {
	h := sample()
	h.Length = 0x0102
	want := []byte{0x6a, 0xbc, 0xde, 0xf1, 1, 2, 17, 5}
	want = append(want, addr.Bytes(h.Src)...)
	want = append(want, addr.Bytes(h.Dst)...)
	if !bytes.Equal(h.Bytes(), want) {
		t.Errorf("%x", h.Bytes())
	}
}

func TestParse(t *testing.T) {
	h := sample()
	b := append(pack(t, h, []byte("abc")), 9, 9)
	got, load, e := Parse(b)
	h.Length = 3
	if e != api.OK || got != h || string(load) != "abc" {
		t.Error(got, load, e)
	}
	load[0] = 7
	if b[40] != 'a' {
		t.Error("the result shares memory with the packet")
	}
	five := bytes.Clone(b)
	five[0] = 0x50
	cases := []struct {
		b    []byte
		want api.Errno
	}{
		{nil, api.ErrShort}, {five[:39], api.ErrShort}, {five, api.ErrForm}, {five[:40], api.ErrForm}, {b[:40], api.ErrShort}, {b[:42], api.ErrShort},
	}
	for i, c := range cases {
		if h, load, e := Parse(c.b); e != c.want || h != (Header{}) || len(load) != 0 {
			t.Error(i, h, load, e)
		}
	}
}

func TestPacket(t *testing.T) {
	if b := pack(t, sample(), []byte{1}); len(b) != 41 || b[40] != 1 || b[5] != 1 {
		t.Error(b)
	}
	if b, e := Packet(sample(), make([]byte, 65535)); e != api.OK || len(b) != 65575 {
		t.Error(len(b), e)
	}
	h := sample()
	h.Src = addr.V4(1, 2, 3, 4)
	if b, e := Packet(h, make([]byte, 65536)); e != api.ErrLong || len(b) != 0 {
		t.Error(len(b), e)
	}
	if b, e := Packet(h, nil); e != api.ErrArg || len(b) != 0 {
		t.Error(len(b), e)
	}
}

func TestOlder(t *testing.T) {
	b := append(pack(t, sample(), []byte{1}), 9)
	got, e := Older(b)
	if e != api.OK || got[7] != 4 || b[7] != 5 || !bytes.Equal(got[8:], b[8:]) || !bytes.Equal(got[:7], b[:7]) {
		t.Error(got, e)
	}
	for hops, want := range map[uint8]api.Errno{0: api.ErrNone, 1: api.ErrNone, 2: api.OK, 255: api.OK} {
		h := sample()
		h.Hops = hops
		if got, e := Older(pack(t, h, nil)); e != want || e != api.OK && len(got) != 0 {
			t.Error(hops, got, e)
		}
	}
	if _, e := Older(b[:40]); e != api.ErrShort {
		t.Error(e)
	}
	b[0] = 0
	if _, e := Older(b); e != api.ErrForm {
		t.Error(e)
	}
}

func TestExtended(t *testing.T) {
	want := map[uint8]bool{0: true, 43: true, 44: true, 60: true, 135: true, 139: true, 140: true}
	for n := range 256 {
		if Extended(uint8(n)) != want[uint8(n)] {
			t.Error(n)
		}
	}
}

func TestPseudo(t *testing.T) {
	got := Pseudo(addr.V4(1, 2, 3, 4), addr.V4(5, 6, 7, 8), 6, 0x1234)
	if !bytes.Equal(got, []byte{1, 2, 3, 4, 5, 6, 7, 8, 0, 6, 0x12, 0x34}) {
		t.Error(got)
	}
	a, b := addr.V6(1, 2), addr.V6(3, 4)
	want := append(append(addr.Bytes(a), addr.Bytes(b)...), 0, 0, 0x12, 0x34, 0, 0, 0, 58)
	if got := Pseudo(a, b, 58, 0x1234); !bytes.Equal(got, want) {
		t.Error(got)
	}
}

func TestParseInvertsPacket(t *testing.T) {
	rnd := rand.New(rand.NewSource(5))
	for range 200 {
		h := Header{Class: uint8(rnd.Uint32()), Label: rnd.Uint32() & MostLabel, Next: uint8(rnd.Uint32()), Hops: uint8(rnd.Uint32()),
			Src: addr.V6(rnd.Uint64(), rnd.Uint64()), Dst: addr.V6(rnd.Uint64(), rnd.Uint64())}
		load := make([]byte, rnd.Intn(60))
		rnd.Read(load)
		got, rest, e := Parse(pack(t, h, load))
		h.Length = len(load)
		if e != api.OK || got != h || !bytes.Equal(rest, load) {
			t.Fatal(got, h, e)
		}
	}
}

func TestConstants(t *testing.T) {
	if Size != 40 || MostLabel != 1048575 {
		t.Error("constants")
	}
}
