package ip4_test

import (
	"bytes"
	"fmt"
	"math/rand"
	"testing"

	"counterfoil/addr"
	"counterfoil/api"
	. "counterfoil/ip4"
	"counterfoil/sum"
)

// same reports whether two values print alike, as nil slices and empty ones do.
func same(a, b any) bool { return fmt.Sprintf("%+v", a) == fmt.Sprintf("%+v", b) }

func sample() Header {
	return Header{Tos: 3, ID: 0x1234, Stay: true, TTL: 64, Proto: 6, Src: addr.V4(10, 0, 0, 1), Dst: addr.V4(10, 0, 0, 2)}
}

func pack(t *testing.T, h Header, load []byte) []byte {
	t.Helper()
	b, e := Packet(h, load)
	if e != api.OK {
		t.Fatal(e)
	}
	return b
}

// resum makes the header's checksum right again.
func resum(b []byte) []byte {
	size := int(b[0]&15) * 4
	b[10], b[11] = 0, 0
	s := sum.Of(b[:size])
	b[10], b[11] = byte(s>>8), byte(s)
	return b
}

func TestSizeAndFragment(t *testing.T) {
	if (Header{}).Size() != 20 || (Header{Options: make([]byte, 8)}).Size() != 28 {
		t.Error("Size")
	}
	if (Header{Stay: true}).Fragment() || !(Header{More: true}).Fragment() || !(Header{Offset: 1}).Fragment() {
		t.Error("Fragment")
	}
}

func TestRight(t *testing.T) {
	change := func(f func(h *Header)) Header {
		h := sample()
		h.Length = 20
		f(&h)
		return h
	}
	good := []Header{
		change(func(h *Header) {}),
		change(func(h *Header) { h.Length = 65535 }),
		change(func(h *Header) { h.Offset = 8191 }),
		change(func(h *Header) { h.Options, h.Length = make([]byte, 40), 60 }),
	}
	for i, h := range good {
		if !h.Right() || len(h.Bytes()) != h.Size() {
			t.Error("good", i)
		}
	}
	bad := []Header{
		change(func(h *Header) { h.Length = 19 }),
		change(func(h *Header) { h.Length = -1 }),
		change(func(h *Header) { h.Length = 65536 }),
		change(func(h *Header) { h.Offset = -1 }),
		change(func(h *Header) { h.Offset = 8192 }),
		change(func(h *Header) { h.Options, h.Length = make([]byte, 44), 64 }),
		change(func(h *Header) { h.Options, h.Length = make([]byte, 3), 64 }),
		change(func(h *Header) { h.Options, h.Length = make([]byte, 8), 27 }),
		change(func(h *Header) { h.Src = addr.V6(0, 1) }),
		change(func(h *Header) { h.Dst = addr.V6(0, 1) }),
		change(func(h *Header) { h.Src = api.Addr{High: 1} }),
		change(func(h *Header) { h.Dst = api.Addr{Low: 1 << 32} }),
	}
	for i, h := range bad {
		if h.Right() || len(h.Bytes()) != 0 {
			t.Error("bad", i)
		}
	}
}

func TestBytes(t *testing.T) {
	h := Header{Tos: 0x12, Length: 0x73, ID: 0x3456, Stay: true, More: true, Offset: 0x1234 & 8191, TTL: 64, Proto: 17, Sum: 99,
		Src: addr.V4(192, 168, 0, 1), Dst: addr.V4(192, 168, 0, 199), Options: []byte{1, 2, 3, 4}}
	want := []byte{0x46, 0x12, 0, 0x73, 0x34, 0x56, 0x72, 0x34, 64, 17, 0, 0, 192, 168, 0, 1, 192, 168, 0, 199, 1, 2, 3, 4}
	if !bytes.Equal(h.Bytes(), resum(want)) {
		t.Errorf("%x\n%x", h.Bytes(), want)
	}
	plain := Header{Length: 0x73, Stay: true, TTL: 0x40, Proto: 0x11, Src: addr.V4(192, 168, 0, 1), Dst: addr.V4(192, 168, 0, 199)}
	if b := plain.Bytes(); b[10] != 0xB8 || b[11] != 0x61 {
		t.Errorf("the checksum of the document's example: %x", b)
	}
}

func TestParse(t *testing.T) {
	h := sample()
	h.Options = []byte{1, 1, 1, 0}
	b := pack(t, h, []byte("hello"))
	got, load, e := Parse(append(bytes.Clone(b), 9, 9, 9))
	h.Length, h.Sum = 29, uint16(b[10])<<8|uint16(b[11])
	if e != api.OK || string(load) != "hello" || !same(got, h) {
		t.Error(got, load, e)
	}
	got, load, _ = Parse(b)
	got.Options[0] = 7
	load[0] = 7
	if b[20] != 1 || b[24] != 'h' {
		t.Error("the result shares memory with the packet")
	}
	for _, n := range []int{255, 256, 0x1234, 65535 - 24} {
		if got, load, e := Parse(pack(t, h, make([]byte, n))); e != api.OK || len(load) != n || got.Length != n+24 {
			t.Error(n, got.Length, e)
		}
	}
}

func TestParseErrors(t *testing.T) {
	good := pack(t, sample(), []byte{1, 2, 3, 4})
	change := func(at int, x byte) []byte {
		b := bytes.Clone(good)
		b[at] = x
		return resum(b)
	}
	wrong := bytes.Clone(good)
	wrong[11] ^= 1
	cases := []struct {
		b    []byte
		want api.Errno
	}{
		{nil, api.ErrShort},
		{good[:19], api.ErrShort},
		{bytes.Repeat([]byte{0xff}, 19), api.ErrShort},
		{change(0, 0x65), api.ErrForm},
		{append([]byte{0x44}, good[1:]...), api.ErrForm},
		{change(6, 0xc0), api.ErrForm},
		{change(3, 19), api.ErrForm},
		{append([]byte{0x47}, good[1:]...), api.ErrForm},
		{good[:23], api.ErrShort},
		{good[:20], api.ErrShort},
		{wrong, api.ErrSum},
		{wrong[:23], api.ErrShort},
	}
	for i, c := range cases {
		h, load, e := Parse(c.b)
		if e != c.want || len(load) != 0 || !same(h, Header{}) {
			t.Error(i, h, load, e)
		}
	}
	big := sample()
	big.Options = make([]byte, 40)
	b := pack(t, big, nil)
	if _, _, e := Parse(b[:59]); e != api.ErrShort {
		t.Error("a header that is cut off:", e)
	}
}

func TestPacketErrors(t *testing.T) {
	h := sample()
	if b, e := Packet(h, make([]byte, 65515)); e != api.OK || len(b) != 65535 {
		t.Error(len(b), e)
	}
	if b, e := Packet(h, make([]byte, 65516)); e != api.ErrLong || len(b) != 0 {
		t.Error(len(b), e)
	}
	h.Src = addr.V6(0, 1)
	if b, e := Packet(h, nil); e != api.ErrArg || len(b) != 0 {
		t.Error(len(b), e)
	}
	if _, e := Packet(h, make([]byte, 65516)); e != api.ErrLong {
		t.Error("ErrLong comes first:", e)
	}
	h = sample()
	h.Options = make([]byte, 5)
	if _, e := Packet(h, nil); e != api.ErrArg {
		t.Error(e)
	}
}

func TestOlder(t *testing.T) {
	b := pack(t, sample(), []byte("load"))
	was := bytes.Clone(b)
	got, e := Older(b)
	if e != api.OK || got[8] != 63 || !bytes.Equal(b, was) {
		t.Error(got, e)
	}
	if !bytes.Equal(got[12:], b[12:]) || !bytes.Equal(got[:8], b[:8]) || got[9] != b[9] {
		t.Error("something else changed")
	}
	if s := sum.Update(uint16(b[10])<<8|uint16(b[11]), 64<<8|6, 63<<8|6); got[10] != byte(s>>8) || got[11] != byte(s) {
		t.Errorf("%x", got)
	}
	long := append(bytes.Clone(b), 7, 7)
	if got, _ := Older(long); !bytes.Equal(got[24:], []byte{7, 7}) {
		t.Error("the bytes that follow the packet are gone")
	}
	for ttl, want := range map[uint8]api.Errno{0: api.ErrNone, 1: api.ErrNone, 2: api.OK, 255: api.OK} {
		h := sample()
		h.TTL = ttl
		if got, e := Older(pack(t, h, nil)); e != want || e != api.OK && len(got) != 0 {
			t.Error(ttl, got, e)
		}
	}
	if _, e := Older(b[:10]); e != api.ErrShort {
		t.Error(e)
	}
	b[12] ^= 1
	if _, e := Older(b); e != api.ErrSum {
		t.Error(e)
	}
}

func TestParseInvertsPacketAndOlderKeepsIt(t *testing.T) {
	rnd := rand.New(rand.NewSource(4))
	for range 300 {
		h := Header{Tos: uint8(rnd.Uint32()), ID: uint16(rnd.Uint32()), Stay: rnd.Intn(2) == 0, More: rnd.Intn(2) == 0,
			Offset: rnd.Intn(8192), TTL: uint8(rnd.Uint32()), Proto: uint8(rnd.Uint32()),
			Src: api.Addr{Low: uint64(rnd.Uint32())}, Dst: api.Addr{Low: uint64(rnd.Uint32())}, Options: make([]byte, 4*rnd.Intn(11))}
		rnd.Read(h.Options)
		load := make([]byte, rnd.Intn(50))
		rnd.Read(load)
		b := pack(t, h, load)
		got, rest, e := Parse(b)
		if e != api.OK || !bytes.Equal(rest, load) || got.Length != len(b) {
			t.Fatal(got, e)
		}
		h.Length, h.Sum = got.Length, got.Sum
		if !bytes.Equal(got.Options, h.Options) {
			t.Fatal("options")
		}
		got.Options, h.Options = nil, nil
		if !same(got, h) {
			t.Fatal(got, h)
		}
		if old, e := Older(b); e == api.OK {
			if _, _, e := Parse(old); e != api.OK {
				t.Fatal("Older:", e)
			}
		}
	}
}
