package tunnel_test

import (
	"bytes"
	"testing"

	"counterfoil/addr"
	"counterfoil/api"
	"counterfoil/ip4"
	"counterfoil/ip6"
	. "counterfoil/tunnel"
)

var (
	way4 = Way{Src: addr.V4(10, 0, 1, 1), Dst: addr.V4(10, 0, 2, 1), TTL: 64}
	way6 = Way{Src: addr.V6(0, 1), Dst: addr.V6(0, 2), TTL: 9}
)

func packet4(t *testing.T, h ip4.Header, load []byte) []byte {
	t.Helper()
	if h.Src == (api.Addr{}) {
		h.Src, h.Dst = addr.V4(1, 2, 3, 4), addr.V4(5, 6, 7, 8)
	}
	b, e := ip4.Packet(h, load)
	if e != api.OK {
		t.Fatal(e)
	}
	return b
}

func packet6(t *testing.T, next uint8, load []byte) []byte {
	t.Helper()
	b, e := ip6.Packet(ip6.Header{Next: next, Hops: 3, Src: addr.V6(1, 2), Dst: addr.V6(3, 4)}, load)
	if e != api.OK {
		t.Fatal(e)
	}
	return b
}

func TestSix(t *testing.T) {
	if six, e := Six(nil); six || e != api.ErrShort {
		t.Error(six, e)
	}
	for n := range 256 {
		six, e := Six([]byte{byte(n)})
		switch n >> 4 {
		case 4:
			if six || e != api.OK {
				t.Error(n, six, e)
			}
		case 6:
			if !six || e != api.OK {
				t.Error(n, six, e)
			}
		default:
			if six || e != api.ErrForm {
				t.Error(n, six, e)
			}
		}
	}
}

func TestRightAndCost(t *testing.T) {
	mixed := Way{Src: way4.Src, Dst: way6.Dst, TTL: 1}
	dead := way4
	dead.TTL = 0
	if !way4.Right() || !way6.Right() || mixed.Right() || dead.Right() || (Way{Src: way6.Src, Dst: way4.Dst, TTL: 1}).Right() {
		t.Error("Right")
	}
	if way4.Cost() != 20 || way6.Cost() != 40 || mixed.Cost() != 40 {
		t.Error("Cost")
	}
}

func TestWrap4(t *testing.T) {
	for _, stay := range []bool{true, false} {
		inner := packet4(t, ip4.Header{TTL: 5, Proto: 99, Stay: stay, Tos: 3, ID: 77}, nil)
		b, e := way4.Wrap(inner)
		if e != api.OK || len(b) != 40 {
			t.Fatal(b, e)
		}
		want, _ := ip4.Packet(ip4.Header{Stay: stay, TTL: 64, Proto: 4, Src: way4.Src, Dst: way4.Dst}, inner)
		if !bytes.Equal(b, want) {
			t.Errorf("%x\n%x", b, want)
		}
	}
	inner := packet6(t, 99, []byte("x"))
	b, e := way4.Wrap(inner)
	want, _ := ip4.Packet(ip4.Header{Stay: true, TTL: 64, Proto: 41, Src: way4.Src, Dst: way4.Dst}, inner)
	if e != api.OK || !bytes.Equal(b, want) {
		t.Error(b, e)
	}
}

func TestWrap6(t *testing.T) {
	for next, inner := range map[uint8][]byte{4: packet4(t, ip4.Header{TTL: 5}, []byte("abc")), 41: packet6(t, 99, nil)} {
		b, e := way6.Wrap(inner)
		want, _ := ip6.Packet(ip6.Header{Next: next, Hops: 9, Src: way6.Src, Dst: way6.Dst}, inner)
		if e != api.OK || !bytes.Equal(b, want) {
			t.Error(b, e)
		}
	}
	if b, e := way6.Wrap([]byte{0x45}); e != api.OK || len(b) != 41 {
		t.Error("IPv6 tunnels do not look into what they carry:", e)
	}
}

func TestWrapErrors(t *testing.T) {
	inner := packet4(t, ip4.Header{TTL: 5}, nil)
	broken := bytes.Clone(inner)
	broken[11] ^= 1
	odd := Way{Src: way4.Src, Dst: way6.Dst, TTL: 1}
	invalid := Way{Src: api.Addr{High: 1}, Dst: way4.Dst, TTL: 1}
	big := packet4(t, ip4.Header{TTL: 5}, make([]byte, 65515))
	cases := []struct {
		w    Way
		b    []byte
		want api.Errno
	}{
		{Way{}, nil, api.ErrShort},
		{Way{}, []byte{0x50}, api.ErrForm},
		{odd, inner, api.ErrArg},
		{Way{Src: way4.Src, Dst: way4.Dst}, broken, api.ErrArg},
		{way4, broken, api.ErrSum},
		{way4, inner[:19], api.ErrShort},
		{way4, big, api.ErrLong},
		{way6, append(big, 1), api.ErrLong},
		{way4, append([]byte{0x60}, make([]byte, 65515)...), api.ErrLong},
		{invalid, inner, api.ErrArg},
		{invalid, broken, api.ErrSum},
	}
	for i, c := range cases {
		if b, e := c.w.Wrap(c.b); e != c.want || len(b) != 0 {
			t.Error(i, len(b), e)
		}
	}
}

func TestUnwrapInvertsWrap(t *testing.T) {
	for _, w := range []Way{way4, way6} {
		for _, inner := range [][]byte{packet4(t, ip4.Header{TTL: 5}, []byte("abc")), packet6(t, 99, []byte("d"))} {
			b, e := w.Wrap(inner)
			if e != api.OK {
				t.Fatal(e)
			}
			got, way, e := Unwrap(b)
			if e != api.OK || !bytes.Equal(got, inner) || way != w {
				t.Error(got, way, e)
			}
			got, way, e = Unwrap(append(b, 9, 9))
			if e != api.OK || !bytes.Equal(got, inner) || way != w {
				t.Error("bytes behind the packet:", got, way, e)
			}
		}
	}
}

func TestUnwrapErrors(t *testing.T) {
	inner4, inner6 := packet4(t, ip4.Header{TTL: 5}, nil), packet6(t, 99, nil)
	broken := packet4(t, ip4.Header{Proto: 4}, inner4)
	broken[11] ^= 1
	cases := []struct {
		b    []byte
		want api.Errno
	}{
		{nil, api.ErrShort},
		{[]byte{0x10}, api.ErrForm},
		{inner4[:10], api.ErrShort},
		{inner6[:39], api.ErrShort},
		{broken, api.ErrSum},
		{packet4(t, ip4.Header{Proto: 4, More: true}, inner4), api.ErrForm},
		{packet4(t, ip4.Header{Proto: 6, Offset: 1}, inner4), api.ErrForm},
		{packet4(t, ip4.Header{Proto: 6}, inner4), api.ErrNone},
		{packet4(t, ip4.Header{Proto: 17}, nil), api.ErrNone},
		{packet6(t, 6, inner6), api.ErrNone},
		{packet4(t, ip4.Header{Proto: 4}, nil), api.ErrShort},
		{packet6(t, 41, nil), api.ErrShort},
		{packet4(t, ip4.Header{Proto: 4}, []byte{0x70}), api.ErrForm},
		{packet4(t, ip4.Header{Proto: 41}, inner4), api.ErrForm},
		{packet4(t, ip4.Header{Proto: 4}, inner6), api.ErrForm},
		{packet6(t, 41, inner4), api.ErrForm},
		{packet6(t, 4, inner6), api.ErrForm},
	}
	for i, c := range cases {
		if b, w, e := Unwrap(c.b); e != c.want || len(b) != 0 || w != (Way{}) {
			t.Error(i, b, w, e)
		}
	}
}
