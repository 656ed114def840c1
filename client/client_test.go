package client_test

import (
	"bytes"
	"math/rand"
	"testing"

	"counterfoil/addr"
	"counterfoil/api"
	. "counterfoil/client"
	"counterfoil/cookie"
	"counterfoil/icmp"
	"counterfoil/ip4"
	"counterfoil/ip6"
	"counterfoil/octet"
	"counterfoil/packet"
	"counterfoil/tcp"
	"counterfoil/udp"
)

var (
	tcp4 = api.Flow{Src: addr.V4(1, 2, 3, 4), Dst: addr.V4(9, 9, 9, 9), SrcPort: 0x0102, DstPort: 80, Proto: api.TCP}
	udp4 = api.Flow{Src: addr.V4(1, 2, 3, 4), Dst: addr.V4(9, 9, 9, 9), SrcPort: 0x0102, DstPort: 80, Proto: api.UDP}
	tcp6 = api.Flow{Src: addr.V6(1, 2), Dst: addr.V6(9, 9), SrcPort: 0x0102, DstPort: 80, Proto: api.TCP}
	udp6 = api.Flow{Src: addr.V6(1, 2), Dst: addr.V6(9, 0x1122334455667788), SrcPort: 0x0102, DstPort: 80, Proto: api.UDP}
)

func pack(t *testing.T, f api.Flow, load []byte) []byte {
	t.Helper()
	var b []byte
	var e api.Errno
	if f.Src.Six {
		b, e = ip6.Packet(ip6.Header{Next: f.Proto, Hops: 64, Src: f.Src, Dst: f.Dst}, load)
	} else {
		b, e = ip4.Packet(ip4.Header{Stay: true, TTL: 64, Proto: f.Proto, Src: f.Src, Dst: f.Dst}, load)
	}
	if e != api.OK {
		t.Fatal(e)
	}
	return b
}

func stamps(val, echo uint32) []byte {
	return octet.Put(octet.Put([]byte{1, 1, 8, 10}, uint64(val), 4), uint64(echo), 4)
}

// answer returns a segment to the client with a timestamp.
func answer(t *testing.T, f api.Flow, val uint32) []byte {
	t.Helper()
	back := addr.Back(f)
	return pack(t, back, tcp.Segment{SrcPort: back.SrcPort, DstPort: back.DstPort, Flags: tcp.ACK, Options: stamps(val, 5)}.Summed(back.Src, back.Dst).Bytes())
}

func give(t *testing.T, f api.Flow, load []byte) []byte {
	t.Helper()
	back := addr.Back(f)
	return pack(t, back, udp.Datagram{SrcPort: back.SrcPort, DstPort: back.DstPort, Load: load}.Summed(back.Src, back.Dst).Bytes())
}

func TestSend(t *testing.T) {
	for _, f := range []api.Flow{tcp4, tcp6} {
		c := New(f)
		expect := func(flags uint8, load string, seq, tick, echo uint32) {
			t.Helper()
			s := tcp.Segment{SrcPort: 0x0102, DstPort: 80, Seq: seq, Flags: flags, Window: 65535, Options: stamps(tick, echo), Load: []byte(load)}
			want := pack(t, f, s.Summed(f.Src, f.Dst).Bytes())
			if b, e := c.Send(flags, []byte(load)); e != api.OK || !bytes.Equal(b, want) {
				t.Errorf("%x\n%x", b, want)
			}
		}
		expect(tcp.SYN, "", 0, 0, 0)
		expect(tcp.ACK, "hello", 0, 1, 0)
		if !c.Take(answer(t, f, 0xfedcba98)) {
			t.Error("an answer was not taken")
		}
		expect(tcp.ACK, "you", 5, 2, 0xfedcba98)
		expect(tcp.SYN, "", 8, 3, 0)
		expect(tcp.SYN|tcp.ACK, "", 8, 4, 0xfedcba98)
		if b, e := c.Send(0, make([]byte, 65504)); e != api.ErrArg || len(b) != 0 {
			t.Error(e)
		}
		expect(tcp.RST, "", 8, 5, 0xfedcba98)
	}
	c := New(tcp4)
	if b, e := c.Send(0, make([]byte, 65503)); e != api.ErrLong || len(b) != 0 {
		t.Error(e)
	}
	b, _ := c.Send(0, make([]byte, 65483))
	info, why := packet.Read(b)
	if val, _, _ := info.TCP.Stamp(); why != packet.Fine || val != 0 || info.TCP.Seq != 0 {
		t.Error("an error counted:", why)
	}
	for _, load := range [][]byte{nil, make([]byte, 65503), make([]byte, 70000)} {
		if b, e := New(udp4).Send(tcp.SYN, load); e != api.ErrArg || len(b) != 0 {
			t.Error(e)
		}
	}
}

func TestSendQuic(t *testing.T) {
	for _, f := range []api.Flow{udp4, udp6} {
		c := New(f)
		expect := func(load string, body []byte) {
			t.Helper()
			d := udp.Datagram{SrcPort: 0x0102, DstPort: 80, Load: append(body, load...)}
			want := pack(t, f, d.Summed(f.Src, f.Dst).Bytes())
			if b, e := c.SendQuic([]byte(load)); e != api.OK || !bytes.Equal(b, want) {
				t.Errorf("%x\n%x", b, want)
			}
		}
		low := byte(f.Src.Low)
		three := byte(f.Src.Low >> 24)
		long := []byte{0xC0, 0, 0, 0, 1, 8, 0, 0, 1, 2, three, byte(f.Src.Low >> 16), byte(f.Src.Low >> 8), low, 0}
		expect("hi", long)
		expect("", long)
		if !c.Take(give(t, f, []byte{7, 8, 9})) || !bytes.Equal(c.ID(), []byte{7, 8, 9}) {
			t.Error(c.ID())
		}
		expect("hi", []byte{0x40, 7, 8, 9})
		c.ID()[0] = 99
		if !c.Take(give(t, f, nil)) {
			t.Error("an empty datagram was not taken")
		}
		expect("", []byte{0x40, 7, 8, 9})
		if b, e := c.SendQuic(make([]byte, 65524)); e != api.ErrArg || len(b) != 0 {
			t.Error(e)
		}
	}
	if b, e := New(udp4).SendQuic(make([]byte, 65500)); e != api.ErrLong || len(b) != 0 {
		t.Error(e)
	}
	if b, e := New(tcp4).SendQuic(nil); e != api.ErrArg || len(b) != 0 {
		t.Error(e)
	}
}

func TestMoves(t *testing.T) {
	c := New(udp4)
	c.Moves(addr.V6(1, 2), 5)
	if c.Flow() != udp4 {
		t.Error("the other family")
	}
	c.Moves(addr.V4(4, 4, 4, 4), 5)
	want := udp4
	want.Src, want.SrcPort = addr.V4(4, 4, 4, 4), 5
	if c.Flow() != want {
		t.Error(c.Flow())
	}
	if c.Take(give(t, udp4, []byte{1})) || !c.Take(give(t, want, []byte{1})) {
		t.Error("packets to the old address are no longer its own")
	}
	six := New(tcp6)
	six.Moves(addr.V6(5, 6), 7)
	if f := six.Flow(); f.Src != addr.V6(5, 6) || f.SrcPort != 7 || f.Dst != tcp6.Dst {
		t.Error(f)
	}
}

func TestTakeRefuses(t *testing.T) {
	c := New(tcp4)
	good := answer(t, tcp4, 9)
	wrong := bytes.Clone(good)
	wrong[len(wrong)-1] ^= 1
	other, from, to := tcp4, tcp4, tcp4
	other.DstPort = 81
	from.Dst = addr.V4(9, 9, 9, 8)
	to.SrcPort = 1
	ping := pack(t, api.Flow{Src: tcp4.Dst, Dst: tcp4.Src, Proto: api.ICMP}, icmp.Message{}.Summed(tcp4.Dst, tcp4.Src).Bytes())
	for i, b := range [][]byte{nil, wrong, good[:30], answer(t, other, 9), answer(t, from, 9), answer(t, to, 9), give(t, udp4, []byte{1}), answer(t, addr.Back(tcp4), 9), ping} {
		x, ok := c.Recent()
		if c.Take(b) || x != 0 || ok || len(c.ID()) != 0 || c.Flow() != tcp4 {
			t.Error(i)
		}
	}
	plain := pack(t, addr.Back(tcp4), tcp.Segment{SrcPort: 80, DstPort: 0x0102}.Summed(tcp4.Dst, tcp4.Src).Bytes())
	if !c.Take(plain) {
		t.Error("a segment without timestamps is the connection's, too")
	}
	if x, ok := c.Recent(); x != 0 || ok || len(c.ID()) != 0 {
		t.Error(x, ok)
	}
}

func TestRecent(t *testing.T) {
	c := New(tcp4)
	steps := []struct{ val, want uint32 }{
		{0x80000000, 0x80000000}, {0x80000005, 0x80000005}, {0x80000001, 0x80000005}, {0x80000005, 0x80000005}, {5, 0x80000005}, {4, 4}, {0xffffffff, 4}, {3, 4},
	}
	for _, s := range steps {
		if !c.Take(answer(t, tcp4, s.val)) {
			t.Error("not taken")
		}
		if got, ok := c.Recent(); got != s.want || !ok {
			t.Errorf("%x: %x", s.val, got)
		}
	}
}

func TestNil(t *testing.T) {
	var c *Client
	c.Moves(addr.V4(1, 1, 1, 1), 1)
	if c.Flow() != (api.Flow{}) || len(c.ID()) != 0 || c.Take(answer(t, tcp4, 1)) {
		t.Error("nil")
	}
	if x, ok := c.Recent(); x != 0 || ok {
		t.Error(x, ok)
	}
	if _, e := c.Send(0, nil); e != api.ErrNil {
		t.Error(e)
	}
	if _, e := c.SendQuic(nil); e != api.ErrNil {
		t.Error(e)
	}
}

func TestRecentNeverGoesBack(t *testing.T) {
	rnd := rand.New(rand.NewSource(30))
	c := New(tcp4)
	c.Take(answer(t, tcp4, rnd.Uint32()))
	for range 500 {
		was, _ := c.Recent()
		c.Take(answer(t, tcp4, was+uint32(rnd.Intn(1<<33)-1<<32)))
		if now, _ := c.Recent(); !cookie.Ahead(was, now) {
			t.Fatalf("%x after %x", now, was)
		}
	}
}
