package packet_test

import (
	"bytes"
	"fmt"
	"math/rand"
	"testing"

	"counterfoil/addr"
	"counterfoil/api"
	"counterfoil/icmp"
	"counterfoil/ip4"
	"counterfoil/ip6"
	. "counterfoil/packet"
	"counterfoil/tcp"
	"counterfoil/udp"
)

// same reports whether two values print alike, as nil slices and empty ones do.
func same(a, b any) bool { return fmt.Sprintf("%+v", a) == fmt.Sprintf("%+v", b) }

var (
	a4, b4 = addr.V4(1, 2, 3, 4), addr.V4(5, 6, 7, 8)
	a6, b6 = addr.V6(1, 2), addr.V6(3, 4)
)

func pack4(t *testing.T, h ip4.Header, load []byte) []byte {
	t.Helper()
	h.Src, h.Dst = a4, b4
	b, e := ip4.Packet(h, load)
	if e != api.OK {
		t.Fatal(e)
	}
	return b
}

func pack6(t *testing.T, h ip6.Header, load []byte) []byte {
	t.Helper()
	h.Src, h.Dst = a6, b6
	b, e := ip6.Packet(h, load)
	if e != api.OK {
		t.Fatal(e)
	}
	return b
}

func segment() tcp.Segment {
	return tcp.Segment{SrcPort: 11, DstPort: 22, Flags: tcp.SYN, Options: []byte{1, 1, 8, 10, 0, 0, 0, 1, 0, 0, 0, 2}, Load: []byte("hello")}
}

func datagram() udp.Datagram { return udp.Datagram{SrcPort: 33, DstPort: 44, Load: []byte("quic")} }

func message() icmp.Message { return icmp.Message{Type: 8, Word: 7, Load: []byte("ping")} }

func TestNames(t *testing.T) {
	want := []string{"fine", "short", "malformed", "badsum", "fragment", "expired", "noproto", "noservice", "notable", "nobackend", "nokey", "noversion",
		"noslot", "evicted", "toobig", "stranger"}
	for i, name := range want {
		if Name(Reason(i)) != name {
			t.Error(i, Name(Reason(i)))
		}
	}
	for _, r := range []Reason{-1, Reasons, Reasons + 1, -1 << 62} {
		if Name(r) != "" {
			t.Error(r)
		}
	}
	if Stranger != 15 || Reasons != 16 {
		t.Error("numbers")
	}
}

func TestOf(t *testing.T) {
	want := map[api.Errno]Reason{api.OK: Fine, api.ErrShort: Short, api.ErrSum: BadSum, api.ErrTag: NoKey, api.ErrVersion: NoVersion, api.ErrSlot: NoSlot, api.ErrDead: Evicted}
	for e := api.Errno(-1); e < 40; e++ {
		r, ok := want[e]
		if !ok {
			r = Malformed
		}
		if Of(e) != r {
			t.Error(e, Of(e))
		}
	}
}

func TestRead(t *testing.T) {
	s4, d4, m4 := segment().Summed(a4, b4), datagram().Summed(a4, b4), message().Summed(a4, b4)
	s6, d6, m6 := segment().Summed(a6, b6), datagram().Summed(a6, b6), message().Summed(a6, b6)
	flow := func(src, dst api.Addr, from, to uint16, proto uint8) api.Flow {
		return api.Flow{Src: src, Dst: dst, SrcPort: from, DstPort: to, Proto: proto}
	}
	cases := []struct {
		b    []byte
		want Info
	}{
		{pack4(t, ip4.Header{TTL: 9, Proto: 6, Stay: true}, s4.Bytes()), Info{Stay: true, TTL: 9, Flow: flow(a4, b4, 11, 22, 6), TCP: s4}},
		{pack4(t, ip4.Header{TTL: 2, Proto: 17}, d4.Bytes()), Info{TTL: 2, Flow: flow(a4, b4, 33, 44, 17), UDP: d4}},
		{pack4(t, ip4.Header{TTL: 255, Proto: 1}, m4.Bytes()), Info{TTL: 255, Flow: flow(a4, b4, 0, 0, 1), ICMP: m4}},
		{pack6(t, ip6.Header{Hops: 9, Next: 6}, s6.Bytes()), Info{Six: true, Stay: true, TTL: 9, Flow: flow(a6, b6, 11, 22, 6), TCP: s6}},
		{pack6(t, ip6.Header{Hops: 2, Next: 17}, d6.Bytes()), Info{Six: true, Stay: true, TTL: 2, Flow: flow(a6, b6, 33, 44, 17), UDP: d6}},
		{pack6(t, ip6.Header{Hops: 3, Next: 58}, m6.Bytes()), Info{Six: true, Stay: true, TTL: 3, Flow: flow(a6, b6, 0, 0, 58), ICMP: m6}},
	}
	for i, c := range cases {
		for _, read := range []func([]byte) (Info, Reason){Read, Host} {
			if got, why := read(append(bytes.Clone(c.b), 1, 2, 3)); why != Fine || !same(got, c.want) {
				t.Error(i, got, why)
			}
		}
	}
	// Bytes between the datagram and the end of the packet are ignored.
	if got, why := Read(pack4(t, ip4.Header{TTL: 2, Proto: 17}, append(d4.Bytes(), 9))); why != Fine || string(got.UDP.Load) != "quic" {
		t.Error(got, why)
	}
	none := datagram()
	if _, why := Read(pack4(t, ip4.Header{TTL: 2, Proto: 17}, none.Bytes())); why != Fine {
		t.Error("a datagram without a checksum:", why)
	}
}

func TestReasonsInOrder(t *testing.T) {
	s4 := segment().Summed(a4, b4)
	good := pack4(t, ip4.Header{TTL: 9, Proto: 6}, s4.Bytes())
	wrong := bytes.Clone(good)
	wrong[11] ^= 1
	bad := s4
	bad.Seq++
	cases := []struct {
		b    []byte
		want Reason
	}{
		{nil, Short}, {[]byte{0x50}, Malformed}, {[]byte{0x45}, Short}, {good[:30], Short}, {wrong, BadSum}, {[]byte{0x60}, Short},
		{pack6(t, ip6.Header{Hops: 9, Next: 6}, nil)[:39], Short},
		{pack4(t, ip4.Header{TTL: 0, Proto: 99, More: true}, nil), Fragment},
		{pack4(t, ip4.Header{TTL: 9, Proto: 6, Offset: 1}, s4.Bytes()), Fragment},
		{pack4(t, ip4.Header{TTL: 0, Proto: 99}, nil), Expired}, {pack4(t, ip4.Header{TTL: 1, Proto: 6}, s4.Bytes()), Expired},
		{pack6(t, ip6.Header{Hops: 1, Next: 99}, nil), Expired},
		{pack4(t, ip4.Header{TTL: 9, Proto: 58}, nil), NoProto}, {pack6(t, ip6.Header{Hops: 9, Next: 1}, nil), NoProto},
		{pack4(t, ip4.Header{TTL: 9, Proto: 4}, nil), NoProto}, {pack6(t, ip6.Header{Hops: 9, Next: 44}, nil), NoProto},
		{pack4(t, ip4.Header{TTL: 9, Proto: 6}, s4.Bytes()[:19]), Short}, {pack4(t, ip4.Header{TTL: 9, Proto: 6}, make([]byte, 20)), Malformed},
		{pack4(t, ip4.Header{TTL: 9, Proto: 17}, make([]byte, 7)), Short}, {pack4(t, ip4.Header{TTL: 9, Proto: 17}, make([]byte, 8)), Malformed},
		{pack4(t, ip4.Header{TTL: 9, Proto: 17}, []byte{0, 0, 0, 0, 0, 9, 0, 0}), Short},
		{pack4(t, ip4.Header{TTL: 9, Proto: 1}, make([]byte, 7)), Short},
		{pack4(t, ip4.Header{TTL: 9, Proto: 6}, bad.Bytes()), BadSum},
		{pack4(t, ip4.Header{TTL: 9, Proto: 6}, append(s4.Bytes(), 1)), BadSum},
		{pack6(t, ip6.Header{Hops: 9, Next: 17}, datagram().Bytes()), BadSum},
		{pack4(t, ip4.Header{TTL: 9, Proto: 1}, message().Bytes()), BadSum},
		{pack6(t, ip6.Header{Hops: 9, Next: 58}, message().Summed(a4, b4).Bytes()), BadSum},
	}
	for i, c := range cases {
		if got, why := Read(c.b); why != c.want || !same(got, Info{}) {
			t.Error(i, got, Name(why))
		}
	}
	for _, ttl := range []uint8{0, 1} {
		if got, why := Host(pack4(t, ip4.Header{TTL: ttl, Proto: 6}, s4.Bytes())); why != Fine || got.TTL != ttl {
			t.Error(got, why)
		}
	}
	if _, why := Host(pack4(t, ip4.Header{Proto: 99}, nil)); why != NoProto {
		t.Error(why)
	}
}

func TestWithTCP(t *testing.T) {
	s := segment()
	s.Load = []byte("another load")
	h4 := ip4.Header{Tos: 5, ID: 6, Stay: true, TTL: 9, Proto: 6, Options: []byte{1, 1, 1, 0}}
	h6 := ip6.Header{Class: 5, Label: 6, Hops: 9, Next: 6}
	for _, c := range [][2][]byte{
		{pack4(t, h4, segment().Bytes()), pack4(t, h4, s.Bytes())},
		{pack6(t, h6, segment().Bytes()), pack6(t, h6, s.Bytes())},
	} {
		if got, e := WithTCP(append(c[0], 7), s); e != api.OK || !bytes.Equal(got, c[1]) {
			t.Error(got, e)
		}
	}
	invalid := tcp.Segment{Options: []byte{1}}
	long := tcp.Segment{Load: make([]byte, 65515)}
	wrong := pack4(t, h4, nil)
	wrong[11] ^= 1
	cases := []struct {
		b    []byte
		s    tcp.Segment
		want api.Errno
	}{
		{nil, invalid, api.ErrArg}, {nil, s, api.ErrForm}, {[]byte{0x50}, s, api.ErrForm}, {wrong, s, api.ErrForm}, {pack6(t, h6, nil)[:39], s, api.ErrForm},
		{pack4(t, h4, nil), invalid, api.ErrArg}, {pack4(t, h4, nil), long, api.ErrLong},
	}
	for i, c := range cases {
		if got, e := WithTCP(c.b, c.s); e != c.want || len(got) != 0 {
			t.Error(i, len(got), e)
		}
	}
}

func TestOlder(t *testing.T) {
	p4, p6 := pack4(t, ip4.Header{TTL: 9, Proto: 6}, []byte("load")), pack6(t, ip6.Header{Hops: 9}, []byte("load"))
	want4, _ := ip4.Older(p4)
	want6, _ := ip6.Older(p6)
	if got, e := Older(p4); e != api.OK || !bytes.Equal(got, want4) || got[8] != 8 || !bytes.Equal(got[20:], p4[20:]) {
		t.Error(got, e)
	}
	if got, e := Older(p6); e != api.OK || !bytes.Equal(got, want6) || got[7] != 8 || !bytes.Equal(got[8:], p6[8:]) {
		t.Error(got, e)
	}
	cases := []struct {
		b    []byte
		want api.Errno
	}{
		{nil, api.ErrShort}, {[]byte{0x70}, api.ErrForm}, {p4[:19], api.ErrShort}, {p6[:41], api.ErrShort},
		{pack4(t, ip4.Header{TTL: 1}, nil), api.ErrNone}, {pack6(t, ip6.Header{Hops: 0}, nil), api.ErrNone},
	}
	for i, c := range cases {
		if got, e := Older(c.b); e != c.want || len(got) != 0 {
			t.Error(i, got, e)
		}
	}
}

func TestExact(t *testing.T) {
	for _, p := range [][]byte{pack4(t, ip4.Header{TTL: 9, Options: []byte{1, 1, 1, 1}}, []byte("load")), pack6(t, ip6.Header{Hops: 9}, []byte("load")), pack6(t, ip6.Header{}, nil)} {
		long := append(bytes.Clone(p), 1, 2, 3)
		got := Exact(long)
		if !bytes.Equal(got, p) || !bytes.Equal(Exact(p), p) {
			t.Error(got)
		}
		got = append(got, 99)
		got[0] = 0
		if long[len(p)] != 1 || long[0] == 0 {
			t.Error("shared memory")
		}
		if len(Exact(p[:len(p)-1])) != 0 {
			t.Error("a packet that is cut off")
		}
	}
	for _, b := range [][]byte{nil, {0x50}, {0x45}, {0x60}} {
		if len(Exact(b)) != 0 {
			t.Error(b)
		}
	}
}

func TestAnyBytesHaveAReason(t *testing.T) {
	rnd := rand.New(rand.NewSource(25))
	seeds := [][]byte{
		pack4(t, ip4.Header{TTL: 9, Proto: 6}, segment().Summed(a4, b4).Bytes()), pack6(t, ip6.Header{Hops: 9, Next: 17}, datagram().Summed(a6, b6).Bytes()),
		pack4(t, ip4.Header{TTL: 9, Proto: 1}, message().Summed(a4, b4).Bytes()),
	}
	for range 5000 {
		b := bytes.Clone(seeds[rnd.Intn(3)])
		for range rnd.Intn(3) {
			b[rnd.Intn(len(b))] = byte(rnd.Uint32())
		}
		b = b[:rnd.Intn(len(b)+1)]
		info, why := Read(b)
		if Name(why) == "" || why != Fine && !same(info, Info{}) {
			t.Fatal(b, why)
		}
	}
}
