package steer_test

import (
	"bytes"
	"math/rand"
	"testing"

	"counterfoil/addr"
	"counterfoil/api"
	"counterfoil/ip4"
	"counterfoil/ip6"
	"counterfoil/packet"
	. "counterfoil/steer"
	"counterfoil/tcp"
	"counterfoil/udp"
)

var (
	flow4 = api.Flow{Src: addr.V4(1, 2, 3, 4), Dst: addr.V4(5, 6, 7, 8), SrcPort: 0x1122, DstPort: 0x3344, Proto: 6}
	flow6 = api.Flow{Src: addr.V6(1, 2), Dst: addr.V6(3, 4), SrcPort: 0x1122, DstPort: 0x3344, Proto: 6}
	stamp = []byte{1, 1, 8, 10, 9, 8, 7, 6, 5, 4, 3, 2}
)

func pack(t *testing.T, f api.Flow, ipOptions, load []byte) []byte {
	t.Helper()
	var b []byte
	var e api.Errno
	if f.Src.Six {
		b, e = ip6.Packet(ip6.Header{Next: f.Proto, Hops: 9, Src: f.Src, Dst: f.Dst}, load)
	} else {
		b, e = ip4.Packet(ip4.Header{Stay: true, TTL: 9, Proto: f.Proto, Src: f.Src, Dst: f.Dst, Options: ipOptions}, load)
	}
	if e != api.OK {
		t.Fatal(e)
	}
	return b
}

func segment(f api.Flow, options []byte) []byte {
	return tcp.Segment{SrcPort: f.SrcPort, DstPort: f.DstPort, Options: options, Load: []byte("load")}.Summed(f.Src, f.Dst).Bytes()
}

func datagram(f api.Flow) []byte {
	return udp.Datagram{SrcPort: f.SrcPort, DstPort: f.DstPort, Load: []byte{1}}.Summed(f.Src, f.Dst).Bytes()
}

func TestRead(t *testing.T) {
	for _, f := range []api.Flow{flow4, flow6} {
		six := f.Src.Six
		var ipOptions []byte
		if !six {
			ipOptions = []byte{1, 1, 1, 0, 1, 1, 1, 0}
		}
		b := pack(t, f, ipOptions, segment(f, stamp))
		if q, ok := Read(b, six); !ok || q != (Quoted{f, 0x09080706, true}) {
			t.Error(q, ok)
		}
		if q, ok := Read(b, !six); ok || q != (Quoted{}) {
			t.Error("the other family:", q, ok)
		}
		head := len(b) - 36
		if q, ok := Read(b[:head+8], six); !ok || q != (Quoted{Flow: f}) {
			t.Error("eight bytes:", q, ok)
		}
		if q, ok := Read(b[:head+31], six); !ok || q != (Quoted{Flow: f}) {
			t.Error("a TCP header that is cut off:", q, ok)
		}
		if q, ok := Read(b[:head+32], six); !ok || !q.Has {
			t.Error("the whole TCP header:", q, ok)
		}
		if q, ok := Read(b[:head+7], six); ok || q != (Quoted{}) {
			t.Error("seven bytes:", q, ok)
		}
		for _, x := range []byte{0x40, 0x81} {
			c := bytes.Clone(b)
			c[head+12] = x
			if q, ok := Read(c, six); !ok || q != (Quoted{Flow: f}) {
				t.Error("a malformed TCP header:", q, ok)
			}
		}
		if q, ok := Read(pack(t, f, ipOptions, segment(f, nil)), six); !ok || q != (Quoted{Flow: f}) {
			t.Error("without timestamps:", q, ok)
		}
		f.Proto = api.UDP
		if q, ok := Read(pack(t, f, nil, datagram(f)), six); !ok || q != (Quoted{Flow: f}) {
			t.Error("UDP:", q, ok)
		}
		like := udp.Datagram{SrcPort: f.SrcPort, DstPort: f.DstPort, Load: segment(f, stamp)[8:]}.Summed(f.Src, f.Dst)
		if q, ok := Read(pack(t, f, nil, like.Bytes()), six); !ok || q != (Quoted{Flow: f}) {
			t.Error("UDP that looks like TCP:", q, ok)
		}
		f.Proto = api.ICMP
		if q, ok := Read(pack(t, f, nil, segment(f, stamp)), six); ok || q != (Quoted{}) {
			t.Error("neither TCP nor UDP:", q, ok)
		}
	}
}

func TestReadRejectsHeaders(t *testing.T) {
	good := pack(t, flow4, nil, segment(flow4, stamp))
	change := func(at int, x byte) []byte {
		b := bytes.Clone(good)
		b[at] = x
		return b
	}
	for i, b := range [][]byte{nil, good[:19], good[:27], change(0, 0x55), change(0, 0x44), change(6, 0x20), change(6, 1), change(7, 1), change(9, 1), change(0, 0x4f)} {
		if q, ok := Read(b, false); ok || q != (Quoted{}) {
			t.Error(i, q, ok)
		}
	}
	for i, b := range [][]byte{change(2, 0xff), change(3, 0), change(10, 0), change(6, 0x80), change(6, 0x40)} {
		if q, ok := Read(b, false); !ok || q.Flow != flow4 || !q.Has {
			t.Error("lengths, checksums and other bits do not count:", i, q, ok)
		}
	}
	six := pack(t, flow6, nil, segment(flow6, stamp))
	for i, b := range [][]byte{nil, six[:47], append([]byte{0x50}, six[1:]...)} {
		if q, ok := Read(b, true); ok || q != (Quoted{}) {
			t.Error(i, q, ok)
		}
	}
	six[4] = 0xff
	if q, ok := Read(six, true); !ok || q.Flow != flow6 {
		t.Error("lengths do not count:", q, ok)
	}
}

func TestWholePacketsAndPrefixes(t *testing.T) {
	rnd := rand.New(rand.NewSource(26))
	for range 300 {
		f := []api.Flow{flow4, flow6}[rnd.Intn(2)]
		f.SrcPort, f.DstPort = uint16(rnd.Uint32()), uint16(rnd.Uint32())
		load := segment(f, [][]byte{nil, stamp, {1, 8, 10, 1, 2, 3, 4, 5, 6, 7, 8, 0}}[rnd.Intn(3)])
		if rnd.Intn(2) == 0 {
			f.Proto = api.UDP
			load = datagram(f)
		}
		b := pack(t, f, make([]byte, 4*rnd.Intn(3)), load)
		info, why := packet.Read(b)
		q, ok := Read(b, f.Src.Six)
		val, _, has := info.TCP.Stamp()
		if why != packet.Fine || !ok || q != (Quoted{info.Flow, val, has}) {
			t.Fatal(why, q, ok)
		}
		for n := range b {
			if q, ok := Read(b[:n], f.Src.Six); ok && q.Flow != info.Flow {
				t.Fatal("a prefix has another flow")
			}
		}
	}
}
