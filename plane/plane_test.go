package plane_test

import (
	"bytes"
	"fmt"
	"math/rand"
	"slices"
	"testing"

	"counterfoil/addr"
	"counterfoil/api"
	"counterfoil/cid"
	"counterfoil/codec"
	"counterfoil/config"
	"counterfoil/cookie"
	"counterfoil/follow"
	"counterfoil/hrw"
	"counterfoil/icmp"
	"counterfoil/ip4"
	"counterfoil/ip6"
	"counterfoil/load"
	"counterfoil/octet"
	"counterfoil/packet"
	. "counterfoil/plane"
	"counterfoil/policy"
	"counterfoil/siphash"
	"counterfoil/tcp"
	"counterfoil/tunnel"
	"counterfoil/turn"
	"counterfoil/udp"
)

// same reports whether two values print alike, as nil slices and empty ones do.
func same(a, b any) bool { return fmt.Sprintf("%+v", a) == fmt.Sprintf("%+v", b) }

var (
	key  = siphash.Of(1, 2)
	set  = Setting{Four: addr.V4(10, 0, 1, 1), Six: addr.V6(0, 1), Most: 1500}
	web4 = addr.V4(9, 9, 9, 9)
	web6 = addr.V6(9, 9)
	tcp4 = api.Flow{Src: addr.V4(1, 2, 3, 4), Dst: web4, SrcPort: 1000, DstPort: 80, Proto: api.TCP}
	tcp6 = api.Flow{Src: addr.V6(1, 2), Dst: web6, SrcPort: 1000, DstPort: 80, Proto: api.TCP}
	udp4 = api.Flow{Src: addr.V4(1, 2, 3, 4), Dst: web4, SrcPort: 1000, DstPort: 443, Proto: api.UDP}
	none = [2]uint32{}
)

// homes are the addresses of backends 1 to 3.
var homes = []api.Addr{{}, addr.V4(10, 0, 2, 1), addr.V6(0, 0x22), addr.V4(10, 0, 2, 3)}

func apply(t *testing.T, s *config.State, ops ...config.Op) {
	t.Helper()
	for _, o := range ops {
		if e := s.Apply(o); e != api.OK {
			t.Fatalf("%+v: %d", o, e)
		}
	}
}

func members(vip int, l ...config.Member) config.Op {
	return config.Op{Kind: config.SetMembers, Vip: vip, Members: l}
}

// state returns a state with three backends and the services tcp4 (0), tcp6 (1) and udp4 (2), all served by 1, 2 and 3 in turn.
func state(t *testing.T) *config.State {
	t.Helper()
	s := config.New(key)
	for n := 1; n <= 3; n++ {
		apply(t, s, config.Op{Kind: config.AddBackend, Backend: n, Addr: homes[n]})
	}
	for i, f := range []api.Flow{tcp4, tcp6, udp4} {
		apply(t, s, config.Op{Kind: config.AddVip, Addr: f.Dst, Port: f.DstPort, Proto: f.Proto, Way: policy.Turns},
			members(i, config.Member{Backend: 1, Weight: 1}, config.Member{Backend: 2, Weight: 2}, config.Member{Backend: 3, Weight: 3}))
	}
	return s
}

func learn(t *testing.T, p *Replica, s *config.State) {
	t.Helper()
	p.Forget()
	if e := p.Receive(follow.Message{Kind: follow.Whole, Num: s.Num, L: [][]byte{codec.State(s)}}); e != api.OK {
		t.Fatal(e)
	}
}

func replica(t *testing.T, s *config.State) *Replica {
	t.Helper()
	p, e := New(set)
	if e != api.OK {
		t.Fatal(e)
	}
	if s != nil {
		learn(t, p, s)
	}
	return p
}

// pack returns a packet of a flow.
func pack(t *testing.T, f api.Flow, load []byte) []byte {
	t.Helper()
	var b []byte
	var e api.Errno
	if f.Src.Six {
		b, e = ip6.Packet(ip6.Header{Next: f.Proto, Hops: 9, Class: 3, Src: f.Src, Dst: f.Dst}, load)
	} else {
		b, e = ip4.Packet(ip4.Header{Tos: 3, Stay: true, TTL: 9, Proto: f.Proto, Src: f.Src, Dst: f.Dst}, load)
	}
	if e != api.OK {
		t.Fatal(e)
	}
	return b
}

func stamps(val, echo uint32) []byte {
	return octet.Put(octet.Put([]byte{1, 1, 8, 10}, uint64(val), 4), uint64(echo), 4)
}

func segment(f api.Flow, flags uint8, options []byte, load int) tcp.Segment {
	return tcp.Segment{SrcPort: f.SrcPort, DstPort: f.DstPort, Flags: flags, Options: options, Load: make([]byte, load)}.Summed(f.Src, f.Dst)
}

func open(t *testing.T, f api.Flow) []byte {
	t.Helper()
	return pack(t, f, segment(f, tcp.SYN, stamps(7, 0), 0).Bytes())
}

func datagram(t *testing.T, f api.Flow, load []byte) []byte {
	t.Helper()
	return pack(t, f, udp.Datagram{SrcPort: f.SrcPort, DstPort: f.DstPort, Load: load}.Summed(f.Src, f.Dst).Bytes())
}

// quote returns an ICMP error from a router to a service about a packet that the service sent.
func quote(t *testing.T, quoted []byte, to api.Addr) []byte {
	t.Helper()
	f := api.Flow{Src: addr.V4(8, 8, 8, 8), Dst: to, Proto: api.ICMP}
	kind := uint8(icmp.Unreachable4)
	if to.Six {
		f.Src, f.Proto, kind = addr.V6(8, 8), api.ICMPv6, icmp.TooBig6
	}
	return pack(t, f, icmp.Message{Type: kind, Word: 1400, Load: quoted}.Summed(f.Src, f.Dst).Bytes())
}

func dropped(t *testing.T, p *Replica, b []byte, want packet.Reason) {
	t.Helper()
	was := p.Dropped(want)
	if out := p.Process(b, none); !same(out, Out{Why: want}) {
		t.Errorf("%s, not %s: %+v", packet.Name(out.Why), packet.Name(want), out)
	}
	if p.Dropped(want) != was+1 {
		t.Error("not counted")
	}
}

// forwarded checks that a packet goes to a backend of a service, and returns what the tunnel carries.
func forwarded(t *testing.T, p *Replica, b []byte, vip, backend int) []byte {
	t.Helper()
	was, _ := p.Sent()
	out := p.Process(b, none)
	inner, way, e := tunnel.Unwrap(out.Packet)
	from := set.Four
	if homes[backend].Six {
		from = set.Six
	}
	if out.Kind != Forward || out.Why != 0 || out.Vip != vip || out.Backend != backend || out.To != homes[backend] || e != api.OK || way != (tunnel.Way{Src: from, Dst: out.To, TTL: 64}) {
		t.Errorf("%+v (%s), way %+v, error %d", out, packet.Name(out.Why), way, e)
	}
	if now, _ := p.Sent(); now != was+1 {
		t.Error("not counted")
	}
	return inner
}

func TestKinds(t *testing.T) {
	if Drop != 0 || Forward != 1 || Answer != 2 {
		t.Error("kinds")
	}
}

func TestNew(t *testing.T) {
	good := []Setting{set, {Four: set.Four, Six: set.Six, Most: 576}, {Six: set.Six, Most: 9000}}
	for _, s := range good {
		if p, e := New(s); p == nil || e != api.OK {
			t.Error(s, e)
		}
	}
	bad := []Setting{{}, {Four: set.Six, Six: set.Six, Most: 1500}, {Four: api.Addr{High: 1}, Six: set.Six, Most: 1500}, {Four: set.Four, Six: set.Four, Most: 1500},
		{Four: set.Four, Six: set.Six, Most: 575}, {Four: set.Four, Six: set.Six, Most: 9001}, {Four: set.Four, Six: set.Six, Most: -1}}
	for _, s := range bad {
		if p, e := New(s); p != nil || e != api.ErrArg {
			t.Error(s, e)
		}
	}
	p := replica(t, nil)
	if p.State() != nil || p.Known() != 0 || len(p.Book.All()) != 0 {
		t.Error("a new replica knows something")
	}
	dropped(t, p, open(t, tcp4), packet.NoTable)
	dropped(t, p, nil, packet.Short)
}

func TestRestart(t *testing.T) {
	p := replica(t, state(t))
	p.Book.Note(load.Report{Backend: 1, Num: 1})
	forwarded(t, p, open(t, tcp4), 0, 2)
	dropped(t, p, nil, packet.Short)
	p.Restart()
	sent, told := p.Sent()
	if p.State() != nil || len(p.Book.All()) != 0 || sent != 0 || told != 0 || p.Dropped(packet.Short) != 0 {
		t.Error("something is left")
	}
	learn(t, p, state(t))
	forwarded(t, p, open(t, tcp4), 0, 1)
	if e := p.Book.Note(load.Report{Backend: 2, Num: 1}); e != api.OK {
		t.Error("the new book takes no reports:", e)
	}
	forwarded(t, p, open(t, tcp4), 0, 3)
}

func TestCands(t *testing.T) {
	s := state(t)
	book := load.New()
	book.Note(load.Report{Backend: 2, Num: 1, Load: 77, Well: true})
	v, _ := s.Vip(0)
	want := []turn.Cand{{Slot: 0, Backend: 1, Weight: 1}, {Slot: 1, Backend: 2, Weight: 2, Load: 77}, {Slot: 2, Backend: 3, Weight: 3}}
	if got := Cands(v, book); !slices.Equal(got, want) {
		t.Error(got)
	}
	book.Note(load.Report{Backend: 1, Num: 1, Load: 5, Well: false})
	if got := Cands(v, book); !slices.Equal(got, want[1:]) {
		t.Error("not well:", got)
	}
	apply(t, s, config.Op{Kind: config.Evict, Backend: 2})
	v, _ = s.Vip(0)
	if got := Cands(v, nil); !slices.Equal(got, []turn.Cand{want[0], want[2]}) {
		t.Error("evicted:", got)
	}
	apply(t, s, members(0, config.Member{Backend: 3, Weight: 0}, config.Member{Backend: 1, Weight: 9}))
	v, _ = s.Vip(0)
	if got := Cands(v, load.New()); !slices.Equal(got, []turn.Cand{{Slot: 0, Backend: 1, Weight: 9}}) {
		t.Error("away, or without weight:", got)
	}
	if len(Cands(config.Vip{}, nil)) != 0 {
		t.Error("no tables")
	}
}

func TestSpreadAndMark(t *testing.T) {
	l := []turn.Cand{{Slot: 3, Backend: 5, Weight: 2}, {Slot: 4, Backend: 9, Weight: 1}, {Slot: 7, Backend: 6, Weight: 50}}
	for i := range 50 {
		b := []byte{byte(i)}
		want, _ := hrw.Pick(siphash.Of(0x636f756e74657266, 0x6f696c2d66697865), []hrw.Member{{ID: 5, Weight: 2}, {ID: 9, Weight: 1}, {ID: 6, Weight: 50}}, b)
		if n, ok := Spread(l, b); n != want || !ok {
			t.Fatal(n, ok)
		}
	}
	if n, ok := Spread(nil, []byte{1}); n != 0 || ok {
		t.Error(n, ok)
	}
	cases := []struct {
		s    tcp.Segment
		want uint16
		ok   bool
	}{
		{segment(tcp4, tcp.SYN, stamps(1, 0xabcd1234), 0), 0x1234, true}, {segment(tcp4, tcp.SYN|tcp.ACK, stamps(1, 2), 0), 0, false},
		{segment(tcp4, tcp.ACK, stamps(1, 2), 0), 0, false}, {segment(tcp4, tcp.SYN, nil, 0), 0, false},
	}
	for i, c := range cases {
		if got, ok := Mark(c.s); got != c.want || ok != c.ok {
			t.Error(i, got, ok)
		}
	}
}

func TestOpening(t *testing.T) {
	for vip, f := range []api.Flow{tcp4, tcp6} {
		s := state(t)
		apply(t, s, config.Op{Kind: config.Rotate}, members(vip, config.Member{Backend: 1, Weight: 1}, config.Member{Backend: 3, Weight: 1}))
		p := replica(t, s)
		for i, backend := range []int{1, 3, 1} {
			b := open(t, f)
			inner := forwarded(t, p, append(b, 1, 2, 3), vip, backend)
			mark, _ := cookie.Hide(s.Ring, f, cookie.Place{Version: 1, Slot: backend - 1})
			want, _ := packet.WithTCP(b, segment(f, tcp.SYN, stamps(7, 0), 0).WithEcho(uint32(mark)))
			want, _ = packet.Older(want)
			if !bytes.Equal(inner, want) {
				t.Errorf("%d: %x\n%x", i, inner, want)
			}
			if _, why := packet.Read(inner); why != packet.Fine {
				t.Error(packet.Name(why))
			}
		}
	}
}

func TestOpeningByPolicies(t *testing.T) {
	s := config.New(key)
	for n := 1; n <= 3; n++ {
		apply(t, s, config.Op{Kind: config.AddBackend, Backend: n, Addr: homes[n]})
	}
	var flows []api.Flow
	for way := policy.Turns; way <= policy.Draws; way++ {
		f := tcp4
		f.DstPort = uint16(way)
		flows = append(flows, f)
		apply(t, s, config.Op{Kind: config.AddVip, Addr: f.Dst, Port: f.DstPort, Proto: f.Proto, Way: way},
			members(way-1, config.Member{Backend: 1, Weight: 1}, config.Member{Backend: 2, Weight: 5}, config.Member{Backend: 3, Weight: 1}))
	}
	p := replica(t, s)
	for n, x := range []uint32{0, 9, 4, 6} {
		p.Book.Note(load.Report{Backend: n, Num: 1, Load: x, Well: true})
	}
	want := [][]int{{1, 2, 3, 1}, {2, 2, 1, 2}, {2, 2, 2}, {3, 3}}
	for i, f := range flows {
		for _, backend := range want[i] {
			if out := p.Process(open(t, f), [2]uint32{0, 5}); out.Backend != backend {
				t.Error(policy.Name(i+1), out.Backend, backend)
			}
		}
	}
	if out := p.Process(open(t, flows[3]), [2]uint32{1, 2}); out.Backend != 2 {
		t.Error("the first draw:", out.Backend)
	}
	for n := 1; n <= 3; n++ {
		p.Book.Note(load.Report{Backend: n, Num: 2})
	}
	for _, f := range flows {
		dropped(t, p, open(t, f), packet.NoBackend)
	}
}

func TestServicesAndTables(t *testing.T) {
	s := state(t)
	other := tcp4
	other.DstPort = 81
	apply(t, s, config.Op{Kind: config.AddVip, Addr: web4, Port: 90, Proto: api.TCP, Way: policy.Turns})
	p := replica(t, s)
	dropped(t, p, open(t, other), packet.NoService)
	other.DstPort = 90
	dropped(t, p, open(t, other), packet.NoTable)
	other = udp4
	other.DstPort = 80
	dropped(t, p, datagram(t, other, []byte{0x40}), packet.NoService)
	old := open(t, tcp4)
	old[8] = 1
	dropped(t, p, old, packet.BadSum)
}

func TestWithoutTimestamps(t *testing.T) {
	s := state(t)
	p := replica(t, s)
	v, _ := s.Vip(0)
	seen := map[int]bool{}
	for i := range 40 {
		f := tcp4
		f.SrcPort = uint16(i)
		want, _ := Spread(Cands(v, nil), addr.Key(f))
		seen[want] = true
		for _, flags := range []uint8{tcp.SYN, tcp.ACK, 0} {
			b := pack(t, f, segment(f, flags, nil, 5).Bytes())
			inner := forwarded(t, p, b, 0, want)
			if older, _ := packet.Older(b); !bytes.Equal(inner, older) {
				t.Error("the packet was changed")
			}
		}
	}
	if len(seen) != 3 {
		t.Error(seen)
	}
	for n := 1; n <= 3; n++ {
		p.Book.Note(load.Report{Backend: n, Num: 1})
	}
	dropped(t, p, pack(t, tcp4, segment(tcp4, tcp.ACK, nil, 5).Bytes()), packet.NoBackend)
}

func echoing(t *testing.T, f api.Flow, echo uint32) []byte {
	t.Helper()
	return pack(t, f, segment(f, tcp.ACK, stamps(8, echo), 5).Bytes())
}

func TestByCookie(t *testing.T) {
	for vip, f := range []api.Flow{tcp4, tcp6} {
		s := state(t)
		// Version 1 has 1 and 3 at slots 0 and 2, version 0 all three.
		apply(t, s, members(vip, config.Member{Backend: 1, Weight: 0}, config.Member{Backend: 3, Weight: 1}))
		p := replica(t, s)
		mark := func(version, slot int) uint32 {
			c, e := cookie.Hide(s.Ring, f, cookie.Place{Version: version, Slot: slot})
			if e != api.OK {
				t.Fatal(e)
			}
			return cookie.Blend(0x77, c)
		}
		b := echoing(t, f, mark(0, 1))
		inner := forwarded(t, p, b, vip, 2)
		if older, _ := packet.Older(b); !bytes.Equal(inner, older) {
			t.Error("the packet was changed")
		}
		forwarded(t, p, echoing(t, f, mark(1, 0)), vip, 1)
		forwarded(t, p, pack(t, f, segment(f, tcp.SYN|tcp.ACK, stamps(8, mark(0, 2)), 0).Bytes()), vip, 3)
		forwarded(t, p, pack(t, f, segment(f, tcp.RST|tcp.SYN, stamps(8, mark(0, 2)), 0).Bytes()), vip, 3)
		p.Book.Note(load.Report{Backend: 2, Num: 1})
		forwarded(t, p, echoing(t, f, mark(0, 1)), vip, 2)
		dropped(t, p, echoing(t, f, mark(2, 0)), packet.NoVersion)
		dropped(t, p, echoing(t, f, mark(1, 1)), packet.NoSlot)
		dropped(t, p, echoing(t, f, mark(0, 3)), packet.NoSlot)
		dropped(t, p, echoing(t, f, mark(0, 0)|0x8000), packet.NoKey)
		first := echoing(t, f, mark(0, 1))
		apply(t, s, config.Op{Kind: config.Rotate})
		learn(t, p, s)
		forwarded(t, p, first, vip, 2)
		apply(t, s, config.Op{Kind: config.Evict, Backend: 2})
		learn(t, p, s)
		dropped(t, p, first, packet.Evicted)
	}
}

func TestByID(t *testing.T) {
	s := state(t)
	p := replica(t, s)
	id := func(version, slot int) []byte {
		b, e := cid.Make(s.Ring, cookie.Place{Version: version, Slot: slot}, 5)
		if e != api.OK {
			t.Fatal(e)
		}
		return b
	}
	short := func(id []byte) []byte { return datagram(t, udp4, append(append([]byte{0x40}, id...), 1, 2, 3)) }
	long := func(id []byte) []byte {
		return datagram(t, udp4, append(append([]byte{0xC0, 0, 0, 0, 1, byte(len(id))}, id...), 0, 9))
	}
	forwarded(t, p, short(id(0, 1)), 2, 2)
	forwarded(t, p, long(id(0, 2)), 2, 3)
	dropped(t, p, short(id(1, 0)), packet.NoVersion)
	dropped(t, p, short(id(0, 5)), packet.NoSlot)
	dropped(t, p, long(id(0, 5)), packet.NoSlot)
	v, _ := s.Vip(2)
	for i := range 20 {
		own := []byte{1, 2, 3, 4, 5, 6, 7, 8, 9, 10, 11, byte(i)}[:i%13]
		want, _ := Spread(Cands(v, nil), own)
		forwarded(t, p, long(own), 2, want)
	}
	forged := id(0, 1)
	forged[11] ^= 1
	dropped(t, p, short(forged), packet.NoKey)
	dropped(t, p, datagram(t, udp4, nil), packet.Short)
	dropped(t, p, datagram(t, udp4, []byte{0x40, 1, 2}), packet.Short)
	dropped(t, p, datagram(t, udp4, make([]byte, 20)), packet.Malformed)
	dropped(t, p, datagram(t, udp4, []byte{0xC0, 0, 0, 0, 1, 21}), packet.Malformed)
	for n := 1; n <= 3; n++ {
		p.Book.Note(load.Report{Backend: n, Num: 1})
	}
	forwarded(t, p, short(id(0, 1)), 2, 2)
	dropped(t, p, long([]byte{1}), packet.NoBackend)
	apply(t, s, config.Op{Kind: config.Evict, Backend: 2})
	learn(t, p, s)
	dropped(t, p, short(id(0, 1)), packet.Evicted)
}

func TestQuotes(t *testing.T) {
	for vip, f := range []api.Flow{tcp4, tcp6} {
		s := state(t)
		p := replica(t, s)
		mark, _ := cookie.Hide(s.Ring, f, cookie.Place{Version: 0, Slot: 1})
		back := addr.Back(f)
		sent := pack(t, back, segment(back, tcp.ACK, stamps(cookie.Blend(5, mark), 0), 9).Bytes())
		b := quote(t, sent, f.Dst)
		inner := forwarded(t, p, b, vip, 2)
		if older, _ := packet.Older(b); !bytes.Equal(inner, older) {
			t.Error("the message was changed")
		}
		dropped(t, p, quote(t, sent, addr.V4(9, 9, 9, 8)), packet.Stranger)
		v, _ := s.Vip(vip)
		want, _ := Spread(Cands(v, nil), addr.Key(f))
		plain := pack(t, back, segment(back, tcp.ACK, nil, 9).Bytes())
		forwarded(t, p, quote(t, plain, f.Dst), vip, want)
		forwarded(t, p, quote(t, sent[:len(sent)-41+8], f.Dst), vip, want)
		mark, _ = cookie.Hide(s.Ring, f, cookie.Place{Version: 3})
		lost := pack(t, back, segment(back, tcp.ACK, stamps(cookie.Blend(5, mark), 0), 9).Bytes())
		dropped(t, p, quote(t, lost, f.Dst), packet.NoVersion)
		other := back
		other.SrcPort = 81
		dropped(t, p, quote(t, pack(t, other, segment(other, tcp.ACK, nil, 9).Bytes()), f.Dst), packet.NoService)
		apply(t, s, config.Op{Kind: config.AddVip, Addr: f.Dst, Port: 81, Proto: api.TCP, Way: policy.Turns})
		learn(t, p, s)
		dropped(t, p, quote(t, pack(t, other, segment(other, tcp.ACK, nil, 9).Bytes()), f.Dst), packet.NoTable)
		dropped(t, p, quote(t, sent[:20], f.Dst), packet.Stranger)
		for n := 1; n <= 3; n++ {
			p.Book.Note(load.Report{Backend: n, Num: 1})
		}
		dropped(t, p, quote(t, plain, f.Dst), packet.NoBackend)
	}
	p := replica(t, state(t))
	back := addr.Back(udp4)
	dropped(t, p, quote(t, datagram(t, back, []byte{0x40}), web4), packet.Stranger)
	back.SrcPort = 99
	dropped(t, p, quote(t, datagram(t, back, []byte{0x40}), web4), packet.NoService)
	ping := api.Flow{Src: tcp4.Src, Dst: web4, Proto: api.ICMP}
	dropped(t, p, pack(t, ping, icmp.Message{Type: icmp.Echo4}.Summed(ping.Src, ping.Dst).Bytes()), packet.Stranger)
	back = addr.Back(tcp4)
	sent := pack(t, back, segment(back, tcp.ACK, nil, 9).Bytes())
	dropped(t, p, pack(t, ping, icmp.Message{Type: icmp.Echo4, Load: sent}.Summed(ping.Src, ping.Dst).Bytes()), packet.Stranger)
}

func TestTooBig(t *testing.T) {
	for vip, f := range []api.Flow{tcp4, tcp6} {
		head := 52
		if f.Src.Six {
			head = 72
		}
		for backend := 1; backend <= 2; backend++ {
			s := state(t)
			p := replica(t, s)
			most := 1480
			if backend == 2 {
				most = 1460
			}
			mark, _ := cookie.Hide(s.Ring, f, cookie.Place{Slot: backend - 1})
			full := pack(t, f, segment(f, tcp.ACK, stamps(1, uint32(mark)), most-head).Bytes())
			forwarded(t, p, full, vip, backend)
			over := pack(t, f, segment(f, tcp.ACK, stamps(1, uint32(mark)), most-head+1).Bytes())
			out := p.Process(append(over, 1, 2), none)
			m := icmp.TooBig(over, uint16(most), f.Src.Six).Summed(f.Dst, f.Src)
			var want []byte
			if f.Src.Six {
				want, _ = ip6.Packet(ip6.Header{Next: 58, Hops: 64, Src: f.Dst, Dst: f.Src}, m.Bytes())
			} else {
				want, _ = ip4.Packet(ip4.Header{Proto: 1, TTL: 64, Src: f.Dst, Dst: f.Src}, m.Bytes())
			}
			if !same(out, Out{Kind: Answer, Why: packet.TooBig, To: f.Src, Packet: want}) {
				t.Errorf("%+v", out)
			}
			if sent, told := p.Sent(); sent != 1 || told != 1 || p.Dropped(packet.TooBig) != 0 {
				t.Error(sent, told)
			}
		}
	}
}

func TestTooBigIsDropped(t *testing.T) {
	s := state(t)
	p := replica(t, s)
	mark, _ := cookie.Hide(s.Ring, tcp4, cookie.Place{Slot: 0})
	load := segment(tcp4, tcp.ACK, stamps(1, uint32(mark)), 1429).Bytes()
	b, _ := ip4.Packet(ip4.Header{TTL: 9, Proto: 6, Src: tcp4.Src, Dst: tcp4.Dst}, load)
	dropped(t, p, b, packet.TooBig)
	back := addr.Back(tcp4)
	sent := pack(t, back, segment(back, tcp.ACK, stamps(uint32(mark), 0), 1500).Bytes())
	dropped(t, p, quote(t, sent, web4), packet.TooBig)
	mark, _ = cookie.Hide(s.Ring, tcp6, cookie.Place{Slot: 0})
	back = addr.Back(tcp6)
	sent = pack(t, back, segment(back, tcp.ACK, stamps(uint32(mark), 0), 1500).Bytes())
	dropped(t, p, quote(t, sent, web6), packet.TooBig)
	if _, told := p.Sent(); told != 0 {
		t.Error("an error was answered")
	}
}

func TestAnswerQuotesThePacketAsItArrived(t *testing.T) {
	p := replica(t, state(t))
	b := pack(t, tcp4, segment(tcp4, tcp.SYN, stamps(7, 0), 1450).Bytes())
	out := p.Process(b, none)
	info, why := packet.Read(out.Packet)
	if out.Kind != Answer || why != packet.Fine || !bytes.Equal(info.ICMP.Load, b[:548]) {
		t.Error(out.Kind, why)
	}
	// The choice took effect all the same.
	forwarded(t, p, open(t, tcp4), 0, 2)
}

func TestUnknownHomes(t *testing.T) {
	s := state(t)
	x := config.New(key)
	apply(t, x, config.Op{Kind: config.AddBackend, Backend: 1, Addr: homes[1]},
		config.Op{Kind: config.AddVip, Addr: web4, Port: 80, Proto: api.TCP, Way: policy.Turns})
	v, _ := s.Vip(0)
	if e := x.Restore([]config.Member{{Backend: 1, Weight: 1}}, v.Tables); e != api.OK {
		t.Fatal(e)
	}
	p := replica(t, x)
	mark, _ := cookie.Hide(x.Ring, tcp4, cookie.Place{Slot: 1})
	dropped(t, p, echoing(t, tcp4, uint32(mark)), packet.NoBackend)
	dropped(t, p, pack(t, tcp4, segment(tcp4, tcp.ACK, stamps(1, uint32(mark)), 2000).Bytes()), packet.NoBackend)
}

func TestNilAndZeroReplica(t *testing.T) {
	zero := &Replica{}
	s := state(t)
	zero.Receive(follow.Message{Kind: follow.Whole, Num: s.Num, L: [][]byte{codec.State(s)}})
	for _, p := range []*Replica{nil, zero} {
		for _, b := range [][]byte{nil, open(t, tcp4)} {
			if out := p.Process(b, none); !same(out, Out{Why: packet.NoTable}) {
				t.Error(out)
			}
		}
		p.Restart()
		if sent, told := p.Sent(); sent != 0 || told != 0 || p.Dropped(packet.NoTable) != 0 {
			t.Error("something was counted")
		}
	}
	p := replica(t, nil)
	for _, r := range []packet.Reason{-1, packet.Reasons, 1 << 40} {
		if p.Dropped(r) != 0 {
			t.Error(r)
		}
	}
}

func TestAnyBytesLeadToAtMostOnePacket(t *testing.T) {
	rnd := rand.New(rand.NewSource(27))
	s := state(t)
	apply(t, s, config.Op{Kind: config.Rotate}, members(0, config.Member{Backend: 2, Weight: 1}), config.Op{Kind: config.Evict, Backend: 3})
	p := replica(t, s)
	id, _ := cid.Make(s.Ring, cookie.Place{Slot: 1}, 9)
	total := 0
	for range 5000 {
		var b []byte
		switch rnd.Intn(5) {
		case 0:
			b = open(t, []api.Flow{tcp4, tcp6}[rnd.Intn(2)])
		case 1:
			b = echoing(t, []api.Flow{tcp4, tcp6}[rnd.Intn(2)], rnd.Uint32())
		case 2:
			b = datagram(t, udp4, append([]byte{0x40}, id...))
		case 3:
			c, _ := cookie.Hide(s.Ring, tcp4, cookie.Place{Version: rnd.Intn(3), Slot: rnd.Intn(4)})
			b = echoing(t, tcp4, uint32(c))
		case 4:
			b = make([]byte, rnd.Intn(60))
			rnd.Read(b)
		}
		if rnd.Intn(8) == 0 && len(b) > 0 {
			b[rnd.Intn(len(b))] ^= 1 << rnd.Intn(8)
		}
		was := bytes.Clone(b)
		out := p.Process(b, [2]uint32{rnd.Uint32(), rnd.Uint32()})
		total++
		if !bytes.Equal(b, was) {
			t.Fatal("the argument was changed")
		}
		if out.Kind != Forward {
			continue
		}
		v, _ := s.Vip(out.Vip)
		present := false
		for _, n := range v.Tables.Versions() {
			x, _ := v.Tables.Get(n)
			present = present || slices.Contains(x.Members(), out.Backend)
		}
		if !present || v.Tables.Evicted(out.Backend) {
			t.Fatal("forwarded to", out.Backend)
		}
	}
	sent, told := p.Sent()
	for r := packet.Fine; r < packet.Reasons; r++ {
		sent += p.Dropped(r)
	}
	if sent+told != uint64(total) {
		t.Error("not every packet was counted once")
	}
}
