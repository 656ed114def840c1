package shim_test

import (
	"bytes"
	"fmt"
	"math/rand"
	"testing"

	"counterfoil/addr"
	"counterfoil/api"
	"counterfoil/cid"
	"counterfoil/codec"
	"counterfoil/config"
	"counterfoil/cookie"
	"counterfoil/follow"
	"counterfoil/icmp"
	"counterfoil/ip4"
	"counterfoil/ip6"
	"counterfoil/load"
	"counterfoil/octet"
	"counterfoil/packet"
	"counterfoil/plane"
	. "counterfoil/shim"
	"counterfoil/siphash"
	"counterfoil/tcp"
	"counterfoil/tunnel"
	"counterfoil/udp"
)

// same reports whether two values print alike, as nil slices and empty ones do.
func same(a, b any) bool { return fmt.Sprintf("%+v", a) == fmt.Sprintf("%+v", b) }

var (
	key   = siphash.Of(1, 2)
	flow4 = api.Flow{Src: addr.V4(1, 2, 3, 4), Dst: addr.V4(9, 9, 9, 9), SrcPort: 1000, DstPort: 80, Proto: api.TCP}
	flow6 = api.Flow{Src: addr.V6(1, 2), Dst: addr.V6(9, 9), SrcPort: 1000, DstPort: 80, Proto: api.TCP}
	way   = tunnel.Way{Src: addr.V4(10, 0, 1, 1), Dst: addr.V4(10, 0, 2, 1), TTL: 64}
	lease = cid.Lease{Next: 100, End: 103}
)

func shim(t *testing.T) *Shim {
	t.Helper()
	s, e := New(5, 3, lease)
	if e != api.OK {
		t.Fatal(e)
	}
	return s
}

func stamps(val, echo uint32) []byte {
	return octet.Put(octet.Put([]byte{1, 1, 8, 10}, uint64(val), 4), uint64(echo), 4)
}

func pack(t *testing.T, f api.Flow, load []byte) []byte {
	t.Helper()
	var b []byte
	var e api.Errno
	if f.Src.Six {
		b, e = ip6.Packet(ip6.Header{Next: f.Proto, Hops: 1, Src: f.Src, Dst: f.Dst}, load)
	} else {
		b, e = ip4.Packet(ip4.Header{TTL: 1, Proto: f.Proto, Src: f.Src, Dst: f.Dst}, load)
	}
	if e != api.OK {
		t.Fatal(e)
	}
	return b
}

func wrap(t *testing.T, b []byte) []byte {
	t.Helper()
	w, e := way.Wrap(b)
	if e != api.OK {
		t.Fatal(e)
	}
	return w
}

func segment(f api.Flow, flags uint8, options []byte) tcp.Segment {
	return tcp.Segment{SrcPort: f.SrcPort, DstPort: f.DstPort, Seq: 9, Flags: flags, Options: options, Load: []byte("load")}.Summed(f.Src, f.Dst)
}

func arrive(t *testing.T, s *Shim, f api.Flow, x tcp.Segment, now uint32) tcp.Segment {
	t.Helper()
	d, why := s.Arrive(wrap(t, pack(t, f, x.Bytes())), now)
	if why != packet.Fine || d.Flow != f || !tcp.Fine(d.Load, f.Src, f.Dst) {
		t.Fatal(d, packet.Name(why))
	}
	got, e := tcp.Parse(d.Load)
	if e != api.OK {
		t.Fatal(e)
	}
	return got
}

func TestNew(t *testing.T) {
	for _, c := range [][2]int{{0, 1}, {65, 1}, {-1, 1}, {1, 0}, {1, 1025}, {1, -1}} {
		if s, e := New(c[0], c[1], lease); s != nil || e != api.ErrArg {
			t.Error(c, e)
		}
	}
	for _, c := range [][2]int{{1, 1}, {64, 1024}} {
		if s, e := New(c[0], c[1], cid.Lease{}); e != api.OK || s.Backend() != c[0] || s.Conns() != 0 || s.State() != nil {
			t.Error(c, e)
		}
	}
}

func TestArriveErrors(t *testing.T) {
	s := shim(t)
	inner := pack(t, flow4, segment(flow4, tcp.SYN, stamps(1, 2)).Bytes())
	outer := wrap(t, inner)
	broken := bytes.Clone(outer)
	broken[11] ^= 1
	wrong := bytes.Clone(inner)
	wrong[len(wrong)-1] ^= 1
	fragment, _ := ip4.Packet(ip4.Header{More: true, TTL: 9, Proto: 6, Src: flow4.Src, Dst: flow4.Dst}, nil)
	cases := []struct {
		b    []byte
		want packet.Reason
	}{
		{nil, packet.Short}, {[]byte{0x50}, packet.Malformed}, {broken, packet.BadSum}, {inner, packet.Stranger}, {outer[:30], packet.Short},
		{wrap(t, wrong), packet.BadSum}, {wrap(t, fragment), packet.Fragment}, {wrap(t, outer), packet.NoProto},
	}
	for i, c := range cases {
		if d, why := s.Arrive(c.b, 5); why != c.want || !same(d, Delivery{}) {
			t.Error(i, d, packet.Name(why))
		}
	}
	if s.Conns() != 0 {
		t.Error("a connection was kept")
	}
}

func TestArriveOpens(t *testing.T) {
	for _, f := range []api.Flow{flow4, flow6} {
		s := shim(t)
		x := segment(f, tcp.SYN, stamps(7, 0))
		got := arrive(t, s, f, x.WithEcho(0x0000abcd), 99)
		if !same(got, x) || s.Conns() != 1 {
			t.Error(got, s.Conns())
		}
		b, e := s.Leave(f, segment(f, tcp.SYN|tcp.ACK, stamps(0x12345, 7)))
		info, why := packet.Read(b)
		if val, echo, ok := info.TCP.Stamp(); e != api.OK || why != packet.Fine || val != 0x2345abcd || echo != 7 || !ok {
			t.Errorf("%x %x %d", val, echo, e)
		}
	}
}

func TestArriveRestoresTicks(t *testing.T) {
	s := shim(t)
	got := arrive(t, s, flow4, segment(flow4, tcp.ACK, stamps(7, 0x0003beef)), 0x20005)
	if val, echo, _ := got.Stamp(); val != 7 || echo != 0x20003 || s.Conns() != 1 {
		t.Errorf("%x %x", val, echo)
	}
	if b, _ := s.Leave(flow4, segment(flow4, tcp.ACK, stamps(0x20009, 7))); len(b) < 32 {
		t.Error(b)
	} else if info, _ := packet.Read(b); info.TCP.Options[6] != 0xbe || info.TCP.Options[7] != 0xef || info.TCP.Options[5] != 9 {
		t.Error(info.TCP.Options)
	}
	got = arrive(t, s, flow4, segment(flow4, tcp.ACK|tcp.SYN, stamps(7, 0x0009cafe)), 0x20005)
	if _, echo, _ := got.Stamp(); echo != 0x10009 {
		t.Errorf("%x", echo)
	}
	unchanged := []tcp.Segment{segment(flow4, tcp.PSH, stamps(7, 0x0003beef)), segment(flow4, tcp.RST|tcp.SYN, stamps(7, 0x0003beef)),
		segment(flow4, tcp.ACK, nil), segment(flow4, tcp.SYN, nil)}
	other := shim(t)
	for i, x := range unchanged {
		if got := arrive(t, other, flow4, x, 0x20005); !same(got.Bytes(), x.Bytes()) || other.Conns() != 0 {
			t.Error(i, got)
		}
	}
}

func TestArriveOthers(t *testing.T) {
	s := shim(t)
	f := flow4
	f.Proto = api.UDP
	d := udp.Datagram{SrcPort: f.SrcPort, DstPort: f.DstPort, Load: []byte("quic")}.Summed(f.Src, f.Dst)
	got, why := s.Arrive(wrap(t, pack(t, f, append(d.Bytes(), 1, 2))), 5)
	if why != packet.Fine || got.Flow != f || !bytes.Equal(got.Load, d.Bytes()) {
		t.Error(got, why)
	}
	f = api.Flow{Src: flow6.Src, Dst: flow6.Dst, Proto: api.ICMPv6}
	m := icmp.Message{Type: 2, Load: []byte("quote")}.Summed(f.Src, f.Dst)
	got, why = s.Arrive(wrap(t, pack(t, f, m.Bytes())), 5)
	if why != packet.Fine || got.Flow != f || !bytes.Equal(got.Load, m.Bytes()) || s.Conns() != 0 {
		t.Error(got, why)
	}
}

func TestConnectionsAreBounded(t *testing.T) {
	s := shim(t)
	flows := make([]api.Flow, 5)
	for i := range flows {
		flows[i] = flow4
		flows[i].SrcPort = uint16(i)
	}
	for _, f := range flows[:3] {
		arrive(t, s, f, segment(f, tcp.SYN, stamps(7, 5)), 0)
	}
	reply := func(f api.Flow) api.Errno {
		_, e := s.Leave(f, segment(f, tcp.ACK, stamps(1, 1)))
		return e
	}
	if reply(flows[0]) != api.OK {
		t.Error("known")
	}
	long := segment(flows[1], tcp.ACK, stamps(1, 1))
	long.Load = make([]byte, 65500)
	if _, e := s.Leave(flows[1], long); e != api.ErrLong {
		t.Error("too long:", e)
	}
	if _, e := s.Leave(flows[1], segment(flows[1], tcp.ACK, nil)); e != api.OK {
		t.Error(e)
	}
	arrive(t, s, flows[3], segment(flows[3], tcp.SYN, stamps(7, 5)), 0)
	if s.Conns() != 3 || reply(flows[1]) != api.ErrNone {
		t.Error("an error, or a segment without timestamps, counted as a use")
	}
	if reply(flows[0]) != api.OK || reply(flows[2]) != api.OK || reply(flows[3]) != api.OK {
		t.Error("the wrong connection is gone")
	}
}

func TestLeave(t *testing.T) {
	for _, f := range []api.Flow{flow4, flow6} {
		s := shim(t)
		x := segment(f, tcp.RST, nil)
		x.SrcPort, x.DstPort, x.Sum = 1, 2, 3
		was := x
		b, e := s.Leave(f, x)
		x.SrcPort, x.DstPort = f.DstPort, f.SrcPort
		x = x.Summed(f.Dst, f.Src)
		var want []byte
		if f.Src.Six {
			want, _ = ip6.Packet(ip6.Header{Next: 6, Hops: 64, Src: f.Dst, Dst: f.Src}, x.Bytes())
		} else {
			want, _ = ip4.Packet(ip4.Header{Stay: true, TTL: 64, Proto: 6, Src: f.Dst, Dst: f.Src}, x.Bytes())
		}
		if e != api.OK || !bytes.Equal(b, want) || was.Sum != 3 {
			t.Errorf("%x\n%x", b, want)
		}
	}
}

func TestLeaveErrors(t *testing.T) {
	s := shim(t)
	good := segment(flow4, tcp.ACK, stamps(1, 1))
	invalid := good
	invalid.Options = []byte{1}
	long := segment(flow4, tcp.ACK, nil)
	long.Load = make([]byte, 65515)
	change := func(f func(f *api.Flow)) api.Flow {
		x := flow4
		f(&x)
		return x
	}
	cases := []struct {
		f    api.Flow
		x    tcp.Segment
		want api.Errno
	}{
		{flow4, invalid, api.ErrArg}, {flow4, good, api.ErrNone}, {flow4, long, api.ErrLong},
		{change(func(f *api.Flow) { f.Proto = api.UDP }), good, api.ErrArg},
		{change(func(f *api.Flow) { f.Src = flow6.Src }), good, api.ErrArg},
		{change(func(f *api.Flow) { f.Dst = flow6.Dst }), good, api.ErrArg},
		{change(func(f *api.Flow) { f.Src = api.Addr{High: 1} }), good, api.ErrArg},
		{change(func(f *api.Flow) { f.Dst = api.Addr{Low: 1 << 32} }), good, api.ErrArg},
	}
	for i, c := range cases {
		if b, e := s.Leave(c.f, c.x); e != c.want || len(b) != 0 {
			t.Error(i, len(b), e)
		}
	}
}

func TestLeaveUDP(t *testing.T) {
	s := shim(t)
	for _, f := range []api.Flow{flow4, flow6} {
		f.Proto = api.UDP
		b, e := s.LeaveUDP(f, []byte("id"))
		d := udp.Datagram{SrcPort: f.DstPort, DstPort: f.SrcPort, Load: []byte("id")}.Summed(f.Dst, f.Src)
		info, why := packet.Read(b)
		if e != api.OK || why != packet.Fine || info.Flow != addr.Back(f) || info.TTL != 64 || !info.Stay || !same(info.UDP, d) {
			t.Error(info, e)
		}
		bad := f
		bad.Proto = api.TCP
		if b, e := s.LeaveUDP(bad, nil); e != api.ErrArg || len(b) != 0 {
			t.Error(e)
		}
		bad = f
		bad.Dst = api.Addr{High: 1}
		if _, e := s.LeaveUDP(bad, nil); e != api.ErrArg {
			t.Error(e)
		}
		if _, e := s.LeaveUDP(f, make([]byte, 65528)); e != api.ErrArg {
			t.Error(e)
		}
	}
	f := flow4
	f.Proto = api.UDP
	if b, e := s.LeaveUDP(f, make([]byte, 65527)); e != api.ErrLong || len(b) != 0 {
		t.Error(e)
	}
}

func learn(t *testing.T, s *Shim, x *config.State) {
	t.Helper()
	s.Forget()
	if e := s.Receive(follow.Message{Kind: follow.Whole, Num: x.Num, L: [][]byte{codec.State(x)}}); e != api.OK {
		t.Fatal(e)
	}
}

func state(t *testing.T, l ...int) *config.State {
	t.Helper()
	x := config.New(key)
	o := config.Op{Kind: config.SetMembers}
	for n := 1; n <= 6; n++ {
		x.Apply(config.Op{Kind: config.AddBackend, Backend: n, Addr: addr.V4(10, 0, 2, byte(n))})
	}
	for _, n := range l {
		o.Members = append(o.Members, config.Member{Backend: n, Weight: 1})
	}
	x.Apply(config.Op{Kind: config.AddVip, Addr: flow4.Dst, Port: 80, Proto: api.TCP, Way: 1})
	x.Apply(config.Op{Kind: config.AddVip, Addr: flow4.Dst, Port: 81, Proto: api.TCP, Way: 1})
	x.Apply(config.Op{Kind: config.SetMembers})
	if e := x.Apply(o); e != api.OK {
		t.Fatal(e)
	}
	return x
}

func TestPlaceAndIssue(t *testing.T) {
	s := shim(t)
	none := func(vip int) {
		t.Helper()
		if p, e := s.Place(vip); p != (cookie.Place{}) || e != api.ErrNone {
			t.Error(p, e)
		}
		if id, e := s.Issue(vip); len(id) != 0 || e != api.ErrNone {
			t.Error(id, e)
		}
	}
	none(0)
	learn(t, s, state(t, 1, 2))
	none(0)
	x := state(t, 1, 5, 2)
	learn(t, s, x)
	for _, vip := range []int{1, 2, -1} {
		none(vip)
	}
	want := cookie.Place{Version: 1, Slot: 1}
	if p, e := s.Place(0); p != want || e != api.OK {
		t.Error(p, e)
	}
	for n := range uint64(3) {
		made, _ := cid.Make(x.Ring, want, 100+n)
		if id, e := s.Issue(0); !bytes.Equal(id, made) || e != api.OK {
			t.Error(id, e)
		}
	}
	if id, e := s.Issue(0); len(id) != 0 || e != api.ErrNone {
		t.Error("the lease is used up:", id, e)
	}
	x.Apply(config.Op{Kind: config.SetMembers, Members: []config.Member{{Backend: 1, Weight: 1}}})
	learn(t, s, x)
	none(0)
	far, _ := New(5, 1, cid.Lease{Next: cid.MostOnce + 1, End: cid.MostOnce + 2})
	learn(t, far, state(t, 5))
	if id, e := far.Issue(0); len(id) != 0 || e != api.ErrArg {
		t.Error(id, e)
	}
}

func TestReport(t *testing.T) {
	s := shim(t)
	for n := range uint64(3) {
		if r := s.Report(7, n == 1); r != (load.Report{Backend: 5, Num: n + 1, Load: 7, Well: n == 1}) {
			t.Error(r)
		}
	}
}

func TestNilAndZero(t *testing.T) {
	var s *Shim
	f := flow4
	f.Proto = api.UDP
	if s.Backend() != 0 || s.Conns() != 0 || s.Report(1, true) != (load.Report{}) {
		t.Error("nil")
	}
	if _, e := s.LeaveUDP(f, nil); e != api.ErrNil {
		t.Error(e)
	}
	if _, e := s.Place(0); e != api.ErrNil {
		t.Error(e)
	}
	if _, e := s.Issue(0); e != api.ErrNil {
		t.Error(e)
	}
	inner := wrap(t, pack(t, flow4, segment(flow4, tcp.SYN, stamps(1, 2)).Bytes()))
	for _, s := range []*Shim{nil, {}} {
		if b, e := s.Leave(flow4, tcp.Segment{Options: []byte{1}}); len(b) != 0 || e != api.ErrNil {
			t.Error(e)
		}
		for _, b := range [][]byte{nil, inner} {
			if d, why := s.Arrive(b, 1); why != packet.NoTable || !same(d, Delivery{}) {
				t.Error(why)
			}
		}
	}
}

func TestSegmentsReachTheStackAsTheyWereSent(t *testing.T) {
	rnd := rand.New(rand.NewSource(29))
	p, e := plane.New(plane.Setting{Four: way.Src, Six: addr.V6(0, 1), Most: 1500})
	if e != api.OK {
		t.Fatal(e)
	}
	x := state(t, 5)
	p.Receive(follow.Message{Kind: follow.Whole, Num: x.Num, L: [][]byte{codec.State(x)}})
	s := shim(t)
	for range 100 {
		f := flow4
		f.SrcPort = uint16(rnd.Uint32())
		now := rnd.Uint32()
		first := tcp.Segment{SrcPort: f.SrcPort, DstPort: f.DstPort, Seq: rnd.Uint32(), Flags: tcp.SYN, Window: 5, Options: stamps(rnd.Uint32(), 0)}.Summed(f.Src, f.Dst)
		out := p.Process(pack2(t, f, first), [2]uint32{})
		if out.Kind != plane.Forward {
			t.Fatal(packet.Name(out.Why))
		}
		d, why := s.Arrive(out.Packet, now)
		if why != packet.Fine || !bytes.Equal(d.Load, first.Bytes()) {
			t.Fatal("the stack got something else")
		}
		b, e := s.Leave(f, segment(f, tcp.SYN|tcp.ACK, stamps(now, 1)))
		if e != api.OK {
			t.Fatal(e)
		}
		info, _ := packet.Host(b)
		val, _, _ := info.TCP.Stamp()
		_, mark := cookie.Part(val)
		if place, e := cookie.Seek(x.Ring, f, mark); e != api.OK || place != (cookie.Place{Version: 1, Slot: 0}) {
			t.Fatal(place, e)
		}
		ack := segment(f, tcp.ACK, stamps(9, val))
		out = p.Process(pack2(t, f, ack), [2]uint32{})
		d, why = s.Arrive(out.Packet, now+uint32(rnd.Intn(65536)))
		if why != packet.Fine || !bytes.Equal(d.Load, segment(f, tcp.ACK, stamps(9, now)).Bytes()) {
			t.Fatal("the tick did not come back")
		}
	}
}

// pack2 returns a packet that may still be forwarded.
func pack2(t *testing.T, f api.Flow, x tcp.Segment) []byte {
	t.Helper()
	b, e := ip4.Packet(ip4.Header{TTL: 9, Proto: 6, Src: f.Src, Dst: f.Dst}, x.Bytes())
	if e != api.OK {
		t.Fatal(e)
	}
	return b
}
