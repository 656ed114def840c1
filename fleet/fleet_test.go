package fleet_test

import (
	"bytes"
	"fmt"
	"math"
	"math/rand"
	"testing"

	"counterfoil/addr"
	"counterfoil/api"
	"counterfoil/cid"
	"counterfoil/codec"
	"counterfoil/config"
	"counterfoil/cookie"
	. "counterfoil/fleet"
	"counterfoil/follow"
	"counterfoil/packet"
	"counterfoil/plane"
	"counterfoil/policy"
	"counterfoil/ring"
	"counterfoil/siphash"
	"counterfoil/tcp"
	"counterfoil/tunnel"
	"counterfoil/udp"
)

// same reports whether two values print alike, as nil slices and empty ones do.
func same(a, b any) bool { return fmt.Sprintf("%+v", a) == fmt.Sprintf("%+v", b) }

var (
	web4 = addr.V4(9, 9, 9, 9)
	web6 = addr.V6(9, 9)
	tcp4 = api.Flow{Src: addr.V4(1, 2, 3, 4), Dst: web4, SrcPort: 1000, DstPort: 80, Proto: api.TCP}
	tcp6 = api.Flow{Src: addr.V6(1, 2), Dst: web6, SrcPort: 1000, DstPort: 80, Proto: api.TCP}
	udp4 = api.Flow{Src: addr.V4(1, 2, 3, 4), Dst: web4, SrcPort: 1000, DstPort: 443, Proto: api.UDP}
)

func setting() Setting {
	return Setting{Key: siphash.Of(0, 1), Replicas: 2, Backends: 3, Flows: []api.Flow{tcp4, tcp6, udp4}, Most: 1500, Conns: 16, Disk: 65536, Mail: 64}
}

func fleet(t *testing.T, s Setting) *Fleet {
	t.Helper()
	x, e := New(s)
	if e != api.OK {
		t.Fatal(e)
	}
	return x
}

// do executes a step of the control plane and checks its error.
func do(t *testing.T, x *Fleet, s Step, want api.Errno) {
	t.Helper()
	if got := x.Do(s); !same(got, Event{Errno: want}) {
		t.Fatalf("%+v: %+v, not %d", s, got, want)
	}
}

func backend(n int) config.Op {
	return config.Op{Kind: config.AddBackend, Backend: n, Addr: addr.V4(10, 0, 2, byte(n))}
}

func vip(f api.Flow) config.Op {
	return config.Op{Kind: config.AddVip, Addr: f.Dst, Port: f.DstPort, Proto: f.Proto, Way: policy.Turns}
}

func members(vip int, l ...int) config.Op {
	o := config.Op{Kind: config.SetMembers, Vip: vip}
	for _, n := range l {
		o.Members = append(o.Members, config.Member{Backend: n, Weight: 1})
	}
	return o
}

// issue issues operations, makes them safe, and tells all nodes.
func issue(t *testing.T, x *Fleet, ops ...config.Op) {
	t.Helper()
	for _, o := range ops {
		do(t, x, Step{Kind: Issue, Op: o}, api.OK)
	}
	do(t, x, Step{Kind: Commit}, api.OK)
	x.Settle(3 + len(ops)/16)
}

// serving returns a fleet whose nodes know services for all three flows.
func serving(t *testing.T) *Fleet {
	t.Helper()
	x := fleet(t, setting())
	issue(t, x, backend(1), backend(2), backend(3), vip(tcp4), vip(tcp6), vip(udp4), members(0, 1, 2), members(1, 1, 2, 3), members(2, 3))
	return x
}

func TestRight(t *testing.T) {
	change := func(f func(s *Setting)) Setting {
		s := setting()
		f(&s)
		return s
	}
	good := []Setting{
		setting(),
		change(func(s *Setting) { s.Replicas, s.Backends = 1, 15 }),
		change(func(s *Setting) { s.Replicas, s.Backends = 15, 1 }),
		change(func(s *Setting) { s.Most, s.Conns = 576, 1 }),
		change(func(s *Setting) { s.Most, s.Conns = 9000, 1024 }),
		change(func(s *Setting) { s.Flows = nil }),
		change(func(s *Setting) { s.Disk, s.Mail = -1, -1 }),
		change(func(s *Setting) {
			s.Flows = nil
			for range 1024 {
				s.Flows = append(s.Flows, tcp4)
			}
		}),
	}
	for i, s := range good {
		if x, e := New(s); !Right(s) || x == nil || e != api.OK {
			t.Error("good", i)
		}
	}
	bad := []Setting{
		{},
		change(func(s *Setting) { s.Replicas = 0 }),
		change(func(s *Setting) { s.Backends = 0 }),
		change(func(s *Setting) { s.Backends = -1 }),
		change(func(s *Setting) { s.Replicas, s.Backends = 8, 9 }),
		change(func(s *Setting) { s.Replicas, s.Backends = math.MaxInt, math.MaxInt }),
		change(func(s *Setting) { s.Replicas, s.Backends = 17, 1 }),
		change(func(s *Setting) { s.Most = 575 }),
		change(func(s *Setting) { s.Most = 9001 }),
		change(func(s *Setting) { s.Conns = 0 }),
		change(func(s *Setting) { s.Conns = 1025 }),
		change(func(s *Setting) { s.Flows[0].Proto = api.ICMP }),
		change(func(s *Setting) { s.Flows[1].Src = web4 }),
		change(func(s *Setting) { s.Flows[2].Src = api.Addr{High: 1} }),
		change(func(s *Setting) { s.Flows[2].Dst = api.Addr{Low: 1 << 32} }),
		change(func(s *Setting) {
			s.Flows = nil
			for range 1025 {
				s.Flows = append(s.Flows, tcp4)
			}
		}),
	}
	for i, s := range bad {
		if x, e := New(s); Right(s) || x != nil || e != api.ErrArg {
			t.Error("bad", i)
		}
	}
}

func TestKinds(t *testing.T) {
	got := []int{Issue, Commit, Crash, Offer, Deliver, Drop, Twice, Restart, Report, Send, Reply, Tick, Quic, Give, Move}
	for i, kind := range got {
		if kind != i {
			t.Error(i, kind)
		}
	}
}

func TestParts(t *testing.T) {
	x := fleet(t, setting())
	if x.Now() != 0 || x.Letters() != 0 || x.Controller() == nil {
		t.Error("a new fleet")
	}
	for n := -2; n < 5; n++ {
		if (x.Replica(n) != nil) != (n >= 0 && n < 2) || (x.Shim(n) != nil) != (n >= 0 && n < 3) || (x.Client(n) != nil) != (n >= 0 && n < 3) {
			t.Error(n)
		}
		if h := x.Shim(n); h != nil && h.Backend() != n+1 {
			t.Error(h.Backend())
		}
	}
	if x.Client(1).Flow() != tcp6 {
		t.Error(x.Client(1).Flow())
	}
	do(t, x, Step{Kind: Tick, N: 7}, api.OK)
	do(t, x, Step{Kind: Tick, N: math.MaxUint32}, api.OK)
	if x.Now() != 6 {
		t.Error(x.Now())
	}
	for _, kind := range []int{-1, Move + 1, 99} {
		do(t, x, Step{Kind: kind}, api.ErrArg)
	}
}

func TestIssueCommitCrash(t *testing.T) {
	x := fleet(t, setting())
	do(t, x, Step{Kind: Issue, Op: members(0)}, api.ErrNone)
	do(t, x, Step{Kind: Issue, Op: backend(1)}, api.OK)
	do(t, x, Step{Kind: Commit}, api.OK)
	do(t, x, Step{Kind: Issue, Op: backend(2)}, api.OK)
	do(t, x, Step{Kind: Issue, Op: backend(3)}, api.OK)
	x.Settle(1)
	if x.Controller().Acked(4) != 1 {
		t.Error(x.Controller().Acked(4))
	}
	size := len(codec.Op(backend(2))) + 14
	do(t, x, Step{Kind: Crash, Who: size + 1, Flags: 1}, api.OK)
	if safe, issued := x.Controller().Len(); safe != 2 || issued != 2 || x.Controller().Acked(4) != 0 {
		t.Error(safe, issued)
	}
	do(t, x, Step{Kind: Issue, Op: backend(3)}, api.OK)
	do(t, x, Step{Kind: Crash, Who: size, Flags: 1}, api.OK)
	do(t, x, Step{Kind: Crash, Who: -1}, api.OK)
	if safe, issued := x.Controller().Len(); safe != 2 || issued != 2 {
		t.Error("the record was damaged:", safe, issued)
	}
}

func TestKeyOutlivesACrash(t *testing.T) {
	x := serving(t)
	was := x.Controller().State().Ring
	do(t, x, Step{Kind: Crash}, api.OK)
	if now := x.Controller().State().Ring; now != was || now != ring.New(siphash.Of(0, 1), 0) {
		t.Error("another key")
	}
	if safe, issued := x.Controller().Len(); safe != 9 || issued != 9 || x.Replica(0).Known() != 9 {
		t.Error(safe, issued)
	}
}

func TestLetters(t *testing.T) {
	s := setting()
	s.Mail = 2
	x := fleet(t, s)
	do(t, x, Step{Kind: Offer, Who: 0}, api.ErrNone)
	for _, n := range []int{-1, 5, math.MaxInt, math.MinInt} {
		do(t, x, Step{Kind: Offer, Who: n}, api.ErrArg)
	}
	for _, kind := range []int{Deliver, Drop, Twice} {
		do(t, x, Step{Kind: kind}, api.ErrNone)
	}
	do(t, x, Step{Kind: Issue, Op: backend(1)}, api.OK)
	do(t, x, Step{Kind: Offer, Who: 0}, api.ErrNone)
	do(t, x, Step{Kind: Commit}, api.OK)
	do(t, x, Step{Kind: Offer, Who: 0}, api.OK)
	do(t, x, Step{Kind: Offer, Who: 4}, api.OK)
	do(t, x, Step{Kind: Offer, Who: 1}, api.ErrFull)
	do(t, x, Step{Kind: Twice, Who: 1}, api.ErrFull)
	if x.Letters() != 2 {
		t.Error(x.Letters())
	}
	do(t, x, Step{Kind: Deliver, Who: 1}, api.OK)
	if x.Shim(2).Known() != 1 || x.Letters() != 2 || x.Controller().Acked(4) != 0 {
		t.Error(x.Shim(2).Known(), x.Letters())
	}
	do(t, x, Step{Kind: Deliver, Who: 1}, api.OK)
	if x.Controller().Acked(4) != 1 || x.Letters() != 1 {
		t.Error(x.Controller().Acked(4))
	}
	do(t, x, Step{Kind: Twice, Who: 0}, api.OK)
	do(t, x, Step{Kind: Deliver, Who: 0}, api.OK)
	do(t, x, Step{Kind: Deliver, Who: 0}, api.ErrTwice)
	if x.Replica(0).Known() != 1 || x.Letters() != 2 {
		t.Error("a refused letter is answered, too:", x.Letters())
	}
	do(t, x, Step{Kind: Drop, Who: 0}, api.OK)
	do(t, x, Step{Kind: Deliver, Who: 0}, api.OK)
	if x.Controller().Told(0) != 1 || x.Letters() != 0 {
		t.Error(x.Controller().Told(0))
	}
	do(t, x, Step{Kind: Offer, Who: 0}, api.ErrNone)
}

func TestRestart(t *testing.T) {
	x := serving(t)
	do(t, x, Step{Kind: Issue, Op: config.Op{Kind: config.Rotate}}, api.OK)
	do(t, x, Step{Kind: Commit}, api.OK)
	do(t, x, Step{Kind: Offer, Who: 1}, api.OK)
	do(t, x, Step{Kind: Offer, Who: 0}, api.OK)
	do(t, x, Step{Kind: Restart, Who: 1}, api.OK)
	if x.Replica(1).State() != nil || x.Letters() != 1 || x.Controller().Told(1) != 0 || x.Controller().Acked(1) != 9 {
		t.Error("a restart")
	}
	for _, n := range []int{-1, 2, 4} {
		do(t, x, Step{Kind: Restart, Who: n}, api.ErrArg)
	}
	x.Settle(3)
	if x.Replica(1).Known() != 10 || x.Replica(0).Known() != 10 {
		t.Error(x.Replica(1).Known())
	}
}

func TestReport(t *testing.T) {
	x := serving(t)
	do(t, x, Step{Kind: Report, Who: 2, N: 7, Flags: 1}, api.OK)
	do(t, x, Step{Kind: Report, Who: 1, N: 8}, api.OK)
	for n := range 2 {
		book := x.Replica(n).Book
		if book.Load(3) != 7 || !book.Well(3) || book.Load(2) != 8 || book.Well(2) || len(book.All()) != 2 {
			t.Error("replica", n)
		}
	}
	for _, n := range []int{-1, 3} {
		do(t, x, Step{Kind: Report, Who: n}, api.ErrArg)
	}
	do(t, x, Step{Kind: Report, Who: 2, N: 9, Flags: 255}, api.OK)
	if x.Replica(1).Book.Load(3) != 9 || !x.Replica(1).Book.Well(3) {
		t.Error("a later report")
	}
}

func TestSendAndReply(t *testing.T) {
	for who := range 2 {
		x := serving(t)
		do(t, x, Step{Kind: Tick, N: 0x54321}, api.OK)
		out := x.Do(Step{Kind: Send, Who: who, At: 1, Flags: tcp.SYN, Load: []byte("hi")})
		f := x.Client(who).Flow()
		if out.Kind != plane.Forward || out.Why != packet.Fine || out.Backend != 1 || !tcp.Fine(out.Load, f.Src, f.Dst) || string(out.Load[32:]) != "hi" {
			t.Errorf("%+v", out)
		}
		do(t, x, Step{Kind: Reply, Who: who, At: 1, Flags: tcp.SYN | tcp.ACK}, api.ErrNone)
		back := x.Do(Step{Kind: Reply, Who: who, At: 0, Flags: tcp.SYN | tcp.ACK, Load: []byte("yes")})
		info, why := packet.Read(back.Load)
		val, echo, _ := info.TCP.Stamp()
		if back.Errno != api.OK || back.Kind != 0 || back.Why != 0 || back.Backend != 1 || why != packet.Fine || string(info.TCP.Load) != "yes" || info.TCP.Flags != tcp.SYN|tcp.ACK || val>>16 != 0x4321 || echo != 0 {
			t.Errorf("%+v", back)
		}
		if got, ok := x.Client(who).Recent(); got != val || !ok {
			t.Error("the client did not take the packet")
		}
		do(t, x, Step{Kind: Tick, N: 9}, api.OK)
		out = x.Do(Step{Kind: Send, Who: who, At: 0, Flags: tcp.ACK})
		s, _ := tcp.Parse(out.Load)
		if _, echo, _ := s.Stamp(); out.Backend != 1 || out.Why != packet.Fine || echo != 0x54321 {
			t.Errorf("%+v %x", out, echo)
		}
	}
}

func TestAddressesOfReplicas(t *testing.T) {
	x := serving(t)
	do(t, x, Step{Kind: Issue, Op: config.Op{Kind: config.AddBackend, Backend: 1, Addr: addr.V6(5, 5)}}, api.OK)
	do(t, x, Step{Kind: Commit}, api.OK)
	x.Settle(3)
	for n := range 2 {
		for range 2 {
			b, e := x.Client(0).Send(tcp.SYN, nil)
			if e != api.OK {
				t.Fatal(e)
			}
			out := x.Replica(n).Process(b, [2]uint32{})
			want := addr.V4(10, 0, 1, byte(n+1))
			if out.Backend == 1 {
				want = addr.V6(0, uint64(n+1))
			}
			if _, way, e := tunnel.Unwrap(out.Packet); way.Src != want || e != api.OK {
				t.Error(n, way, e)
			}
		}
	}
}

func TestSendOutcomes(t *testing.T) {
	x := fleet(t, setting())
	if out := x.Do(Step{Kind: Send, Flags: tcp.SYN}); !same(out, Event{Why: packet.NoTable}) {
		t.Errorf("%+v", out)
	}
	for _, s := range []Step{{Who: 3}, {Who: -1}, {At: 2}, {At: -1}} {
		for _, kind := range []int{Send, Quic} {
			s.Kind = kind
			do(t, x, s, api.ErrArg)
		}
	}
	do(t, x, Step{Kind: Send, Who: 2}, api.ErrArg)
	do(t, x, Step{Kind: Quic, Who: 0}, api.ErrArg)
	do(t, x, Step{Kind: Send, Load: make([]byte, 65500)}, api.ErrLong)
	x = serving(t)
	out := x.Do(Step{Kind: Send, Flags: tcp.SYN, Load: make([]byte, 1450)})
	if out.Kind != plane.Answer || out.Why != packet.TooBig || out.Backend != 0 || len(out.Load) != 0 {
		t.Errorf("%+v", out)
	}
	issue(t, x, backend(4), members(0, 4))
	if out := x.Do(Step{Kind: Send, Flags: tcp.SYN}); !same(out, Event{Kind: plane.Forward, Backend: 4}) {
		t.Errorf("there is no shim for this backend: %+v", out)
	}
	if out := x.Do(Step{Kind: Send, Flags: tcp.ACK}); out.Kind != plane.Drop || out.Why == packet.Fine {
		t.Errorf("%+v", out)
	}
}

func TestDraws(t *testing.T) {
	x := fleet(t, setting())
	o := vip(tcp4)
	o.Way = policy.Draws
	issue(t, x, backend(1), backend(2), backend(3), o, members(0, 1, 2, 3))
	for n, want := range []int{1, 2, 3} {
		if out := x.Do(Step{Kind: Send, Flags: tcp.SYN, X: uint32(n), Y: uint32(n + 3)}); out.Backend != want {
			t.Errorf("%+v", out)
		}
	}
	do(t, x, Step{Kind: Report, Who: 0, N: 5, Flags: 1}, api.OK)
	if out := x.Do(Step{Kind: Send, Flags: tcp.SYN, X: 0, Y: 2}); out.Backend != 3 {
		t.Errorf("%+v", out)
	}
}

func TestReplyErrors(t *testing.T) {
	x := serving(t)
	for _, s := range []Step{{Who: 3}, {Who: -1}, {At: 3}, {At: -1}} {
		for _, kind := range []int{Reply, Give} {
			s.Kind = kind
			do(t, x, s, api.ErrArg)
		}
	}
	do(t, x, Step{Kind: Reply, Who: 2}, api.ErrArg)
	do(t, x, Step{Kind: Reply, Who: 0}, api.ErrNone)
}

func TestQuicAndGive(t *testing.T) {
	x := serving(t)
	do(t, x, Step{Kind: Give, Who: 2, At: 0}, api.ErrNone)
	out := x.Do(Step{Kind: Quic, Who: 2, At: 1, Load: []byte("hi")})
	d, e := udp.Parse(out.Load)
	if out.Kind != plane.Forward || out.Backend != 3 || e != api.OK || d.Load[0] != 0xC0 {
		t.Errorf("%+v", out)
	}
	// The client is of TCP: no ID can be sent to it, and none is used up.
	do(t, x, Step{Kind: Give, Who: 1, At: 2}, api.ErrArg)
	given := x.Do(Step{Kind: Give, Who: 2, At: 2})
	id, _ := cid.Make(x.Controller().State().Ring, cookie.Place{}, 2<<20)
	if !same(given, Event{Backend: 3, Load: id}) || !bytes.Equal(x.Client(2).ID(), id) {
		t.Errorf("%+v", given)
	}
	do(t, x, Step{Kind: Move, Who: 2, Src: addr.V4(7, 7, 7, 7), Port: 70}, api.OK)
	out = x.Do(Step{Kind: Quic, Who: 2, At: 0})
	if d, _ := udp.Parse(out.Load); out.Backend != 3 || d.Load[0] != 0x40 || d.SrcPort != 70 {
		t.Errorf("%+v", out)
	}
	again := x.Do(Step{Kind: Give, Who: 2, At: 2})
	if _, n, e := cid.Read(x.Controller().State().Ring, again.Load); n != 2<<20+1 || e != api.OK {
		t.Error(n, e)
	}
	empty := fleet(t, setting())
	do(t, empty, Step{Kind: Give, Who: 2, At: 2}, api.ErrNone)
}

func TestMove(t *testing.T) {
	x := serving(t)
	for _, s := range []Step{{Who: 3}, {Who: -1}, {Src: api.Addr{High: 1}}} {
		s.Kind = Move
		do(t, x, s, api.ErrArg)
	}
	do(t, x, Step{Kind: Move, Src: addr.V6(1, 1), Port: 9}, api.OK)
	if x.Client(0).Flow() != tcp4 {
		t.Error("the other family")
	}
	do(t, x, Step{Kind: Move, Src: addr.V4(4, 4, 4, 4), Port: 9}, api.OK)
	if f := x.Client(0).Flow(); f.Src != addr.V4(4, 4, 4, 4) || f.SrcPort != 9 {
		t.Error(f)
	}
}

func TestNil(t *testing.T) {
	var x *Fleet
	x.Settle(5)
	if x.Now() != 0 || x.Controller() != nil || x.Replica(0) != nil || x.Shim(0) != nil || x.Client(0) != nil || x.Letters() != 0 {
		t.Error("nil")
	}
	for kind := -1; kind < 20; kind++ {
		do(t, x, Step{Kind: kind}, api.ErrNil)
	}
}

func TestSettle(t *testing.T) {
	x := fleet(t, setting())
	do(t, x, Step{Kind: Issue, Op: backend(1)}, api.OK)
	do(t, x, Step{Kind: Commit}, api.OK)
	x.Settle(0)
	x.Settle(-3)
	if x.Replica(0).Known() != 0 {
		t.Error("no rounds")
	}
	x.Settle(math.MaxInt)
	for n := range 5 {
		if x.Controller().Told(n) != 1 {
			t.Error(n)
		}
	}
	s := setting()
	s.Mail = 0
	x = fleet(t, s)
	do(t, x, Step{Kind: Issue, Op: backend(1)}, api.OK)
	do(t, x, Step{Kind: Commit}, api.OK)
	x.Settle(math.MaxInt)
	if x.Replica(0).Known() != 0 {
		t.Error("without space")
	}
}

// follower returns the follower of a node.
func follower(x *Fleet, n int) *follow.Follower {
	if n < 2 {
		return &x.Replica(n).Follower
	}
	return &x.Shim(n - 2).Follower
}

// stir executes random steps of the control plane.
func stir(rnd *rand.Rand, x *Fleet, steps int) {
	for range steps {
		s := Step{Kind: []int{Issue, Issue, Commit, Offer, Offer, Offer, Deliver, Deliver, Deliver, Drop, Twice, Restart, Crash}[rnd.Intn(13)], Who: rnd.Intn(5)}
		s.Op = []config.Op{backend(1 + rnd.Intn(3)), vip(tcp4), members(0, 1+rnd.Intn(3), 1), {Kind: config.Rotate}, {Kind: config.Retire, Version: rnd.Intn(8)},
			{Kind: config.Release, Version: rnd.Intn(8)}}[rnd.Intn(6)]
		x.Do(s)
	}
}

func TestAllNodesLearnTheSafeOperations(t *testing.T) {
	rnd := rand.New(rand.NewSource(31))
	for range 60 {
		s := setting()
		s.Mail = 1 + rnd.Intn(3)
		x := fleet(t, s)
		stir(rnd, x, 300)
		safe, _ := x.Controller().Len()
		x.Settle(3 + safe/16)
		want := codec.State(x.Controller().State())
		for n := range 5 {
			f := follower(x, n)
			if safe > 0 && !bytes.Equal(codec.State(f.State()), want) {
				t.Fatal("node", n, "knows", f.Known(), "of", safe)
			}
		}
	}
}

func TestSegmentsGoToTheirBackendOrAreDropped(t *testing.T) {
	rnd := rand.New(rand.NewSource(32))
	hits := 0
	for range 40 {
		s := setting()
		s.Flows = []api.Flow{tcp4, tcp6}
		x := fleet(t, s)
		issue(t, x, backend(1), backend(2), backend(3), vip(tcp4), vip(tcp6), members(0, 1, 2, 3), members(1, 1, 2, 3))
		owner := []int{0, 0}
		for round := range 60 {
			if round == 40 {
				x.Do(Step{Kind: Issue, Op: config.Op{Kind: config.Rotate}})
			}
			who := rnd.Intn(2)
			switch rnd.Intn(6) {
			case 0:
				o := []config.Op{members(rnd.Intn(2), 1+rnd.Intn(3)), members(rnd.Intn(2), 1, 2, 3), {Kind: config.Retire, Vip: rnd.Intn(2), Version: rnd.Intn(3)},
					{Kind: config.Release, Vip: rnd.Intn(2), Version: rnd.Intn(3)}, {Kind: config.Evict, Backend: 1 + rnd.Intn(3)}, {Kind: config.Admit, Backend: 1 + rnd.Intn(3)}}[rnd.Intn(6)]
				x.Do(Step{Kind: Issue, Op: o})
				x.Do(Step{Kind: Commit})
			case 1:
				x.Do(Step{Kind: Offer, Who: rnd.Intn(5)})
				x.Do(Step{Kind: Deliver, Who: rnd.Intn(3)})
			case 2:
				if owner[who] == 0 {
					x.Do(Step{Kind: Send, Who: who, At: rnd.Intn(2), Flags: tcp.SYN})
				}
				for h := range 3 {
					if owner[who] != 0 && h != owner[who]-1 {
						continue
					}
					if e := x.Do(Step{Kind: Reply, Who: who, At: h, Flags: tcp.ACK}); e.Errno == api.OK {
						owner[who] = e.Backend
						break
					}
				}
			default:
				out := x.Do(Step{Kind: Send, Who: who, At: rnd.Intn(2), Flags: tcp.ACK})
				if owner[who] == 0 || out.Kind != plane.Forward {
					continue
				}
				hits++
				if out.Backend != owner[who] {
					t.Fatalf("%+v, not %d", out, owner[who])
				}
			}
		}
	}
	if hits < 100 {
		t.Error("hardly anything was forwarded:", hits)
	}
}
