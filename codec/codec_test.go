package codec_test

import (
	"bytes"
	"fmt"
	"math"
	"math/rand"
	"testing"

	"counterfoil/addr"
	"counterfoil/api"
	. "counterfoil/codec"
	"counterfoil/config"
	"counterfoil/siphash"
)

// same reports whether two values print alike, as nil slices and empty ones do.
func same(a, b any) bool { return fmt.Sprintf("%+v", a) == fmt.Sprintf("%+v", b) }

func sample() config.Op {
	return config.Op{Kind: 3, Vip: 4, Backend: 5, Version: 6, Addr: addr.V4(1, 2, 3, 4), Port: 0x0708, Proto: 17, Way: 9,
		Members: []config.Member{{Backend: 10, Weight: 11}, {Backend: 255, Weight: 0}}}
}

func TestOp(t *testing.T) {
	want := []byte{3, 4, 5, 6, 4, 1, 2, 3, 4, 7, 8, 17, 9, 2, 10, 11, 255, 0}
	if !bytes.Equal(Op(sample()), want) {
		t.Error(Op(sample()))
	}
	if got, e := ParseOp(want); e != api.OK || !same(got, sample()) {
		t.Error(got, e)
	}
	if b := Op(config.Op{Kind: 8}); len(b) != 14 {
		t.Error(b)
	}
	six := config.Op{Kind: 1, Addr: addr.V6(1, 2)}
	if b := Op(six); len(b) != 26 || b[4] != 16 || b[12] != 1 || b[20] != 2 {
		t.Error(b)
	}
}

func TestRight(t *testing.T) {
	bad := []func(o *config.Op){
		func(o *config.Op) { o.Kind = 256 },
		func(o *config.Op) { o.Kind = -1 },
		func(o *config.Op) { o.Vip = 256 },
		func(o *config.Op) { o.Vip = math.MinInt },
		func(o *config.Op) { o.Backend = 256 },
		func(o *config.Op) { o.Version = -1 },
		func(o *config.Op) { o.Way = 256 },
		func(o *config.Op) { o.Addr = api.Addr{High: 1} },
		func(o *config.Op) { o.Members[1].Backend = 256 },
		func(o *config.Op) { o.Members[0].Weight = -1 },
		func(o *config.Op) { o.Members = make([]config.Member, 65) },
	}
	for i, f := range bad {
		o := sample()
		f(&o)
		if Right(o) || len(Op(o)) != 0 {
			t.Error(i)
		}
	}
	o := sample()
	o.Kind, o.Vip, o.Backend, o.Version, o.Way, o.Members = 255, 255, 255, 255, 255, make([]config.Member, 64)
	if !Right(o) || !Right(config.Op{}) {
		t.Error("valid")
	}
	if got, e := ParseOp(Op(o)); e != api.OK || !same(got, o) {
		t.Error(got, e)
	}
}

func TestParseOpRejects(t *testing.T) {
	good := Op(sample())
	for n := range good {
		if o, e := ParseOp(good[:n]); e != api.ErrForm || !same(o, config.Op{}) {
			t.Error(n, o, e)
		}
	}
	long := append(bytes.Clone(good[:13]), 65)
	long = append(long, make([]byte, 130)...)
	five := append([]byte{3, 4, 5, 6, 5, 0}, good[5:]...)
	for _, b := range [][]byte{append(bytes.Clone(good), 0), long, five, {0, 0, 0, 0, 0, 0, 0, 0, 0, 0}} {
		if o, e := ParseOp(b); e != api.ErrForm || !same(o, config.Op{}) {
			t.Error(b, o, e)
		}
	}
}

func apply(t *testing.T, s *config.State, ops ...config.Op) {
	t.Helper()
	for _, o := range ops {
		if e := s.Apply(o); e != api.OK {
			t.Fatal(o, e)
		}
	}
}

func vip(port uint16) config.Op {
	return config.Op{Kind: config.AddVip, Addr: addr.V4(9, 9, 9, 9), Port: port, Proto: 6, Way: 1}
}

func state(t *testing.T) *config.State {
	s := config.New(siphash.Of(1, 2))
	apply(t, s,
		config.Op{Kind: config.AddBackend, Backend: 7, Addr: addr.V6(1, 2)},
		config.Op{Kind: config.AddBackend, Backend: 2, Addr: addr.V4(5, 6, 7, 8)},
		vip(80), vip(81),
		config.Op{Kind: config.SetMembers, Vip: 1, Members: []config.Member{{Backend: 7, Weight: 3}}},
		config.Op{Kind: config.Evict, Backend: 2},
		config.Op{Kind: config.Rotate})
	return s
}

func TestState(t *testing.T) {
	s := state(t)
	want := []byte{0, 0, 0, 0, 0, 0, 0, 7}
	want = append(want, s.Ring.Bytes()...)
	want = append(want, 2, 4, 5, 6, 7, 8, 7, 16, 0, 0, 0, 0, 0, 0, 0, 1, 0, 0, 0, 0, 0, 0, 0, 2, 0)
	want = append(want, 2)
	want = append(want, 4, 9, 9, 9, 9, 0, 80, 6, 1, 0, 0, 4, 0, 1, 2, 0)
	want = append(want, 4, 9, 9, 9, 9, 0, 81, 6, 1, 1, 7, 3, 0, 8, 1, 0, 0, 1, 7, 1, 2, 0)
	if got := State(s); !bytes.Equal(got, want) {
		t.Errorf("%v\n%v", got, want)
	}
	got, e := ParseState(want)
	if e != api.OK || !bytes.Equal(State(got), want) || got.Num != 7 || got.Ring != s.Ring || got.Len() != 2 || got.Find(addr.V4(9, 9, 9, 9), 81, 6) != 1 {
		t.Error(got, e)
	}
	if a, ok := got.Backend(7); a != addr.V6(1, 2) || !ok {
		t.Error(a, ok)
	}
	if v, _ := got.Vip(1); v.Weight(7) != 3 || !v.Tables.Evicted(2) || v.Tables.Len() != 1 || v.Way != 1 {
		t.Error(v)
	}
	if len(State(nil)) != 0 {
		t.Error("nil")
	}
	empty := config.New(siphash.Of(1, 2))
	if got, e := ParseState(State(empty)); e != api.OK || got.Ring != empty.Ring || got.Num != 0 || got.Len() != 0 || len(State(empty)) != 34 {
		t.Error(got, e)
	}
}

func TestAllNumbersOfBackends(t *testing.T) {
	s := config.New(siphash.Of(1, 2))
	for n := 1; n <= api.MaxBackends; n++ {
		apply(t, s, config.Op{Kind: config.AddBackend, Backend: n, Addr: addr.V4(1, 1, 1, byte(n))})
	}
	b := State(s)
	if len(b) != 8+24+64*6+2 {
		t.Error(len(b))
	}
	got, e := ParseState(b)
	if e != api.OK || !bytes.Equal(State(got), b) {
		t.Error(e)
	}
	if a, ok := got.Backend(64); a != addr.V4(1, 1, 1, 64) || !ok {
		t.Error(a, ok)
	}
}

func TestParseStateRejects(t *testing.T) {
	good := State(state(t))
	reject := func(name string, b []byte) {
		t.Helper()
		if s, e := ParseState(b); s != nil || e != api.ErrForm {
			t.Error(name, s, e)
		}
	}
	for n := range good {
		reject("too short", good[:n])
	}
	reject("too long", append(bytes.Clone(good), 0))
	head := good[:32]
	join := func(l ...[]byte) []byte { return bytes.Join(l, nil) }
	two := []byte{2, 4, 5, 6, 7, 8}
	seven := []byte{7, 4, 5, 6, 7, 9}
	service := func(port, way, proto byte, rest ...byte) []byte {
		return append([]byte{4, 9, 9, 9, 9, 0, port, proto, way}, rest...)
	}
	plain := []byte{0, 0, 3, 0, 0, 0}
	if _, e := ParseState(join(head, two, seven, []byte{0, 1}, service(80, 1, 6, plain...))); e != api.OK {
		t.Error("a state:", e)
	}
	reject("descending", join(head, seven, two, []byte{0, 0}))
	reject("twice", join(head, two, two, []byte{0, 0}))
	reject("no backend", join(head, []byte{65, 4, 5, 6, 7, 8}, []byte{0, 0}))
	reject("no address", join(head, []byte{2, 3, 5, 6, 7}, []byte{0, 0}))
	reject("the same service", join(head, []byte{0, 2}, service(80, 1, 6, plain...), service(80, 2, 6, plain...)))
	reject("no policy", join(head, []byte{0, 1}, service(80, 5, 6, plain...)))
	reject("no protocol", join(head, []byte{0, 1}, service(80, 1, 1, plain...)))
	reject("a member that is not known", join(head, two, []byte{0, 1}, service(80, 1, 6, 1, 3, 1, 0, 3, 0, 0, 0)))
	reject("a member twice", join(head, two, []byte{0, 1}, service(80, 1, 6, 2, 2, 1, 2, 1, 0, 3, 0, 0, 0)))
	reject("a weight", join(head, two, []byte{0, 1}, service(80, 1, 6, 1, 2, 101, 0, 3, 0, 0, 0)))
	reject("evicted, but not known", join(head, two, []byte{0, 1}, service(80, 1, 6, 0, 0, 4, 0, 1, 3, 0)))
	reject("other evictions", join(head, two, []byte{0, 2}, service(80, 1, 6, 0, 0, 4, 0, 1, 2, 0), service(81, 1, 6, plain...)))
	reject("more evictions", join(head, two, []byte{0, 2}, service(80, 1, 6, plain...), service(81, 1, 6, 0, 0, 4, 0, 1, 2, 0)))
	reject("no tables", join(head, []byte{0, 1}, service(80, 1, 6, 0, 0, 0)))
	reject("tables that are too long", join(head, []byte{0, 1}, service(80, 1, 6, 0, 0, 4, 0, 0, 0, 0)))
	many := join(head, []byte{0, 17})
	for i := range 17 {
		many = append(many, service(byte(i), 1, 6, plain...)...)
	}
	reject("too many services", many)
}

func TestParseInverts(t *testing.T) {
	rnd := rand.New(rand.NewSource(20))
	for range 60 {
		s := config.New(siphash.Of(rnd.Uint64(), rnd.Uint64()))
		for range 60 {
			o := config.Op{Kind: rnd.Intn(10), Vip: rnd.Intn(3), Backend: 1 + rnd.Intn(5), Version: rnd.Intn(8), Addr: addr.V4(1, 1, 1, byte(rnd.Intn(3))),
				Port: uint16(rnd.Intn(3)), Proto: []uint8{6, 17}[rnd.Intn(2)], Way: 1 + rnd.Intn(4)}
			for range rnd.Intn(3) {
				o.Members = append(o.Members, config.Member{Backend: 1 + rnd.Intn(5), Weight: rnd.Intn(101)})
			}
			if got, e := ParseOp(Op(o)); e != api.OK || !same(got, o) {
				t.Fatal(got, o, e)
			}
			s.Apply(o)
		}
		got, e := ParseState(State(s))
		if e != api.OK || !bytes.Equal(State(got), State(s)) || got.Num != s.Num || got.Ring != s.Ring || got.Len() != s.Len() {
			t.Fatal("ParseState does not invert State:", e)
		}
	}
}
