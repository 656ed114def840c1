package follow_test

import (
	"bytes"
	"fmt"
	"math"
	"math/rand"
	"testing"

	"counterfoil/addr"
	"counterfoil/api"
	"counterfoil/codec"
	"counterfoil/config"
	"counterfoil/control"
	"counterfoil/disk"
	. "counterfoil/follow"
	"counterfoil/siphash"
)

// same reports whether two values print alike, as nil slices and empty ones do.
func same(a, b any) bool { return fmt.Sprintf("%+v", a) == fmt.Sprintf("%+v", b) }

var key = siphash.Of(1, 2)

func backend(n int) config.Op {
	return config.Op{Kind: config.AddBackend, Backend: n, Addr: addr.V4(10, 0, 2, byte(n))}
}

// controller returns one with n safe operations.
func controller(t *testing.T, n int) *control.Controller {
	t.Helper()
	c, e := control.Open(disk.New(1<<20), key, 2)
	if e != api.OK {
		t.Fatal(e)
	}
	for i := range n {
		if e := c.Issue(backend(i%64 + 1)); e != api.OK {
			t.Fatal(e)
		}
	}
	c.Commit()
	return c
}

func TestMessages(t *testing.T) {
	m := Message{Kind: Ops, Num: 0x0102030405060708, L: [][]byte{{9, 8}, nil, {7}}}
	want := []byte{1, 1, 2, 3, 4, 5, 6, 7, 8, 3, 0, 2, 9, 8, 0, 0, 0, 1, 7}
	if !bytes.Equal(m.Bytes(), want) {
		t.Error(m.Bytes())
	}
	got, e := Parse(want)
	if e != api.OK || got.Kind != Ops || got.Num != m.Num || len(got.L) != 3 || !bytes.Equal(got.Bytes(), want) {
		t.Error(got, e)
	}
	if b := (Message{Kind: Ack, Num: 5}).Bytes(); !bytes.Equal(b, []byte{3, 0, 0, 0, 0, 0, 0, 0, 5, 0}) {
		t.Error(b)
	}
	some := make([][]byte, 16)
	good := []Message{{Kind: Ops, L: some}, {Kind: Ops, L: some[:1]}, {Kind: Whole, L: some[:1]}, {Kind: Ack}, {Kind: Whole, L: [][]byte{make([]byte, 65535)}}}
	for i, m := range good {
		if got, e := Parse(m.Bytes()); !m.Right() || e != api.OK || got.Kind != m.Kind || len(got.L) != len(m.L) {
			t.Error(i, got, e)
		}
	}
	bad := []Message{{}, {Kind: 4}, {Kind: -1}, {Kind: 257, L: some[:1]}, {Kind: Ops}, {Kind: Ops, L: make([][]byte, 17)}, {Kind: Whole}, {Kind: Whole, L: some[:2]},
		{Kind: Ack, L: some[:1]}, {Kind: Whole, L: [][]byte{make([]byte, 65536)}}}
	for i, m := range bad {
		if m.Right() || len(m.Bytes()) != 0 {
			t.Error(i)
		}
		if e := (&Follower{}).Receive(m); e != api.ErrArg {
			t.Error(i, e)
		}
	}
}

func TestConstants(t *testing.T) {
	if Ops != 1 || Whole != 2 || Ack != 3 || MostOps != 16 {
		t.Error("constants")
	}
}

func TestParseRejects(t *testing.T) {
	good := Message{Kind: Ops, Num: 1, L: [][]byte{{9, 8}, {7}}}.Bytes()
	for n := range good {
		if m, e := Parse(good[:n]); e != api.ErrForm || !same(m, Message{}) {
			t.Error(n, m, e)
		}
	}
	head := func(kind, parts byte) []byte { return []byte{kind, 0, 0, 0, 0, 0, 0, 0, 1, parts} }
	for _, b := range [][]byte{append(bytes.Clone(good), 0), head(0, 0), head(1, 0), head(2, 0), head(4, 0), append(head(3, 1), 0, 0),
		append(head(2, 2), 0, 0, 0, 0), append(head(1, 17), make([]byte, 34)...)} {
		if m, e := Parse(b); e != api.ErrForm || !same(m, Message{}) {
			t.Error(b, m, e)
		}
	}
}

func TestOffer(t *testing.T) {
	for _, c := range []*control.Controller{nil, controller(t, 0)} {
		if m, ok := Offer(c, 0); ok || !same(m, Message{}) {
			t.Error(m, ok)
		}
	}
	c := controller(t, 20)
	c.Issue(config.Op{Kind: config.Rotate})
	m, ok := Offer(c, 0)
	if !ok || m.Kind != Whole || m.Num != 20 || len(m.L) != 1 || !bytes.Equal(m.L[0], codec.State(c.State())) {
		t.Error(m, ok)
	}
	for n, want := range map[uint64]int{1: 16, 4: 16, 5: 15, 19: 1} {
		m, ok := Offer(c, n)
		if !ok || m.Kind != Ops || m.Num != n || len(m.L) != want || !bytes.Equal(m.L[0], codec.Op(backend(int(n)+1))) {
			t.Error(n, m, ok)
		}
	}
	for _, n := range []uint64{20, 21, math.MaxUint64} {
		if m, ok := Offer(c, n); ok || !same(m, Message{}) {
			t.Error(n, m, ok)
		}
	}
}

func whole(s *config.State) Message {
	return Message{Kind: Whole, Num: s.Num, L: [][]byte{codec.State(s)}}
}

func TestReceiveWhole(t *testing.T) {
	c := controller(t, 3)
	m, _ := Offer(c, 0)
	var f Follower
	if f.State() != nil || f.Known() != 0 || !same(f.Ack(), Message{Kind: Ack}) {
		t.Error("the zero follower")
	}
	wrong := m
	wrong.Num = 4
	if e := f.Receive(wrong); e != api.ErrBad || f.State() != nil {
		t.Error(e)
	}
	if e := f.Receive(Message{Kind: Whole, Num: 3, L: [][]byte{{1, 2, 3}}}); e != api.ErrBad || f.State() != nil {
		t.Error(e)
	}
	if e := f.Receive(m); e != api.OK || f.Known() != 3 || !bytes.Equal(codec.State(f.State()), m.L[0]) || f.Ack().Num != 3 {
		t.Error(e)
	}
	if e := f.Receive(m); e != api.ErrTwice {
		t.Error(e)
	}
	if e := f.Receive(wrong); e != api.ErrBad {
		t.Error(e)
	}
	if e := f.Receive(whole(config.New(key))); e != api.ErrTwice || f.Known() != 3 {
		t.Error("an older state:", e)
	}
	later, _ := Offer(controller(t, 9), 0)
	if e := f.Receive(later); e != api.OK || f.Known() != 9 {
		t.Error(e)
	}
	f.Forget()
	if f.State() != nil || f.Known() != 0 {
		t.Error("Forget")
	}
	if e := f.Receive(whole(config.New(key))); e != api.OK || f.State() == nil || f.Known() != 0 {
		t.Error("a state without operations:", e)
	}
	if e := f.Receive(whole(config.New(key))); e != api.ErrTwice {
		t.Error(e)
	}
}

func TestReceiveOps(t *testing.T) {
	ops := func(num uint64, l ...config.Op) Message {
		m := Message{Kind: Ops, Num: num}
		for _, o := range l {
			m.L = append(m.L, codec.Op(o))
		}
		return m
	}
	var f Follower
	if e := f.Receive(ops(0, backend(1))); e != api.ErrNone || f.State() != nil {
		t.Error(e)
	}
	three, _ := Offer(controller(t, 3), 0)
	f.Receive(three)
	if e := f.Receive(ops(4, backend(5))); e != api.ErrNone {
		t.Error(e)
	}
	if e := f.Receive(ops(math.MaxUint64, backend(5))); e != api.ErrNone {
		t.Error(e)
	}
	if e := f.Receive(ops(2, backend(3))); e != api.ErrTwice {
		t.Error(e)
	}
	if e := f.Receive(ops(0, backend(1), backend(2))); e != api.ErrTwice {
		t.Error(e)
	}
	before := f.State()
	if e := f.Receive(ops(3, backend(4), config.Op{Kind: config.Evict, Backend: 9})); e != api.ErrBad || f.State() != before || f.Known() != 3 {
		t.Error("an operation that can't be applied:", e)
	}
	if e := f.Receive(Message{Kind: Ops, Num: 3, L: [][]byte{{1}}}); e != api.ErrBad || f.Known() != 3 {
		t.Error("no operation:", e)
	}
	// What is known already is not even looked at.
	m := ops(2, backend(3), backend(4), backend(5))
	m.L[0] = []byte{1}
	if e := f.Receive(m); e != api.OK || f.Known() != 5 {
		t.Error(e, f.Known())
	}
	if _, ok := f.State().Backend(5); !ok {
		t.Error("not applied")
	}
	if e := f.Receive(Message{Kind: Ack, Num: 9}); e != api.ErrArg || f.Known() != 5 {
		t.Error(e)
	}
}

func TestNil(t *testing.T) {
	var f *Follower
	f.Forget()
	if f.State() != nil || f.Known() != 0 || !same(f.Ack(), Message{Kind: Ack}) {
		t.Error("nil")
	}
	if f.Receive(Message{}) != api.ErrNil {
		t.Error("Receive")
	}
}

func TestAnyOrderLeadsToAPrefix(t *testing.T) {
	rnd := rand.New(rand.NewSource(24))
	for range 20 {
		c := controller(t, 0)
		states := [][]byte{codec.State(c.State())}
		var offers []Message
		for i := range 50 {
			if e := c.Issue([]config.Op{backend(i%64 + 1), {Kind: config.Rotate}}[rnd.Intn(2)]); e != api.OK {
				t.Fatal(e)
			}
			c.Commit()
			states = append(states, codec.State(c.State()))
			if m, ok := Offer(c, uint64(rnd.Intn(i+1)*rnd.Intn(2))); ok {
				offers = append(offers, m)
			}
		}
		var f Follower
		for range 200 {
			m, e := Parse(offers[rnd.Intn(len(offers))].Bytes())
			if e != api.OK {
				t.Fatal(e)
			}
			f.Receive(m)
			if f.State() != nil && !bytes.Equal(codec.State(f.State()), states[f.Known()]) {
				t.Fatal("no prefix")
			}
		}
	}
}
