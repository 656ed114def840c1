package config_test

import (
	"bytes"
	"fmt"
	"math"
	"slices"
	"testing"

	"counterfoil/addr"
	"counterfoil/api"
	"counterfoil/codec"
	. "counterfoil/config"
	"counterfoil/policy"
	"counterfoil/ring"
	"counterfoil/siphash"
	"counterfoil/stack"
	"counterfoil/table"
)

// same reports whether two values print alike, as nil slices and empty ones do.
func same(a, b any) bool { return fmt.Sprintf("%+v", a) == fmt.Sprintf("%+v", b) }

var (
	key = siphash.Of(1, 2)
	web = addr.V4(10, 9, 9, 9)
)

func backend(n int) Op { return Op{Kind: AddBackend, Backend: n, Addr: addr.V4(10, 0, 2, byte(n))} }

func vip(port uint16) Op {
	return Op{Kind: AddVip, Addr: web, Port: port, Proto: api.TCP, Way: policy.Turns}
}

func members(vip int, l ...int) Op {
	o := Op{Kind: SetMembers, Vip: vip}
	for _, n := range l {
		o.Members = append(o.Members, Member{n, 1})
	}
	return o
}

// check applies an operation and checks the error, and that with an error nothing changes.
func check(t *testing.T, s *State, o Op, want api.Errno) {
	t.Helper()
	before := s.Copy()
	num := s.Num
	if e := s.Apply(o); e != want {
		t.Errorf("%+v: %d, not %d", o, e, want)
	}
	if want == api.OK && s.Num != num+1 {
		t.Errorf("%+v: not counted", o)
	}
	if want != api.OK && !bytes.Equal(codec.State(s), codec.State(before)) {
		t.Errorf("%+v: an error changed the state", o)
	}
}

// filled returns a state with backends 1 to 3 and services 0 and 1.
func filled(t *testing.T) *State {
	t.Helper()
	s := New(key)
	for _, o := range []Op{backend(1), backend(2), backend(3), vip(80), vip(81)} {
		check(t, s, o, api.OK)
	}
	return s
}

func TestKinds(t *testing.T) {
	for i, kind := range []int{AddBackend, AddVip, SetMembers, Retire, Release, Evict, Admit, Rotate} {
		if kind != i+1 {
			t.Error(i, kind)
		}
	}
}

func TestNew(t *testing.T) {
	s := New(key)
	if s.Num != 0 || s.Ring != ring.New(key, 0) || s.Len() != 0 || s.Find(web, 80, 6) != -1 || s.Serves(web) {
		t.Error("not empty")
	}
	for _, n := range []int{0, 1, 64, 65, -1, math.MinInt} {
		if a, ok := s.Backend(n); a != (api.Addr{}) || ok {
			t.Error(n, a, ok)
		}
		if v, ok := s.Vip(n); !same(v, Vip{}) || ok {
			t.Error(n, v, ok)
		}
	}
}

func TestAddBackend(t *testing.T) {
	s := New(key)
	check(t, s, backend(1), api.OK)
	check(t, s, backend(64), api.OK)
	check(t, s, Op{Kind: AddBackend, Backend: 1, Addr: addr.V6(1, 2)}, api.OK)
	if a, ok := s.Backend(1); a != addr.V6(1, 2) || !ok {
		t.Error(a, ok)
	}
	for _, n := range []int{0, 65, -1} {
		check(t, s, backend(n), api.ErrArg)
	}
	check(t, s, Op{Kind: AddBackend, Backend: 2, Addr: api.Addr{High: 1}}, api.ErrArg)
}

func TestAddVip(t *testing.T) {
	s := New(key)
	check(t, s, vip(80), api.OK)
	check(t, s, vip(80), api.ErrTwice)
	udp := vip(80)
	udp.Proto = api.UDP
	check(t, s, udp, api.OK)
	if s.Find(web, 80, api.TCP) != 0 || s.Find(web, 80, api.UDP) != 1 || s.Find(web, 81, api.TCP) != -1 || s.Find(addr.V4(1, 1, 1, 1), 80, api.TCP) != -1 {
		t.Error("Find")
	}
	if !s.Serves(web) || s.Serves(addr.V6(0, web.Low)) || s.Len() != 2 {
		t.Error("Serves")
	}
	if v, ok := s.Vip(1); !ok || v.Addr != web || v.Port != 80 || v.Proto != api.UDP || v.Way != policy.Turns || len(v.Members) != 0 || v.Tables.Len() != 0 {
		t.Error(v, ok)
	}
	bad := []func(o *Op){
		func(o *Op) { o.Addr = api.Addr{Low: 1 << 32} },
		func(o *Op) { o.Proto = api.ICMP },
		func(o *Op) { o.Proto = 0 },
		func(o *Op) { o.Way = 0 },
		func(o *Op) { o.Way = 5 },
	}
	for _, f := range bad {
		o := vip(80)
		f(&o)
		check(t, s, o, api.ErrArg)
	}
	for i := range 14 {
		check(t, s, vip(uint16(100+i)), api.OK)
	}
	check(t, s, vip(99), api.ErrFull)
	check(t, s, vip(80), api.ErrTwice)
}

func TestRotate(t *testing.T) {
	s := New(key)
	check(t, s, Op{Kind: Rotate}, api.OK)
	if s.Ring != ring.New(key, 1) {
		t.Error(s.Ring.Epoch())
	}
}

func TestSetMembers(t *testing.T) {
	s := filled(t)
	check(t, s, members(0, 1), api.OK)
	v, _ := s.Vip(0)
	if version, x, ok := v.Tables.Newest(); version != 0 || x.At(0) != 1 || !ok {
		t.Error(version, x, ok)
	}
	o := Op{Kind: SetMembers, Members: []Member{{3, 0}, {1, 100}}}
	check(t, s, o, api.OK)
	o.Members[0].Weight = 77
	v, _ = s.Vip(0)
	if version, x, _ := v.Tables.Newest(); version != 1 || !table.Same(x, table.Table{}.Next(1).Next(3, 1)) {
		t.Error(version, x)
	}
	if v.Weight(3) != 0 || v.Weight(1) != 100 || v.Weight(2) != 0 || len(v.Members) != 2 || v.Members[0].Weight != 0 {
		t.Error(v.Members)
	}
	if (Vip{Members: []Member{{2, 5}, {2, 6}}}).Weight(2) != 5 {
		t.Error("the first member counts")
	}
	v.Members[0].Backend = 2
	if w, _ := s.Vip(0); w.Members[0].Backend != 3 {
		t.Error("the members of a service were handed out")
	}
	for _, l := range [][]Member{{{4, 1}}, {{0, 1}}, {{65, 1}}, {{-1, 1}}, {{1, 1}, {1, 1}}, {{1, 101}}, {{1, -1}}, {{1, 1}, {2, 1}, {9, 1}}, make([]Member, 65)} {
		check(t, s, Op{Kind: SetMembers, Members: l}, api.ErrArg)
		check(t, s, Op{Kind: SetMembers, Vip: 2, Members: l}, api.ErrNone)
		check(t, s, Op{Kind: SetMembers, Vip: -1, Members: l}, api.ErrNone)
	}
	for range 6 {
		check(t, s, members(0), api.OK)
	}
	check(t, s, members(0), api.ErrFull)
	check(t, s, members(0, 9), api.ErrArg)
	check(t, s, members(1), api.OK)
}

func TestManyMembers(t *testing.T) {
	s := New(key)
	var all []int
	for n := 1; n <= 64; n++ {
		check(t, s, backend(n), api.OK)
		all = append(all, n)
	}
	check(t, s, vip(80), api.OK)
	check(t, s, members(0, all...), api.OK)
	if v, _ := s.Vip(0); len(v.Members) != 64 {
		t.Error(len(v.Members))
	}
	check(t, s, members(0, append(all, 1)...), api.ErrArg)
}

func TestRetireAndRelease(t *testing.T) {
	s := filled(t)
	check(t, s, members(1, 1), api.OK)
	check(t, s, members(1, 2), api.OK)
	check(t, s, Op{Kind: Retire, Vip: 2}, api.ErrNone)
	check(t, s, Op{Kind: Release, Vip: 2}, api.ErrNone)
	check(t, s, Op{Kind: Retire, Vip: 0}, api.ErrVersion)
	check(t, s, Op{Kind: Retire, Vip: 1, Version: 1}, api.ErrArg)
	check(t, s, Op{Kind: Release, Vip: 1, Version: 0}, api.ErrNone)
	check(t, s, Op{Kind: Retire, Vip: 1, Version: 0}, api.OK)
	v, _ := s.Vip(1)
	if !slices.Equal(v.Tables.Busy(), []int{0}) || !slices.Equal(v.Tables.Versions(), []int{1}) {
		t.Error(v.Tables.Busy(), v.Tables.Versions())
	}
	check(t, s, Op{Kind: Release, Vip: 1, Version: 0}, api.OK)
	if v, _ := s.Vip(1); len(v.Tables.Busy()) != 0 {
		t.Error("still busy")
	}
}

func TestEvictAndAdmit(t *testing.T) {
	s := New(key)
	check(t, s, Op{Kind: Evict, Backend: 1}, api.ErrNone)
	check(t, s, backend(1), api.OK)
	check(t, s, backend(2), api.OK)
	check(t, s, Op{Kind: Evict, Backend: 1}, api.ErrArg)
	check(t, s, Op{Kind: Admit, Backend: 1}, api.ErrArg)
	check(t, s, vip(80), api.OK)
	check(t, s, vip(81), api.OK)
	check(t, s, Op{Kind: Admit, Backend: 1}, api.ErrNone)
	check(t, s, Op{Kind: Evict, Backend: 1}, api.OK)
	check(t, s, Op{Kind: Evict, Backend: 1}, api.ErrTwice)
	check(t, s, Op{Kind: Evict, Backend: 0}, api.ErrNone)
	check(t, s, Op{Kind: Evict, Backend: 3}, api.ErrNone)
	check(t, s, vip(82), api.OK)
	for n := range 3 {
		if v, _ := s.Vip(n); !v.Tables.Evicted(1) || v.Tables.Evicted(2) {
			t.Error("service", n)
		}
	}
	check(t, s, Op{Kind: Admit, Backend: 1}, api.OK)
	for n := range 3 {
		if v, _ := s.Vip(n); v.Tables.Evicted(1) {
			t.Error("service", n)
		}
	}
	check(t, s, Op{Kind: Admit, Backend: 1}, api.ErrNone)
}

func TestTheSecondServiceTakesOverEvictions(t *testing.T) {
	s := New(key)
	for _, o := range []Op{backend(1), backend(64), vip(80), {Kind: Evict, Backend: 64}, vip(81)} {
		check(t, s, o, api.OK)
	}
	if v, _ := s.Vip(1); !v.Tables.Evicted(64) || v.Tables.Evicted(1) {
		t.Error("evictions")
	}
	check(t, s, Op{Kind: Admit, Backend: 64}, api.OK)
	check(t, s, vip(82), api.OK)
	if v, _ := s.Vip(2); v.Tables.Evicted(64) {
		t.Error("evictions")
	}
}

func TestOtherKinds(t *testing.T) {
	s := filled(t)
	for _, kind := range []int{0, -1, 9, 255} {
		check(t, s, Op{Kind: kind, Vip: 1}, api.ErrArg)
		check(t, s, Op{Kind: kind, Vip: 2}, api.ErrNone)
		check(t, s, Op{Kind: kind, Vip: -1}, api.ErrNone)
	}
}

func TestCopy(t *testing.T) {
	s := filled(t)
	check(t, s, members(0, 1, 2), api.OK)
	c := s.Copy()
	if !bytes.Equal(codec.State(s), codec.State(c)) {
		t.Error("a copy is different")
	}
	for _, o := range []Op{members(0, 3), {Kind: Evict, Backend: 1}, backend(9), {Kind: Rotate}, vip(99)} {
		check(t, c, o, api.OK)
	}
	v, _ := s.Vip(0)
	if v.Tables.Len() != 1 || v.Tables.Evicted(1) || v.Weight(3) != 0 || s.Len() != 2 || s.Ring.Epoch() != 0 || s.Num != 6 {
		t.Error("a copy is not independent")
	}
	if _, ok := s.Backend(9); ok {
		t.Error("a copy is not independent")
	}
}

func TestRestore(t *testing.T) {
	s := New(key)
	tables := &stack.Stack{}
	tables.Push(table.Table{}.Next(5, 6))
	if e := s.Restore(nil, tables); e != api.ErrNone {
		t.Error(e)
	}
	s = filled(t)
	num := s.Num
	if e := s.Restore([]Member{{1, 7}}, tables); e != api.OK || s.Num != num {
		t.Error(e)
	}
	tables.Push(table.Table{})
	own := []Member{{2, 3}}
	if e := s.Restore(own, tables); e != api.OK {
		t.Error(e)
	}
	own[0].Weight = 99
	if v, _ := s.Vip(1); v.Weight(2) != 3 {
		t.Error("shared memory")
	}
	tables = &stack.Stack{}
	tables.Push(table.Table{}.Next(5, 6))
	s.Restore([]Member{{1, 7}}, tables)
	v, _ := s.Vip(1)
	if v.Tables.Len() != 1 || v.Weight(1) != 7 {
		t.Error(v)
	}
	if v, _ := s.Vip(0); v.Tables.Len() != 0 || len(v.Members) != 0 {
		t.Error("the first service was changed")
	}
	before := s.Copy()
	evicting := tables.Copy()
	evicting.Evict(1)
	bad := []struct {
		l []Member
		t *stack.Stack
	}{{nil, nil}, {[]Member{{9, 1}}, tables}, {[]Member{{1, 1}, {1, 1}}, tables}, {[]Member{{1, 101}}, tables}, {make([]Member, 65), tables}, {nil, evicting}}
	for i, c := range bad {
		if e := s.Restore(c.l, c.t); e != api.ErrArg || !bytes.Equal(codec.State(s), codec.State(before)) {
			t.Error(i, e)
		}
	}
	check(t, s, Op{Kind: Evict, Backend: 1}, api.OK)
	if e := s.Restore(nil, tables); e != api.ErrArg {
		t.Error("an eviction is missing:", e)
	}
	if e := s.Restore(nil, evicting); e != api.OK {
		t.Error(e)
	}
	one := New(key)
	check(t, one, backend(1), api.OK)
	check(t, one, vip(80), api.OK)
	if e := one.Restore(nil, evicting); e != api.OK {
		t.Error("a single service may have any known backend evicted:", e)
	}
	evicting.Evict(2)
	if e := one.Restore(nil, evicting); e != api.ErrArg {
		t.Error("an evicted backend is not known:", e)
	}
}

func TestNil(t *testing.T) {
	var s *State
	if s.Copy() != nil || s.Len() != 0 || s.Find(web, 80, 6) != -1 || s.Serves(web) {
		t.Error("nil")
	}
	if _, ok := s.Backend(1); ok {
		t.Error("Backend")
	}
	if _, ok := s.Vip(0); ok {
		t.Error("Vip")
	}
	if e := s.Apply(Op{Kind: Rotate}); e != api.ErrNil {
		t.Error(e)
	}
	if e := s.Restore(nil, nil); e != api.ErrNone {
		t.Error(e)
	}
}
