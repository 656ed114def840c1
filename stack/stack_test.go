package stack_test

import (
	"bytes"
	"math"
	"math/rand"
	"slices"
	"testing"

	"counterfoil/api"
	. "counterfoil/stack"
	"counterfoil/table"
)

func tableOf(l ...int) table.Table { return table.Table{}.Next(l...) }

func push(t *testing.T, s *Stack, l ...int) int {
	t.Helper()
	n, e := s.Push(tableOf(l...))
	if e != api.OK {
		t.Fatal(e)
	}
	return n
}

func TestVersions(t *testing.T) {
	s := &Stack{}
	if s.Len() != 0 || len(s.Versions()) != 0 || len(s.Busy()) != 0 {
		t.Error("the zero stack")
	}
	if v, x, ok := s.Newest(); v != 0 || x.Len() != 0 || ok {
		t.Error(v, x, ok)
	}
	push(t, s, 1)
	push(t, s, 2)
	if e := s.Retire(0); e != api.OK || !slices.Equal(s.Versions(), []int{1}) || !slices.Equal(s.Busy(), []int{0}) {
		t.Error(e, s.Versions(), s.Busy())
	}
	if n := push(t, s, 3); n != 2 {
		t.Error(n)
	}
	if e := s.Release(0); e != api.OK || len(s.Busy()) != 0 {
		t.Error(e)
	}
	if n := push(t, s, 4); n != 0 || !slices.Equal(s.Versions(), []int{1, 2, 0}) || s.Len() != 3 {
		t.Error(n, s.Versions())
	}
	if v, x, ok := s.Newest(); v != 0 || !table.Same(x, tableOf(4)) || !ok {
		t.Error(v, x, ok)
	}
	if x, ok := s.Get(2); !ok || !table.Same(x, tableOf(3)) {
		t.Error(x, ok)
	}
	for _, v := range []int{3, -1, 8, math.MaxInt} {
		if x, ok := s.Get(v); ok || x.Len() != 0 {
			t.Error(x, ok)
		}
	}
	if n, ok := s.Free(); n != 3 || !ok {
		t.Error(n, ok)
	}
}

func TestPushUntilFull(t *testing.T) {
	s := &Stack{}
	for i := range 8 {
		if n := push(t, s, i+1); n != i {
			t.Error(n)
		}
	}
	if n, e := s.Push(tableOf(1)); n != 0 || e != api.ErrFull || s.Len() != 8 {
		t.Error(n, e)
	}
	if n, ok := s.Free(); n != 0 || ok {
		t.Error(n, ok)
	}
	s.Retire(3)
	if _, e := s.Push(tableOf(1)); e != api.ErrFull {
		t.Error("a busy version was assigned")
	}
	s.Release(3)
	if n := push(t, s, 1); n != 3 {
		t.Error(n)
	}
}

func TestRetireAndReleaseErrors(t *testing.T) {
	s := &Stack{}
	for _, v := range []int{0, -1, 8} {
		if e := s.Retire(v); e != api.ErrVersion {
			t.Error(e)
		}
		if e := s.Release(v); e != api.ErrNone {
			t.Error(e)
		}
	}
	push(t, s, 1)
	push(t, s, 1)
	if e := s.Retire(1); e != api.ErrArg || s.Len() != 2 {
		t.Error(e)
	}
	if e := s.Release(0); e != api.ErrNone {
		t.Error(e)
	}
	s.Retire(0)
	if e := s.Retire(0); e != api.ErrVersion {
		t.Error(e)
	}
	s.Release(0)
	if e := s.Release(0); e != api.ErrNone {
		t.Error(e)
	}
}

func TestEvictions(t *testing.T) {
	s := &Stack{}
	for _, n := range []int{0, -1, 65, math.MinInt} {
		if e := s.Evict(n); e != api.ErrArg || s.Evicted(n) {
			t.Error(n, e)
		}
		if e := s.Admit(n); e != api.ErrNone {
			t.Error(n, e)
		}
	}
	for _, n := range []int{1, 64} {
		if s.Admit(n) != api.ErrNone || s.Evict(n) != api.OK || !s.Evicted(n) || s.Evict(n) != api.ErrTwice {
			t.Error(n)
		}
		if s.Admit(n) != api.OK || s.Evicted(n) || s.Admit(n) != api.ErrNone {
			t.Error(n)
		}
	}
}

func TestFind(t *testing.T) {
	s := &Stack{}
	push(t, s, 5, 7)
	x, _ := s.Get(0)
	s.Push(x.Next(7))
	cases := []struct {
		version, slot, want int
		e                   api.Errno
	}{
		{0, 0, 5, api.OK}, {0, 1, 7, api.OK}, {1, 1, 7, api.OK}, {1, 0, 0, api.ErrSlot}, {0, 2, 0, api.ErrSlot}, {0, -1, 0, api.ErrSlot},
		{2, 0, 0, api.ErrVersion}, {-1, 0, 0, api.ErrVersion}, {8, 9, 0, api.ErrVersion},
	}
	for _, c := range cases {
		if n, e := s.Find(c.version, c.slot); n != c.want || e != c.e {
			t.Error(c, n, e)
		}
	}
	s.Evict(7)
	if n, e := s.Find(1, 1); n != 0 || e != api.ErrDead {
		t.Error(n, e)
	}
	if n, e := s.Find(0, 0); n != 5 || e != api.OK {
		t.Error(n, e)
	}
}

func TestCopy(t *testing.T) {
	s := &Stack{}
	push(t, s, 1)
	push(t, s, 2)
	push(t, s, 3)
	push(t, s, 4)
	s.Retire(2)
	s.Evict(9)
	before := s.Bytes()
	c := s.Copy()
	if !bytes.Equal(c.Bytes(), before) {
		t.Error("a copy is different")
	}
	c.Retire(0)
	c.Evict(4)
	c.Admit(9)
	c.Release(2)
	push(t, c, 4)
	if !bytes.Equal(s.Bytes(), before) || bytes.Equal(c.Bytes(), before) {
		t.Error("a copy is not independent")
	}
	d := s.Copy()
	s.Retire(1)
	s.Release(1)
	push(t, s, 9)
	if !bytes.Equal(d.Bytes(), before) {
		t.Error("a copy changes with its original")
	}
}

func TestBytes(t *testing.T) {
	s := &Stack{}
	if !bytes.Equal(s.Bytes(), []byte{0, 0, 0}) {
		t.Error(s.Bytes())
	}
	push(t, s, 1)
	push(t, s, 2, 3)
	push(t, s)
	s.Retire(0)
	s.Evict(64)
	s.Evict(2)
	want := []byte{2, 1, 0, 2, 2, 3, 2, 0, 0, 2, 2, 64, 1, 0}
	if !bytes.Equal(s.Bytes(), want) {
		t.Error(s.Bytes())
	}
	if got, e := Parse(want); e != api.OK || !bytes.Equal(got.Bytes(), want) || !got.Evicted(64) || !slices.Equal(got.Busy(), []int{0}) {
		t.Error(got, e)
	}
	bad := [][]byte{
		nil, {0}, {0, 0}, {0, 0, 0, 0}, want[:len(want)-1], append(bytes.Clone(want), 0),
		{1, 8, 0, 0, 0, 0}, {2, 1, 0, 0, 1, 0, 0, 0, 0}, {1, 0, 0, 1, 0, 0, 0}, {1, 0, 0, 2, 5, 5, 0, 0}, {1},
		{0, 1, 0, 0}, {0, 1, 65, 0}, {0, 2, 2, 2, 0}, {0, 2, 3, 2, 0}, {0, 2, 3, 0}, {0, 1},
		{0, 0, 1, 8}, {0, 0, 2, 1, 1}, {0, 0, 2, 2, 1}, {1, 0, 0, 0, 0, 1, 0}, {0, 0, 1},
	}
	for _, b := range bad {
		if got, e := Parse(b); got != nil || e != api.ErrForm {
			t.Error(b, got, e)
		}
	}
}

func TestNil(t *testing.T) {
	var s *Stack
	if s.Len() != 0 || len(s.Versions()) != 0 || len(s.Busy()) != 0 || len(s.Bytes()) != 0 || s.Copy() != nil || s.Evicted(1) {
		t.Error("nil")
	}
	if n, ok := s.Free(); n != 0 || ok {
		t.Error(n, ok)
	}
	if _, ok := s.Get(0); ok {
		t.Error("Get")
	}
	if _, _, ok := s.Newest(); ok {
		t.Error("Newest")
	}
	if n, e := s.Push(tableOf(1)); n != 0 || e != api.ErrNil {
		t.Error(n, e)
	}
	if s.Retire(0) != api.ErrNil || s.Release(0) != api.ErrNil || s.Evict(0) != api.ErrNil || s.Admit(0) != api.ErrNil {
		t.Error("errors")
	}
	if n, e := s.Find(0, 0); n != 0 || e != api.ErrVersion {
		t.Error(n, e)
	}
}

func TestBusyVersionsAreNotAssigned(t *testing.T) {
	rnd := rand.New(rand.NewSource(14))
	for range 100 {
		s := &Stack{}
		for range 60 {
			switch rnd.Intn(4) {
			case 0, 1:
				busy := s.Busy()
				if n, e := s.Push(tableOf(rnd.Intn(64) + 1)); e == api.OK && slices.Contains(busy, n) {
					t.Fatal("a busy version was assigned")
				}
			case 2:
				s.Retire(rnd.Intn(8))
			case 3:
				s.Release(rnd.Intn(8))
			}
			if got, e := Parse(s.Bytes()); e != api.OK || !bytes.Equal(got.Bytes(), s.Bytes()) || !slices.Equal(got.Versions(), s.Versions()) {
				t.Fatal("Parse does not invert Bytes")
			}
		}
	}
}
