package load_test

import (
	"bytes"
	"math"
	"slices"
	"testing"

	"counterfoil/api"
	. "counterfoil/load"
)

func TestReports(t *testing.T) {
	r := Report{Backend: 5, Num: 0x0102030405060708, Load: 0x090a0b0c, Well: true}
	want := []byte{5, 1, 2, 3, 4, 5, 6, 7, 8, 9, 10, 11, 12, 1}
	if !bytes.Equal(r.Bytes(), want) {
		t.Error(r.Bytes())
	}
	if got, e := Parse(want); got != r || e != api.OK {
		t.Error(got, e)
	}
	ill := Report{Backend: 64}
	if got, e := Parse(ill.Bytes()); got != ill || e != api.OK {
		t.Error(got, e)
	}
	if b := (Report{Backend: -7}).Bytes(); b[0] != 0 || len(b) != 14 {
		t.Error(b)
	}
	for n, want := range map[int]bool{1: true, 64: true, 0: false, 65: false, -1: false, math.MinInt: false, 257: false} {
		if (Report{Backend: n}).Right() != want {
			t.Error(n)
		}
	}
}

func TestParseRejects(t *testing.T) {
	good := Report{Backend: 5, Num: 1}.Bytes()
	with := func(at int, x byte) []byte {
		b := bytes.Clone(good)
		b[at] = x
		return b
	}
	for _, b := range [][]byte{nil, good[:13], append(bytes.Clone(good), 0), with(0, 0), with(0, 65), with(13, 2), with(13, 255)} {
		if got, e := Parse(b); got != (Report{}) || e != api.ErrForm {
			t.Error(b, got, e)
		}
	}
}

func TestBook(t *testing.T) {
	b := New()
	if r, ok := b.Get(5); r != (Report{}) || ok || !b.Well(5) || b.Load(5) != 0 || len(b.All()) != 0 {
		t.Error("an empty book")
	}
	two := Report{Backend: 5, Num: 2, Load: 7}
	if e := b.Note(two); e != api.OK {
		t.Error(e)
	}
	for _, r := range []Report{{Backend: 5, Num: 1, Well: true}, {Backend: 5, Num: 2, Load: 9}} {
		if e := b.Note(r); e != api.ErrTwice {
			t.Error(e)
		}
	}
	if r, ok := b.Get(5); r != two || !ok || b.Well(5) || b.Load(5) != 7 {
		t.Error(r, ok)
	}
	for _, n := range []int{0, 65, -1} {
		if e := b.Note(Report{Backend: n, Num: 9}); e != api.ErrArg {
			t.Error(e)
		}
	}
	b.Note(Report{Backend: 64, Num: 0, Well: true})
	b.Note(Report{Backend: 1, Num: 1})
	b.Note(Report{Backend: 5, Num: 3, Load: 8, Well: true})
	if !slices.Equal(b.All(), []int{1, 5, 64}) || !b.Well(5) || b.Load(5) != 8 || !b.Well(64) {
		t.Error(b.All())
	}
	b.Forget(5)
	b.Forget(9)
	if _, ok := b.Get(5); ok || !slices.Equal(b.All(), []int{1, 64}) {
		t.Error("a report was not forgotten")
	}
	if e := b.Note(Report{Backend: 5, Num: 1}); e != api.OK {
		t.Error(e)
	}
}

func TestNilAndZeroBook(t *testing.T) {
	for _, b := range []*Book{nil, {}} {
		if e := b.Note(Report{Backend: 5}); e != api.ErrNil {
			t.Error(e)
		}
		if e := b.Note(Report{}); e != api.ErrNil {
			t.Error(e)
		}
		b.Forget(5)
		if _, ok := b.Get(5); ok || !b.Well(5) || b.Load(5) != 0 || len(b.All()) != 0 {
			t.Error("not empty")
		}
	}
}
