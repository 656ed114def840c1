package disk_test

import (
	"math"
	"testing"

	"counterfoil/api"
	. "counterfoil/disk"
)

func TestDisk(t *testing.T) {
	d := New(6)
	if d.Len() != 0 || d.Safe() != 0 || d.Syncs() != 0 || len(d.Read()) != 0 {
		t.Error("not empty")
	}
	b := []byte("abc")
	if e := d.Append(b); e != api.OK || d.Len() != 3 || d.Safe() != 0 || string(d.Read()) != "abc" {
		t.Error(e)
	}
	b[0] = 'x'
	d.Read()[1] = 'x'
	if string(d.Read()) != "abc" {
		t.Error("shared memory")
	}
	if e := d.Sync(); e != api.OK || d.Safe() != 3 || d.Syncs() != 1 {
		t.Error(e)
	}
	if e := d.Append([]byte("defg")); e != api.ErrFull || d.Len() != 3 {
		t.Error(e)
	}
	if d.Append([]byte("def")) != api.OK || d.Append(nil) != api.OK || d.Append([]byte{1}) != api.ErrFull || d.Safe() != 3 || d.Syncs() != 1 {
		t.Error("a full disk")
	}
	for _, most := range []int{0, -5, math.MinInt} {
		if d := New(most); d.Append([]byte{1}) != api.ErrFull || d.Append(nil) != api.OK {
			t.Error(most)
		}
	}
}

func TestCut(t *testing.T) {
	d := New(100)
	d.Append([]byte("abcdef"))
	for _, n := range []int{-1, 7, math.MaxInt, math.MinInt} {
		if e := d.Cut(n); e != api.ErrArg || d.Len() != 6 || d.Safe() != 0 {
			t.Error(n, e)
		}
	}
	if e := d.Cut(6); e != api.OK || d.Safe() != 6 || d.Syncs() != 0 {
		t.Error(e)
	}
	if e := d.Cut(2); e != api.OK || d.Safe() != 2 || string(d.Read()) != "ab" {
		t.Error(e)
	}
	d.Append([]byte("z"))
	if string(d.Read()) != "abz" || d.Safe() != 2 || d.Cut(0) != api.OK || d.Len() != 0 {
		t.Error("after a cut")
	}
}

func TestCrash(t *testing.T) {
	cases := []struct {
		keep int
		bits byte
		lost int
		want string
	}{
		{0, 1, 3, "ab"}, {1, 0, 2, "abc"}, {1, 1, 2, "abb"}, {2, 3, 1, "abcg"}, {3, 0, 0, "abcde"}, {9, 1, 0, "abcdd"}, {-4, 1, 3, "ab"},
		{math.MaxInt, 0, 0, "abcde"}, {math.MinInt, 0, 3, "ab"},
	}
	for _, c := range cases {
		d := New(100)
		d.Append([]byte("ab"))
		d.Sync()
		d.Append([]byte("cde"))
		if lost := d.Crash(c.keep, c.bits); lost != c.lost || string(d.Read()) != c.want || d.Safe() != d.Len() || d.Syncs() != 1 {
			t.Error(c, lost, string(d.Read()))
		}
		if d.Crash(0, 255) != 0 || string(d.Read()) != c.want {
			t.Error("durable bytes were changed")
		}
	}
	d := New(3)
	d.Append([]byte{1, 2, 3})
	if lost := d.Crash(1, 0); lost != 2 || d.Len() != 1 {
		t.Error(lost)
	}
}

func TestNil(t *testing.T) {
	var d *Disk
	if d.Len() != 0 || d.Safe() != 0 || d.Syncs() != 0 || len(d.Read()) != 0 || d.Crash(1, 1) != 0 {
		t.Error("nil")
	}
	if d.Append(nil) != api.ErrNil || d.Sync() != api.ErrNil || d.Cut(0) != api.ErrNil {
		t.Error("errors")
	}
}
