package mail_test

import (
	"math"
	"testing"

	"counterfoil/api"
	. "counterfoil/mail"
)

func letter(node int, s string) Letter { return Letter{Node: node, B: []byte(s)} }

// order checks which letters are in transit.
func order(t *testing.T, m *Mail, want string) {
	t.Helper()
	var taken []Letter
	got := ""
	for m.Len() > 0 {
		x, e := m.Take(0)
		if e != api.OK {
			t.Fatal(e)
		}
		taken = append(taken, x)
		got += string(x.B)
	}
	for _, x := range taken {
		m.Send(x)
	}
	if got != want {
		t.Errorf("%q, not %q", got, want)
	}
}

func TestSend(t *testing.T) {
	m := New(2)
	if m.Len() != 0 || m.Lost() != 0 {
		t.Error("not empty")
	}
	b := []byte("a")
	if m.Send(Letter{Node: 3, Back: true, B: b}) != api.OK || m.Send(letter(1, "b")) != api.OK {
		t.Error("Send")
	}
	b[0] = 'x'
	if e := m.Send(letter(1, "c")); e != api.ErrFull || m.Len() != 2 || m.Lost() != 1 {
		t.Error(e)
	}
	if x, e := m.Take(0); e != api.OK || x.Node != 3 || !x.Back || string(x.B) != "a" || m.Len() != 1 || m.Lost() != 1 {
		t.Error(x, e)
	}
	for _, most := range []int{0, -1, math.MinInt} {
		if m := New(most); m.Send(letter(1, "a")) != api.ErrFull || m.Lost() != 1 || m.Len() != 0 {
			t.Error(most)
		}
	}
}

func TestTakeDropTwice(t *testing.T) {
	m := New(4)
	for _, s := range []string{"a", "b", "c"} {
		m.Send(letter(1, s))
	}
	for _, i := range []int{-1, 3, math.MaxInt, math.MinInt} {
		x, e := m.Take(i)
		if e != api.ErrNone || x.Node != 0 || len(x.B) != 0 || m.Drop(i) != api.ErrNone || m.Twice(i) != api.ErrNone || m.Lost() != 0 {
			t.Error(i, x, e)
		}
	}
	if x, e := m.Take(1); e != api.OK || string(x.B) != "b" {
		t.Error(x, e)
	}
	order(t, m, "ac")
	if e := m.Twice(0); e != api.OK || m.Lost() != 0 {
		t.Error(e)
	}
	order(t, m, "aca")
	x, _ := m.Take(0)
	x.B[0] = 'x'
	order(t, m, "ca")
	m.Send(letter(1, "d"))
	m.Send(letter(1, "e"))
	if e := m.Twice(1); e != api.ErrFull || m.Lost() != 1 {
		t.Error(e)
	}
	order(t, m, "cade")
	if e := m.Drop(2); e != api.OK || m.Lost() != 2 {
		t.Error(e)
	}
	order(t, m, "cae")
}

func TestClear(t *testing.T) {
	m := New(9)
	m.Send(letter(1, "a"))
	m.Send(letter(2, "b"))
	m.Send(Letter{Node: 1, Back: true, B: []byte("c")})
	m.Send(letter(3, "d"))
	if n := m.Clear(1); n != 2 || m.Lost() != 2 {
		t.Error(n)
	}
	order(t, m, "bd")
	if m.Clear(1) != 0 || m.Clear(-1) != 0 || m.Lost() != 2 || m.Clear(3) != 1 || m.Clear(2) != 1 || m.Clear(2) != 0 || m.Lost() != 4 {
		t.Error("Clear")
	}
}

func TestNil(t *testing.T) {
	var m *Mail
	if m.Len() != 0 || m.Lost() != 0 || m.Clear(0) != 0 || m.Send(letter(1, "a")) != api.ErrNil {
		t.Error("nil")
	}
	if _, e := m.Take(0); e != api.ErrNone || m.Drop(0) != api.ErrNone || m.Twice(0) != api.ErrNone {
		t.Error(e)
	}
}
