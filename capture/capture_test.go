package capture_test

import (
	"bytes"
	"fmt"
	"math"
	"math/rand"
	"testing"

	"counterfoil/api"
	. "counterfoil/capture"
)

// same reports whether two values print alike, as nil slices and empty ones do.
func same(a, b any) bool { return fmt.Sprintf("%+v", a) == fmt.Sprintf("%+v", b) }

var big, small = File{Most: 65535, Link: 101}, File{Small: true, Nano: true, Most: 0x01020304, Link: 0x05060708}

func TestHead(t *testing.T) {
	cases := []struct {
		f    File
		want []byte
	}{
		{big, []byte{0xA1, 0xB2, 0xC3, 0xD4, 0, 2, 0, 4, 0, 0, 0, 0, 0, 0, 0, 0, 0, 0, 0xff, 0xff, 0, 0, 0, 101}},
		{small, []byte{0x4D, 0x3C, 0xB2, 0xA1, 2, 0, 4, 0, 0, 0, 0, 0, 0, 0, 0, 0, 4, 3, 2, 1, 8, 7, 6, 5}},
		{File{Nano: true}, []byte{0xA1, 0xB2, 0x3C, 0x4D, 0, 2, 0, 4, 0, 0, 0, 0, 0, 0, 0, 0, 0, 0, 0, 0, 0, 0, 0, 0}},
		{File{Small: true}, []byte{0xD4, 0xC3, 0xB2, 0xA1, 2, 0, 4, 0, 0, 0, 0, 0, 0, 0, 0, 0, 0, 0, 0, 0, 0, 0, 0, 0}},
	}
	for _, c := range cases {
		if got := c.f.Head(); !bytes.Equal(got, c.want) {
			t.Errorf("%x", got)
		}
		f, rest, e := Open(append(bytes.Clone(c.want), 7, 8))
		if f != c.f || !bytes.Equal(rest, []byte{7, 8}) || e != api.OK {
			t.Error(f, rest, e)
		}
	}
}

func TestOpenErrors(t *testing.T) {
	head := big.Head()
	for _, b := range [][]byte{nil, head[:23], make([]byte, 23)} {
		if f, rest, e := Open(b); f != (File{}) || len(rest) != 0 || e != api.ErrShort {
			t.Error(f, rest, e)
		}
		if f, l, e := Read(b); f != (File{}) || len(l) != 0 || e != api.ErrShort {
			t.Error(f, l, e)
		}
	}
	for i := range 16 {
		b := bytes.Clone(head)
		b[i] ^= 1
		if f, rest, e := Open(append(b, 1, 2)); f != (File{}) || len(rest) != 0 || e != api.ErrForm {
			t.Error(i, f, rest, e)
		}
	}
	mixed := append(bytes.Clone(small.Head()[:4]), head[4:]...)
	if _, _, e := Open(mixed); e != api.ErrForm {
		t.Error("two byte orders:", e)
	}
	if f, _, e := Open(head); f != big || e != api.OK {
		t.Error(f, e)
	}
}

func TestOpenSharesNothing(t *testing.T) {
	b := append(big.Head(), 1, 2)
	_, rest, _ := Open(b)
	rest[0] = 9
	if b[24] != 1 {
		t.Error("shared memory")
	}
}

func TestRightAndWrite(t *testing.T) {
	f := File{Most: 5}
	n := File{Most: 5, Nano: true}
	cases := []struct {
		f    File
		p    Packet
		want bool
	}{
		{f, Packet{}, true}, {f, Packet{Part: 999999, Len: 9, Data: make([]byte, 5)}, true}, {f, Packet{Part: 1000000}, false}, {n, Packet{Part: 1000000}, true},
		{n, Packet{Part: 999999999}, true}, {n, Packet{Part: 1000000000}, false}, {f, Packet{Len: 9, Data: make([]byte, 6)}, false}, {f, Packet{Len: 4, Data: make([]byte, 5)}, false},
		{f, Packet{Len: 5, Data: make([]byte, 5)}, true}, {f, Packet{Sec: math.MaxUint32, Len: math.MaxUint32}, true}, {File{}, Packet{Len: 1, Data: []byte{1}}, false},
	}
	for i, c := range cases {
		b := c.f.Write(c.p)
		if c.f.Right(c.p) != c.want || c.want && len(b) != 16+len(c.p.Data) || !c.want && len(b) != 0 {
			t.Error(i, b)
		}
	}
	p := Packet{Sec: 0x01020304, Part: 0x00050607, Len: 0x08090a0b, Data: []byte{7, 8, 9}}
	if b := big.Write(p); !bytes.Equal(b, []byte{1, 2, 3, 4, 0, 5, 6, 7, 0, 0, 0, 3, 8, 9, 10, 11, 7, 8, 9}) {
		t.Error(b)
	}
	if b := small.Write(p); !bytes.Equal(b, []byte{4, 3, 2, 1, 7, 6, 5, 0, 3, 0, 0, 0, 11, 10, 9, 8, 7, 8, 9}) {
		t.Error(b)
	}
}

func collect(f File, b []byte) []Packet {
	var l []Packet
	for p := range f.All(b) {
		l = append(l, p)
	}
	return l
}

func TestAll(t *testing.T) {
	a, c := Packet{Sec: 1, Len: 3, Data: []byte{1, 2, 3}}, Packet{Sec: 2, Len: 9, Data: []byte{}}
	for _, f := range []File{big, small} {
		b := append(f.Write(a), f.Write(c)...)
		if l := collect(f, b); !same(l, []Packet{a, c}) {
			t.Error(l)
		}
		bad := f.Write(a)
		bad[19-16+4] = 0xff
		bad[4] = 0xff
		cases := []struct {
			b    []byte
			want int
		}{
			{nil, 0}, {b[:15], 0}, {b[:18], 0}, {b[:19], 1}, {b[:20], 1}, {b[:34], 1}, {append(bytes.Clone(b), 1), 2}, {bytes.Join([][]byte{f.Write(c), bad, b}, nil), 1},
		}
		for i, x := range cases {
			if l := collect(f, x.b); len(l) != x.want {
				t.Error(i, l)
			}
			_, l, e := Read(append(f.Head(), x.b...))
			if fits := len(x.b) == 0 || len(x.b) == 19; fits != (e == api.OK) || !fits && (len(l) != 0 || e != api.ErrForm) {
				t.Error(i, l, e)
			}
		}
	}
	huge := bytes.Repeat([]byte{0xff}, 40)
	if l := collect(big, huge); len(l) != 0 {
		t.Error(l)
	}
}

func TestAllCanBeUsedAgain(t *testing.T) {
	p := Packet{Sec: 1, Len: 3, Data: []byte{1, 2, 3}}
	b := append(big.Write(p), big.Write(p)...)
	all := big.All(b)
	b[16] = 99
	for range 2 {
		n := 0
		for x := range all {
			if !same(x, p) {
				t.Error(x)
			}
			x.Data[0] = 77
			n++
		}
		if n != 2 {
			t.Error(n)
		}
	}
	n := 0
	for range all {
		n++
		break
	}
	if n != 1 || big.All(nil) == nil {
		t.Error(n)
	}
}

func TestReadReturnsWhatWasWritten(t *testing.T) {
	rnd := rand.New(rand.NewSource(41))
	for range 200 {
		f := File{Small: rnd.Intn(2) == 0, Nano: rnd.Intn(2) == 0, Most: uint32(rnd.Intn(40)), Link: rnd.Uint32()}
		b := f.Head()
		var want []Packet
		for range rnd.Intn(6) {
			p := Packet{Sec: rnd.Uint32(), Part: uint32(rnd.Intn(1200000)), Len: uint32(rnd.Intn(50)), Data: make([]byte, rnd.Intn(50))}
			rnd.Read(p.Data)
			b = append(b, f.Write(p)...)
			if f.Right(p) {
				want = append(want, p)
			}
		}
		got, l, e := Read(b)
		if got != f || e != api.OK || len(l) != len(want) {
			t.Fatal(got, l, e)
		}
		for i := range l {
			if !bytes.Equal(l[i].Data, want[i].Data) || l[i].Sec != want[i].Sec || l[i].Part != want[i].Part || l[i].Len != want[i].Len {
				t.Fatal(l[i], want[i])
			}
		}
	}
}
