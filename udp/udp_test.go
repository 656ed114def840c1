package udp_test

import (
	"bytes"
	"fmt"
	"math/rand"
	"testing"

	"counterfoil/addr"
	"counterfoil/api"
	"counterfoil/ip6"
	"counterfoil/sum"
	. "counterfoil/udp"
)

// same reports whether two values print alike, as nil slices and empty ones do.
func same(a, b any) bool { return fmt.Sprintf("%+v", a) == fmt.Sprintf("%+v", b) }

var (
	four = [2]api.Addr{addr.V4(10, 0, 0, 1), addr.V4(10, 0, 0, 2)}
	six  = [2]api.Addr{addr.V6(1, 2), addr.V6(3, 4)}
)

func TestParseAndBytes(t *testing.T) {
	d := Datagram{SrcPort: 0x0102, DstPort: 0x0304, Sum: 0x0506, Load: []byte("abc")}
	b := d.Bytes()
	if !bytes.Equal(b, []byte{1, 2, 3, 4, 0, 11, 5, 6, 'a', 'b', 'c'}) {
		t.Errorf("%x", b)
	}
	got, e := Parse(append(bytes.Clone(b), 9, 9))
	if e != api.OK || !same(got, d) {
		t.Error(got, e)
	}
	if got, e := Parse([]byte{1, 2, 3, 4, 0, 8, 5, 6}); e != api.OK || len(got.Load) != 0 || got.Sum != 0x0506 {
		t.Error("an empty datagram:", got, e)
	}
	got, _ = Parse(b)
	got.Load[0] = 7
	if b[8] != 'a' {
		t.Error("the result shares memory with the bytes")
	}
	cases := []struct {
		b    []byte
		want api.Errno
	}{
		{nil, api.ErrShort}, {b[:7], api.ErrShort}, {[]byte{0, 0, 0, 0, 0, 7, 0, 0}, api.ErrForm}, {[]byte{0, 0, 0, 0, 0, 0, 0, 0, 1}, api.ErrForm},
		{b[:10], api.ErrShort}, {b[:8], api.ErrShort},
	}
	for i, c := range cases {
		if got, e := Parse(c.b); e != c.want || !same(got, Datagram{}) {
			t.Error(i, got, e)
		}
	}
}

func TestRight(t *testing.T) {
	most, more := Datagram{Load: make([]byte, 65527)}, Datagram{Load: make([]byte, 65528)}
	if !most.Right() || len(most.Bytes()) != 65535 || !(Datagram{}).Right() {
		t.Error("valid")
	}
	if more.Right() || len(more.Bytes()) != 0 || more.Fine(four[0], four[1]) {
		t.Error("too long")
	}
	more.Sum = 5
	if more.Fine(four[0], four[1]) {
		t.Error("too long, with a checksum")
	}
}

func TestSummedAndFine(t *testing.T) {
	for _, ends := range [][2]api.Addr{four, six} {
		d := Datagram{SrcPort: 5, DstPort: 6, Sum: 99, Load: []byte("odd")}
		s := d.Summed(ends[0], ends[1])
		d.Sum = 0
		if want := sum.Of(ip6.Pseudo(ends[0], ends[1], 17, 11), d.Bytes()); s.Sum != want || !s.Fine(ends[0], ends[1]) {
			t.Errorf("%x, not %x", s.Sum, want)
		}
		s.Load[0]++
		if s.Fine(ends[0], ends[1]) || d.Load[0] != 'o' {
			t.Error("another load")
		}
	}
	none := Datagram{SrcPort: 5, Load: []byte("x")}
	if !none.Fine(four[0], four[1]) || none.Fine(six[0], six[1]) {
		t.Error("without a checksum")
	}
}

func TestSummedNeverYieldsZero(t *testing.T) {
	d := Datagram{Load: []byte{0, 0}}
	d.Load = append(d.Load[:0], 0, 0)
	n := d.Summed(four[0], four[1]).Sum
	d.Load = []byte{byte(n >> 8), byte(n)}
	s := d.Summed(four[0], four[1])
	if s.Sum != 0xffff || !s.Fine(four[0], four[1]) {
		t.Errorf("%x", s.Sum)
	}
}

func TestShow(t *testing.T) {
	q, e := Show([]byte{0xC0, 0, 0, 0, 1, 2, 0xAB, 0xCD, 0}, 12)
	if e != api.OK || !q.Long || q.Version != 1 || !bytes.Equal(q.Dst, []byte{0xAB, 0xCD}) || len(q.Src) != 0 || !q.Initial {
		t.Error(q, e)
	}
	q, e = Show([]byte{0x80, 1, 2, 3, 4, 0, 3, 7, 8, 9, 99}, 12)
	if e != api.OK || q.Version != 0x01020304 || len(q.Dst) != 0 || !bytes.Equal(q.Src, []byte{7, 8, 9}) || !q.Initial {
		t.Error(q, e)
	}
	q, e = Show([]byte{0x40, 1, 2, 3}, 2)
	if e != api.OK || !same(q, Quic{Dst: []byte{1, 2}}) {
		t.Error(q, e)
	}
	if q, e := Show([]byte{0x7f}, 0); e != api.OK || q.Long || len(q.Dst) != 0 {
		t.Error(q, e)
	}
	for first, want := range map[byte]bool{0xC0: true, 0x8f: true, 0xD0: false, 0xE0: false, 0xF0: false} {
		if q, _ := Show([]byte{first, 0, 0, 0, 1, 0, 0}, 0); q.Initial != want || !q.Long {
			t.Errorf("%x", first)
		}
	}
	if q, e := Show([]byte{0xC0, 0, 0, 0, 0, 0, 0}, 0); e != api.OK || q.Initial {
		t.Error("version 0 has no Initial packets")
	}
	twenty := append([]byte{0xC0, 0, 0, 0, 1, 20}, make([]byte, 20)...)
	twenty = append(append(twenty, 20), make([]byte, 20)...)
	if q, e := Show(twenty, 0); e != api.OK || len(q.Dst) != 20 || len(q.Src) != 20 {
		t.Error(q, e)
	}
}

func TestConstants(t *testing.T) {
	if Size != 8 || MostID != 20 {
		t.Error("constants")
	}
}

func TestShowErrors(t *testing.T) {
	cases := []struct {
		b    []byte
		size int
		want api.Errno
	}{
		{nil, 0, api.ErrShort},
		{[]byte{0}, 0, api.ErrForm}, {[]byte{0x3f}, 4, api.ErrForm}, {[]byte{0x3f, 1, 2, 3, 4}, 4, api.ErrForm},
		{[]byte{0x40}, 1, api.ErrShort}, {[]byte{0x40, 1, 2}, 3, api.ErrShort},
		{[]byte{0x80}, 0, api.ErrShort}, {[]byte{0x80, 0, 0, 0}, 0, api.ErrShort}, {[]byte{0x80, 0, 0, 0, 1}, 0, api.ErrShort},
		{[]byte{0x80, 0, 0, 0, 1, 21}, 0, api.ErrForm}, {[]byte{0x80, 0, 0, 0, 1, 255}, 0, api.ErrForm},
		{[]byte{0x80, 0, 0, 0, 1, 2, 1}, 0, api.ErrShort}, {[]byte{0x80, 0, 0, 0, 1, 2, 1, 2}, 0, api.ErrShort},
		{[]byte{0x80, 0, 0, 0, 1, 0, 21}, 0, api.ErrForm}, {[]byte{0x80, 0, 0, 0, 1, 0, 1}, 0, api.ErrShort},
	}
	for i, c := range cases {
		if q, e := Show(c.b, c.size); e != c.want || !same(q, Quic{}) {
			t.Error(i, q, e)
		}
	}
}

func TestParseInvertsBytes(t *testing.T) {
	rnd := rand.New(rand.NewSource(7))
	for range 300 {
		d := Datagram{SrcPort: uint16(rnd.Uint32()), DstPort: uint16(rnd.Uint32()), Load: make([]byte, 1+rnd.Intn(40))}
		rnd.Read(d.Load)
		ends := [][2]api.Addr{four, six}[rnd.Intn(2)]
		d = d.Summed(ends[0], ends[1])
		if got, e := Parse(d.Bytes()); e != api.OK || !same(got, d) || !got.Fine(ends[0], ends[1]) {
			t.Fatal(got, e)
		}
	}
}
