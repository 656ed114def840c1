package tcp_test

import (
	"bytes"
	"fmt"
	"math/rand"
	"testing"

	"counterfoil/addr"
	"counterfoil/api"
	"counterfoil/ip6"
	"counterfoil/sum"
	. "counterfoil/tcp"
)

// same reports whether two values print alike, as nil slices and empty ones do.
func same(a, b any) bool { return fmt.Sprintf("%+v", a) == fmt.Sprintf("%+v", b) }

var (
	four = [2]api.Addr{addr.V4(10, 0, 0, 1), addr.V4(10, 0, 0, 2)}
	six  = [2]api.Addr{addr.V6(1, 2), addr.V6(3, 4)}
)

func stamped(before ...byte) []byte {
	o := append(before, 8, 10, 0, 0, 0, 1, 0, 0, 0, 2)
	for len(o)%4 != 0 {
		o = append(o, 0)
	}
	return o
}

func sample() Segment {
	return Segment{SrcPort: 0x0102, DstPort: 0x0304, Seq: 0x05060708, Ack: 0x090a0b0c, Flags: SYN | ACK, Window: 0x0d0e, Sum: 0x0f10,
		Urgent: 0x1112, Options: []byte{1, 1, 1, 0}, Load: []byte("load")}
}

func TestFlags(t *testing.T) {
	if FIN != 1 || SYN != 2 || RST != 4 || PSH != 8 || ACK != 16 || URG != 32 {
		t.Error("flags")
	}
}

func TestBytesAndParse(t *testing.T) {
	s := sample()
	want := []byte{1, 2, 3, 4, 5, 6, 7, 8, 9, 10, 11, 12, 0x60, 0x12, 13, 14, 15, 16, 17, 18, 1, 1, 1, 0, 'l', 'o', 'a', 'd'}
	b := s.Bytes()
	if !bytes.Equal(b, want) {
		t.Errorf("%x", b)
	}
	got, e := Parse(b)
	if e != api.OK || !same(got, s) {
		t.Error(got, e)
	}
	got.Options[0], got.Load[0] = 9, 9
	if !bytes.Equal(b, want) {
		t.Error("the result shares memory with the bytes")
	}
}

func TestParseWithoutOptions(t *testing.T) {
	s := Segment{SrcPort: 1, DstPort: 2, Load: []byte("x")}
	if got, e := Parse(s.Bytes()); e != api.OK || len(got.Options) != 0 || string(got.Load) != "x" {
		t.Error(got, e)
	}
	if got, e := Parse((Segment{Seq: 7}).Bytes()); e != api.OK || got.Seq != 7 || len(got.Load) != 0 {
		t.Error(got, e)
	}
}

func TestParseErrors(t *testing.T) {
	b := sample().Bytes()
	change := func(x byte, n int) []byte {
		c := bytes.Clone(b[:n])
		c[12] = x
		return c
	}
	cases := []struct {
		b    []byte
		want api.Errno
	}{
		{nil, api.ErrShort}, {b[:19], api.ErrShort}, {change(0x41, 19), api.ErrShort},
		{change(0x40, 28), api.ErrForm}, {change(0, 20), api.ErrForm}, {change(0x61, 28), api.ErrForm}, {change(0xf8, 28), api.ErrForm},
		{change(0x60, 23), api.ErrShort}, {change(0xf0, 28), api.ErrShort},
	}
	for i, c := range cases {
		if s, e := Parse(c.b); e != c.want || !same(s, Segment{}) {
			t.Error(i, s, e)
		}
	}
	if s, e := Parse(b[:24]); e != api.OK || len(s.Load) != 0 {
		t.Error("a segment without a load:", e)
	}
}

func TestRight(t *testing.T) {
	good := []Segment{{}, {Options: make([]byte, 40)}, {Load: make([]byte, 65515)}, {Options: make([]byte, 40), Load: make([]byte, 65475)}}
	for i, s := range good {
		if !s.Right() || len(s.Bytes()) != 20+len(s.Options)+len(s.Load) {
			t.Error("good", i)
		}
	}
	bad := []Segment{{Options: make([]byte, 44)}, {Options: make([]byte, 1)}, {Options: make([]byte, 38)}, {Load: make([]byte, 65516)},
		{Options: make([]byte, 4), Load: make([]byte, 65512)}}
	for i, s := range bad {
		if s.Right() || len(s.Bytes()) != 0 {
			t.Error("bad", i)
		}
	}
}

func TestSummedAndFine(t *testing.T) {
	for _, ends := range [][2]api.Addr{four, six} {
		s := sample().Summed(ends[0], ends[1])
		zero := s
		zero.Sum = 0
		want := sum.Of(ip6.Pseudo(ends[0], ends[1], 6, 28), zero.Bytes())
		if s.Sum != want || !Fine(s.Bytes(), ends[0], ends[1]) {
			t.Errorf("%x, not %x", s.Sum, want)
		}
		s.Seq++
		if Fine(s.Bytes(), ends[0], ends[1]) {
			t.Error("another segment")
		}
	}
	s := sample()
	x := s.Summed(four[0], four[1])
	x.Options[0], x.Load[0] = 7, 7
	if s.Options[0] != 1 || s.Load[0] != 'l' || s.Sum != 0x0f10 {
		t.Error("Summed shares memory with its segment")
	}
	long := make([]byte, 65536)
	check := sum.Of(ip6.Pseudo(six[0], six[1], 6, len(long)), long)
	long[0], long[1] = byte(check>>8), byte(check)
	if Fine(long, six[0], six[1]) || Fine(make([]byte, 65536), four[0], four[1]) {
		t.Error("too long")
	}
	all := make([]byte, 65535)
	n := sum.Of(ip6.Pseudo(four[0], four[1], 6, len(all)), all)
	all[0], all[1] = byte(n>>8), byte(n)
	if !Fine(all, four[0], four[1]) {
		t.Error("as long as may be")
	}
}

func TestStamps(t *testing.T) {
	ten := []byte{8, 10, 1, 2, 3, 4, 5, 6, 7, 8}
	join := func(l ...[]byte) []byte { return bytes.Join(l, nil) }
	cases := []struct {
		o  []byte
		at int
		ok bool
	}{
		{nil, 0, false},
		{join([]byte{1, 1}, ten), 4, true},
		{ten, 2, true},
		{join([]byte{1}, ten), 3, true},
		{join([]byte{2, 4, 0, 0}, ten), 6, true},
		{join([]byte{0}, ten), 0, false},
		{join([]byte{1, 0}, ten), 0, false},
		{join([]byte{0, 2}, ten), 0, false},
		{ten[:9], 0, false},
		{[]byte{8}, 0, false},
		{[]byte{1, 1, 8}, 0, false},
		{join([]byte{8, 2}, ten), 0, false},
		{join([]byte{8, 3, 0}, ten), 0, false},
		{join([]byte{8, 11}, ten), 0, false},
		{join([]byte{3, 1}, ten), 0, false},
		{join([]byte{3, 0}, ten), 0, false},
		{join([]byte{3, 40}, ten), 0, false},
		{join([]byte{3, 12}, ten), 0, false},
		{join([]byte{3, 2}, ten), 4, true},
		{join(ten, []byte{8, 2}), 2, true},
	}
	for i, c := range cases {
		if at, ok := Stamps(c.o); at != c.at || ok != c.ok {
			t.Error(i, at, ok)
		}
		val, echo, ok := Segment{Options: c.o}.Stamp()
		if ok != c.ok || ok && (val != 0x01020304 || echo != 0x05060708) || !ok && (val != 0 || echo != 0) {
			t.Error(i, val, echo, ok)
		}
	}
}

func TestWith(t *testing.T) {
	for _, o := range [][]byte{stamped(1, 1), stamped(1), stamped(3, 3, 5), stamped()} {
		s := Segment{Seq: 7, Flags: ACK, Options: o, Load: []byte("odd")}.Summed(six[0], six[1])
		before := s.Bytes()
		x := s.WithVal(0xfedcba98)
		if val, echo, ok := x.Stamp(); val != 0xfedcba98 || echo != 2 || !ok || !Fine(x.Bytes(), six[0], six[1]) {
			t.Errorf("%v: %x %x", o, val, echo)
		}
		y := x.WithEcho(0x00ff1234)
		if val, echo, ok := y.Stamp(); val != 0xfedcba98 || echo != 0x00ff1234 || !ok || !Fine(y.Bytes(), six[0], six[1]) {
			t.Errorf("%v: %x %x", o, val, echo)
		}
		if !bytes.Equal(s.Bytes(), before) {
			t.Error("the segment itself was changed")
		}
		at, _ := Stamps(o)
		was, now := uint32(1), uint32(0xfedcba98)
		if at%2 == 1 {
			was, now = 0x100, 0xdcba98fe
		}
		if want := sum.UpdateLong(s.Sum, was, now); x.Sum != want {
			t.Errorf("%x, not %x", x.Sum, want)
		}
	}
}

func TestWithoutStamps(t *testing.T) {
	s := sample()
	if !same(s.WithVal(9), s) || !same(s.WithEcho(9), s) {
		t.Error("a segment without timestamps was changed")
	}
	x := s.WithEcho(9)
	x.Load[0] = 9
	if s.Load[0] != 'l' {
		t.Error("shared memory")
	}
}

func TestFirst(t *testing.T) {
	for flags := range 256 {
		want := flags&SYN != 0 && flags&ACK == 0 && flags&RST == 0 && flags&FIN == 0
		if (Segment{Flags: uint8(flags)}).First() != want {
			t.Error(flags)
		}
	}
}

func TestParseInvertsBytesAndFineStays(t *testing.T) {
	rnd := rand.New(rand.NewSource(6))
	for range 500 {
		s := Segment{SrcPort: uint16(rnd.Uint32()), DstPort: uint16(rnd.Uint32()), Seq: rnd.Uint32(), Ack: rnd.Uint32(), Flags: uint8(rnd.Uint32()),
			Window: uint16(rnd.Uint32()), Urgent: uint16(rnd.Uint32()), Options: stamped(bytes.Repeat([]byte{1}, rnd.Intn(5))...), Load: make([]byte, 1+rnd.Intn(30))}
		rnd.Read(s.Load)
		ends := [][2]api.Addr{four, six}[rnd.Intn(2)]
		s = s.Summed(ends[0], ends[1])
		if got, e := Parse(s.Bytes()); e != api.OK || !same(got, s) {
			t.Fatal(got, e)
		}
		for _, x := range []Segment{s.WithVal(rnd.Uint32()), s.WithEcho(rnd.Uint32()), s.WithVal(0), s.WithEcho(0xffffffff)} {
			if !Fine(x.Bytes(), ends[0], ends[1]) {
				t.Fatal("no longer fine")
			}
		}
	}
}

func TestOptionsThatReachBeyondTheEnd(t *testing.T) {
	for _, o := range [][]byte{{1, 1, 1, 1, 3, 5, 0, 0}, {1, 1, 1, 1, 1, 1, 8, 10, 0, 0, 0, 1}, {3, 3, 7, 1, 8, 10, 0, 0, 0, 1, 0, 0}} {
		if at, ok := Stamps(o); at != 0 || ok {
			t.Error(o, at, ok)
		}
	}
	if Kind != 8 || Long != 10 || Least != 20 {
		t.Error("constants")
	}
}
