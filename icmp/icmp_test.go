package icmp_test

import (
	"bytes"
	"fmt"
	"math/rand"
	"testing"

	"counterfoil/addr"
	"counterfoil/api"
	. "counterfoil/icmp"
	"counterfoil/ip6"
	"counterfoil/sum"
)

// same reports whether two values print alike, as nil slices and empty ones do.
func same(a, b any) bool { return fmt.Sprintf("%+v", a) == fmt.Sprintf("%+v", b) }

var (
	four = [2]api.Addr{addr.V4(10, 0, 0, 1), addr.V4(10, 0, 0, 2)}
	six  = [2]api.Addr{addr.V6(1, 2), addr.V6(3, 4)}
)

func TestParseAndBytes(t *testing.T) {
	m := Message{Type: 1, Code: 2, Sum: 0x0304, Word: 0x05060708, Load: []byte("abc")}
	b := m.Bytes()
	if !bytes.Equal(b, []byte{1, 2, 3, 4, 5, 6, 7, 8, 'a', 'b', 'c'}) {
		t.Errorf("%x", b)
	}
	got, e := Parse(b)
	if e != api.OK || !same(got, m) {
		t.Error(got, e)
	}
	got.Load[0] = 9
	if b[8] != 'a' {
		t.Error("the result shares memory with the bytes")
	}
	if got, e := Parse(b[:8]); e != api.OK || len(got.Load) != 0 {
		t.Error(got, e)
	}
	for _, n := range []int{0, 7} {
		if got, e := Parse(b[:n]); e != api.ErrShort || !same(got, Message{}) {
			t.Error(got, e)
		}
	}
}

func TestSummedAndFine(t *testing.T) {
	m := Message{Type: 8, Sum: 99, Word: 5, Load: []byte("odd")}
	zero := m
	zero.Sum = 0
	a, b := m.Summed(four[0], four[1]), m.Summed(six[0], six[1])
	if a.Sum != sum.Of(zero.Bytes()) || !a.Fine(four[0], four[1]) || a.Fine(six[0], six[1]) {
		t.Error("IPv4")
	}
	if b.Sum != sum.Of(ip6.Pseudo(six[0], six[1], 58, 11), zero.Bytes()) || !b.Fine(six[0], six[1]) || b.Fine(four[0], four[1]) {
		t.Error("IPv6")
	}
	a.Load[0]++
	if m.Load[0] != 'o' || a.Fine(four[0], four[1]) {
		t.Error("another load")
	}
}

func TestKinds(t *testing.T) {
	for n := range 256 {
		m := Message{Type: uint8(n)}
		if m.Error(true) != (n >= 1 && n <= 4) || m.Error(false) != (n == 3 || n == 11 || n == 12) {
			t.Error("Error", n)
		}
		if m.Echo(true) != (n == 128) || m.Echo(false) != (n == 8) {
			t.Error("Echo", n)
		}
	}
}

func TestTooBig(t *testing.T) {
	m := TooBig([]byte{1, 2, 3}, 1400, false)
	if b := m.Bytes(); !bytes.Equal(b, []byte{3, 4, 0, 0, 0, 0, 5, 0x78, 1, 2, 3}) {
		t.Error(b)
	}
	m = TooBig([]byte{1, 2, 3}, 65535, true)
	if b := m.Bytes(); !bytes.Equal(b, []byte{2, 0, 0, 0, 0, 0, 255, 255, 1, 2, 3}) {
		t.Error(b)
	}
	long := make([]byte, 2000)
	rand.New(rand.NewSource(8)).Read(long)
	if m := TooBig(long, 1, false); !bytes.Equal(m.Load, long[:548]) {
		t.Error(len(m.Load))
	}
	m = TooBig(long, 1, true)
	if !bytes.Equal(m.Load, long[:1232]) {
		t.Error(len(m.Load))
	}
	was := long[0]
	m.Load[0]++
	if long[0] != was {
		t.Error("the quote shares memory with the packet")
	}
	for _, n := range []int{0, 547, 548, 549, 1231, 1232, 1233} {
		if len(TooBig(long[:n], 1, false).Load) != min(n, 548) || len(TooBig(long[:n], 1, true).Load) != min(n, 1232) {
			t.Error(n)
		}
	}
}

func TestParseInvertsBytes(t *testing.T) {
	rnd := rand.New(rand.NewSource(9))
	for range 200 {
		m := Message{Type: uint8(rnd.Uint32()), Code: uint8(rnd.Uint32()), Word: rnd.Uint32(), Load: make([]byte, 1+rnd.Intn(30))}
		rnd.Read(m.Load)
		ends := [][2]api.Addr{four, six}[rnd.Intn(2)]
		m = m.Summed(ends[0], ends[1])
		if got, e := Parse(m.Bytes()); e != api.OK || !same(got, m) || !got.Fine(ends[0], ends[1]) {
			t.Fatal(got, e)
		}
	}
}

func TestConstants(t *testing.T) {
	got := []int{Size, Unreachable4, Echo4, Exceeded4, Unreachable6, TooBig6, Exceeded6, Problem6, Echo6, NeedsFragments, Quote4, Quote6}
	if !same(got, []int{8, 3, 8, 11, 1, 2, 3, 4, 128, 4, 548, 1232}) {
		t.Error(got)
	}
}
