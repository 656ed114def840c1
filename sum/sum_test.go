package sum_test

import (
	"encoding/binary"
	"math/rand"
	"testing"

	. "counterfoil/sum"
)

var header = []byte{
	0x45, 0x00, 0x00, 0x73, 0x00, 0x00, 0x40, 0x00, 0x40, 0x11, 0x00, 0x00, 0xC0, 0xA8, 0x00, 0x01, 0xC0, 0xA8, 0x00, 0xC7,
}

func TestOf(t *testing.T) {
	cases := []struct {
		parts [][]byte
		want  uint16
	}{
		{[][]byte{header}, 0xB861},
		{[][]byte{header[:8], header[8:12], nil, header[12:]}, 0xB861},
		{nil, 0xffff},
		{[][]byte{{}}, 0xffff},
		{[][]byte{{1}}, 0xfeff},
		{[][]byte{{0, 1}, {2}}, 0xfdfe},
		{[][]byte{{0xff, 0xff}}, 0},
		{[][]byte{{0xff, 0xff}, {0, 1}}, 0xfffe},
		{[][]byte{{0xff, 0xff, 0xff, 0xff, 0xff, 0xff}}, 0},
	}
	for _, c := range cases {
		if got := Of(c.parts...); got != c.want {
			t.Errorf("Of(%v) = %x, not %x", c.parts, got, c.want)
		}
	}
}

func TestOfFoldsCarriesOfManyWords(t *testing.T) {
	b := make([]byte, 400000)
	for i := range b {
		b[i] = 0xff
	}
	if Of(b) != 0 || !Right(b) {
		t.Error("all ones")
	}
	if got := Of(b, []byte{0, 2}); got != ^uint16(2) {
		t.Errorf("%x", got)
	}
}

func TestRight(t *testing.T) {
	b := append([]byte(nil), header...)
	if Right(b) {
		t.Error("without its checksum")
	}
	binary.BigEndian.PutUint16(b[10:], 0xB861)
	if !Right(b) || !Right(b[:10], b[10:]) {
		t.Error("with its checksum")
	}
	b[0] ^= 1
	if Right(b) || Right() || Right([]byte{0, 0}) {
		t.Error("wrong")
	}
}

func TestUpdate(t *testing.T) {
	if got := Update(0xDD2F, 0x5555, 0x3285); got != 0x0000 {
		t.Errorf("the example of RFC 1624: %x", got)
	}
	if got := Update(0xB861, 0x4011, 0x3F11); got != 0xB961 {
		t.Errorf("%x", got)
	}
	if got := Update(0xffff, 0, 0); got != 0 {
		t.Errorf("the sum of ^0 is folded as it stands: %x", got)
	}
	if got := Update(0, 0xffff, 0); got != 0 {
		t.Errorf("%x", got)
	}
}

func TestUpdateLongAndAll(t *testing.T) {
	s := uint16(0x1234)
	want := Update(Update(s, 0x1111, 0xaaaa), 0x2222, 0xbbbb)
	if UpdateLong(s, 0x11112222, 0xaaaabbbb) != want {
		t.Error("UpdateLong")
	}
	if UpdateAll(s, Change{0x1111, 0xaaaa}, Change{0x2222, 0xbbbb}) != want || UpdateAll(s) != s {
		t.Error("UpdateAll")
	}
}

func TestUpdateKeepsRight(t *testing.T) {
	rnd := rand.New(rand.NewSource(2))
	for range 2000 {
		b := make([]byte, 2*(2+rnd.Intn(10)))
		rnd.Read(b)
		b[2], b[3] = 1, byte(rnd.Intn(3))
		b[0], b[1] = 0, 0
		binary.BigEndian.PutUint16(b, Of(b))
		at := 2 * (1 + rnd.Intn(len(b)/2-1))
		was := binary.BigEndian.Uint16(b[at:])
		now := []uint16{0, 1, 0xffff, 0xfffe, uint16(rnd.Uint32())}[rnd.Intn(5)]
		if len(b) == 4 && now == 0 {
			continue
		}
		binary.BigEndian.PutUint16(b, Update(binary.BigEndian.Uint16(b), was, now))
		binary.BigEndian.PutUint16(b[at:], now)
		zero := true
		for _, x := range b[2:] {
			zero = zero && x == 0
		}
		if !zero && !Right(b) {
			t.Fatalf("%x: word %d from %x to %x", b, at, was, now)
		}
	}
}
