package frag_test

import (
	"bytes"
	"math"
	"math/rand"
	"testing"

	"counterfoil/addr"
	"counterfoil/api"
	. "counterfoil/frag"
	"counterfoil/ip4"
)

func head() ip4.Header {
	return ip4.Header{Tos: 3, ID: 7, TTL: 9, Proto: 17, Src: addr.V4(1, 2, 3, 4), Dst: addr.V4(5, 6, 7, 8)}
}

func pack(t *testing.T, h ip4.Header, load []byte) []byte {
	t.Helper()
	b, e := ip4.Packet(h, load)
	if e != api.OK {
		t.Fatal(e)
	}
	return b
}

func counting(n int) []byte {
	b := make([]byte, n)
	for i := range b {
		b[i] = byte(i)
	}
	return b
}

func TestSplit(t *testing.T) {
	load := counting(20)
	b := pack(t, head(), load)
	for most, want := range map[int]int{28: 3, 35: 3, 36: 2, 39: 2, 40: 1, 41: 1, math.MaxInt: 1} {
		l, e := Split(append(bytes.Clone(b), 9, 9), most)
		if e != api.OK || len(l) != want {
			t.Error(most, len(l), e)
		}
		if want == 1 && !bytes.Equal(l[0], b) {
			t.Error("a packet that fits was changed")
		}
	}
	l, _ := Split(b, 28)
	for i, x := range l {
		h := head()
		h.Offset, h.More = i, i < 2
		if want := pack(t, h, load[8*i:min(8*i+8, 20)]); !bytes.Equal(x, want) {
			t.Errorf("%d: %x\n%x", i, x, want)
		}
	}
	h := head()
	h.Options, h.More, h.Offset = []byte{1, 1, 1, 0}, true, 5
	l, e := Split(pack(t, h, load[:16]), 32)
	if e != api.OK || len(l) != 2 {
		t.Fatal(len(l), e)
	}
	for i, x := range l {
		h.Offset = 5 + i
		if !bytes.Equal(x, pack(t, h, load[8*i:8*i+8])) {
			t.Error("a fragment of a fragment", i)
		}
	}
	one, _ := Split(b, 100)
	one[0][0] = 0
	if b[0] != 0x45 {
		t.Error("shared memory")
	}
}

func TestSplitErrors(t *testing.T) {
	b := pack(t, head(), counting(20))
	wrong := bytes.Clone(b)
	wrong[11] ^= 1
	stay := head()
	stay.Stay = true
	far := head()
	far.Offset = 8191
	cases := []struct {
		b    []byte
		most int
		want api.Errno
	}{
		{nil, 28, api.ErrShort}, {wrong, 28, api.ErrSum}, {pack(t, stay, counting(20)), 39, api.ErrLong}, {pack(t, stay, counting(20)), 0, api.ErrLong},
		{b, 27, api.ErrArg}, {b, 0, api.ErrArg}, {b, -1, api.ErrArg}, {b, math.MinInt, api.ErrArg}, {pack(t, far, counting(20)), 28, api.ErrArg},
	}
	for i, c := range cases {
		if l, e := Split(c.b, c.most); e != c.want || len(l) != 0 {
			t.Error(i, l, e)
		}
	}
	if l, e := Split(pack(t, stay, counting(20)), 40); e != api.OK || len(l) != 1 {
		t.Error(e)
	}
}

func TestJoinErrors(t *testing.T) {
	piece := func(offset, size int, more bool, change func(h *ip4.Header)) []byte {
		h := head()
		h.Offset, h.More = offset, more
		if change != nil {
			change(&h)
		}
		return pack(t, h, counting(size))
	}
	first, last := piece(0, 8, true, nil), piece(1, 5, false, nil)
	wrong := bytes.Clone(last)
	wrong[11] ^= 1
	cases := []struct {
		l    [][]byte
		want api.Errno
	}{
		{nil, api.ErrNone}, {[][]byte{first, wrong}, api.ErrSum}, {[][]byte{nil, wrong}, api.ErrShort}, {[][]byte{first}, api.ErrShort}, {[][]byte{last}, api.ErrShort},
		{[][]byte{first, piece(2, 5, false, nil)}, api.ErrShort},
		{[][]byte{first, last, last}, api.ErrForm}, {[][]byte{first, first, last}, api.ErrForm}, {[][]byte{piece(0, 16, true, nil), last}, api.ErrForm},
		{[][]byte{first, piece(1, 8, false, nil), piece(2, 8, false, nil)}, api.ErrForm}, {[][]byte{piece(0, 8, false, nil), piece(2, 8, false, nil)}, api.ErrForm},
		{[][]byte{piece(0, 12, true, nil), last}, api.ErrForm}, {[][]byte{piece(0, 5, true, nil), last}, api.ErrShort},
		{[][]byte{first, piece(1, 5, false, func(h *ip4.Header) { h.ID = 8 })}, api.ErrForm},
		{[][]byte{first, piece(2, 5, false, func(h *ip4.Header) { h.ID = 8 })}, api.ErrForm},
		{[][]byte{first, piece(1, 5, false, func(h *ip4.Header) { h.Proto = 8 })}, api.ErrForm},
		{[][]byte{first, piece(1, 5, false, func(h *ip4.Header) { h.Src = h.Dst })}, api.ErrForm},
		{[][]byte{first, piece(1, 5, false, func(h *ip4.Header) { h.Dst = h.Src })}, api.ErrForm},
		{[][]byte{piece(0, 65512, true, nil), piece(8189, 8, false, nil)}, api.ErrLong},
	}
	for i, c := range cases {
		if b, e := Join(c.l...); e != c.want || len(b) != 0 {
			t.Error(i, len(b), e)
		}
	}
}

func TestJoinTakesTheHeaderOfTheFirst(t *testing.T) {
	a, b := head(), head()
	a.More, a.Options, a.Stay = true, []byte{1, 1, 1, 0}, true
	b.Offset, b.TTL, b.Tos = 1, 1, 0
	got, e := Join(pack(t, b, []byte("tail")), pack(t, a, counting(8)))
	a.More = false
	if e != api.OK || !bytes.Equal(got, pack(t, a, append(counting(8), "tail"...))) {
		t.Errorf("%x %d", got, e)
	}
	// An empty piece may stand between others.
	c := head()
	c.More = true
	if got, e := Join(pack(t, c, nil), pack(t, head(), []byte("x"))); e != api.OK || !bytes.Equal(got, pack(t, head(), []byte("x"))) {
		t.Error(got, e)
	}
}

func TestJoinInvertsSplit(t *testing.T) {
	rnd := rand.New(rand.NewSource(34))
	for range 300 {
		h := head()
		h.Options = make([]byte, 4*rnd.Intn(4))
		h.ID = uint16(rnd.Uint32())
		b := pack(t, h, counting(rnd.Intn(300)))
		most := h.Size() + 8 + rnd.Intn(100)
		l, e := Split(b, most)
		if e != api.OK {
			t.Fatal(e)
		}
		for _, x := range l {
			if len(x) > most {
				t.Fatal("too long")
			}
		}
		rnd.Shuffle(len(l), func(i, j int) { l[i], l[j] = l[j], l[i] })
		if got, e := Join(l...); e != api.OK || !bytes.Equal(got, b) {
			t.Fatal(e)
		}
	}
}
