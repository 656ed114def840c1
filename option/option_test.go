package option_test

import (
	"bytes"
	"fmt"
	"math/rand"
	"slices"
	"testing"

	"counterfoil/addr"
	"counterfoil/api"
	. "counterfoil/option"
	"counterfoil/sum"
	"counterfoil/tcp"
)

// same reports whether two values print alike, as nil slices and empty ones do.
func same(a, b any) bool { return fmt.Sprintf("%+v", a) == fmt.Sprintf("%+v", b) }

var src, dst = addr.V4(1, 2, 3, 4), addr.V4(5, 6, 7, 8)

type found struct {
	at int
	o  Option
}

func list(b []byte) []found {
	var l []found
	for at, o := range All(b) {
		l = append(l, found{at, o})
	}
	return l
}

func TestKinds(t *testing.T) {
	if End != 0 || Nothing != 1 || MSS != 2 || Scale != 3 || Permit != 4 || Blocks != 5 || Stamps != 8 {
		t.Error("kinds")
	}
}

func TestAll(t *testing.T) {
	mss, permit := Option{MSS, []byte{5, 0xb4}}, Option{Permit, []byte{}}
	cases := []struct {
		b    []byte
		want []found
	}{
		{nil, nil}, {[]byte{0, 2, 4, 5, 0xb4}, nil}, {[]byte{1, 1, 1}, nil},
		{[]byte{2, 4, 5, 0xb4}, []found{{0, mss}}},
		{[]byte{1, 2, 4, 5, 0xb4, 1, 1, 4, 2, 0, 4, 2}, []found{{1, mss}, {7, permit}}},
		{[]byte{4, 2, 2}, []found{{0, permit}}}, {[]byte{4, 2, 2, 0}, []found{{0, permit}}}, {[]byte{4, 2, 2, 1, 4, 2}, []found{{0, permit}}},
		{[]byte{4, 2, 2, 5, 1, 2}, []found{{0, permit}}}, {[]byte{255, 3, 9}, []found{{0, Option{255, []byte{9}}}}},
	}
	for i, c := range cases {
		got := list(c.b)
		if len(got) != len(c.want) {
			t.Error(i, got)
			continue
		}
		for j := range got {
			if got[j].at != c.want[j].at || got[j].o.Kind != c.want[j].o.Kind || !bytes.Equal(got[j].o.Data, c.want[j].o.Data) {
				t.Error(i, got)
			}
		}
	}
}

func TestAllCanBeUsedAgain(t *testing.T) {
	b := []byte{4, 2, 2, 4, 5, 0xb4}
	all := All(b)
	b[0] = 0
	for range 2 {
		n := 0
		for _, o := range all {
			n++
			if len(o.Data) == 2 {
				o.Data[0] = 99
			}
		}
		if n != 2 {
			t.Error(n)
		}
	}
	for _, o := range all {
		if len(o.Data) == 2 && o.Data[0] != 5 {
			t.Error("shared memory")
		}
	}
	for at := range all {
		if at != 0 {
			t.Error("an iteration that was ended goes on")
		}
		break
	}
	if All(nil) == nil {
		t.Error("nil")
	}
}

func TestFind(t *testing.T) {
	b := []byte{1, 2, 4, 5, 0xb4, 2, 4, 1, 1, 4, 2, 0}
	if o, at, ok := Find(b, MSS); o.Kind != MSS || !bytes.Equal(o.Data, []byte{5, 0xb4}) || at != 1 || !ok {
		t.Error(o, at, ok)
	}
	if o, at, ok := Find(b, Permit); o.Kind != Permit || len(o.Data) != 0 || at != 9 || !ok {
		t.Error(o, at, ok)
	}
	for _, kind := range []uint8{End, Nothing, Scale, 255} {
		if o, at, ok := Find(b, kind); !same(o, Option{}) || at != 0 || ok {
			t.Error(kind, o, at, ok)
		}
	}
}

func TestWrite(t *testing.T) {
	if b, e := Write(Option{MSS, []byte{5, 0xb4}}); !bytes.Equal(b, []byte{2, 4, 5, 0xb4}) || e != api.OK {
		t.Error(b, e)
	}
	if b, e := Write(Option{Permit, nil}, Option{Scale, []byte{7}}); !bytes.Equal(b, []byte{4, 2, 3, 3, 7, 0, 0, 0}) || e != api.OK {
		t.Error(b, e)
	}
	if b, e := Write(); len(b) != 0 || e != api.OK {
		t.Error(b, e)
	}
	if b, e := Write(Option{9, make([]byte, 38)}); len(b) != 40 || e != api.OK {
		t.Error(b, e)
	}
	if b, e := Write(Option{9, make([]byte, 35)}); len(b) != 40 || e != api.OK {
		t.Error(b, e)
	}
	long, bad := Option{9, make([]byte, 37)}, Option{9, make([]byte, 39)}
	cases := []struct {
		l    []Option
		want api.Errno
	}{
		{[]Option{{End, nil}}, api.ErrArg}, {[]Option{{Nothing, nil}}, api.ErrArg}, {[]Option{bad}, api.ErrArg}, {[]Option{long, {Permit, nil}}, api.ErrLong},
		{[]Option{long, bad}, api.ErrArg}, {[]Option{long, {Permit, nil}, bad}, api.ErrLong}, {[]Option{long, {End, nil}}, api.ErrArg}, {[]Option{{Permit, nil}, {Nothing, nil}, long}, api.ErrArg},
	}
	for i, c := range cases {
		if b, e := Write(c.l...); len(b) != 0 || e != c.want {
			t.Error(i, b, e)
		}
	}
}

func TestClamp(t *testing.T) {
	for _, o := range [][]byte{{2, 4, 5, 0xb4}, {1, 2, 4, 5, 0xb4, 0, 0, 0}, {3, 3, 7, 2, 4, 5, 0xb4, 0}, {1, 1, 2, 4, 5, 0xb4, 0, 0}} {
		s := tcp.Segment{Flags: tcp.SYN | tcp.ACK, Options: o, Load: []byte("odd")}.Summed(src, dst)
		before := s.Bytes()
		got := Clamp(s, 1200)
		found, at, _ := Find(got.Options, MSS)
		if !bytes.Equal(found.Data, []byte{4, 0xb0}) || !tcp.Fine(got.Bytes(), src, dst) || !bytes.Equal(s.Bytes(), before) {
			t.Error(o, got)
		}
		was, now := uint16(0x05b4), uint16(0x04b0)
		if at%2 == 1 {
			was, now = 0xb405, 0xb004
		}
		if got.Sum != sum.Update(s.Sum, was, now) {
			t.Errorf("%x", got.Sum)
		}
	}
	unchanged := []tcp.Segment{
		{Flags: tcp.SYN, Options: []byte{2, 4, 4, 0xb0}}, {Flags: tcp.SYN, Options: []byte{2, 4, 0, 1}}, {Flags: tcp.ACK, Options: []byte{2, 4, 5, 0xb4}},
		{Flags: tcp.SYN, Options: []byte{2, 3, 9, 0}}, {Flags: tcp.SYN, Options: []byte{2, 3, 9, 2, 4, 5, 0xb4, 0}}, {Flags: tcp.SYN, Options: []byte{2, 6, 9, 9, 9, 9, 0, 0}}, {Flags: tcp.SYN},
	}
	for i, s := range unchanged {
		s.Sum, s.Load = 77, []byte{1}
		got := Clamp(s, 1200)
		if got.Sum != 77 || !bytes.Equal(got.Options, s.Options) || got.Flags != s.Flags || !bytes.Equal(got.Load, s.Load) {
			t.Error(i, got)
		}
		got.Load[0] = 9
		if s.Load[0] != 1 {
			t.Error("shared memory")
		}
	}
}

func TestAcked(t *testing.T) {
	two := []byte{1, 1, 5, 18, 0, 0, 0, 1, 0, 0, 0, 2, 1, 2, 3, 4, 5, 6, 7, 8}
	if l := Acked(two); !slices.Equal(l, []Block{{1, 2}, {0x01020304, 0x05060708}}) {
		t.Error(l)
	}
	for _, b := range [][]byte{nil, {5, 2}, {5, 9, 1, 2, 3, 4, 5, 6, 7}, {5, 6, 1, 2, 3, 4}, {2, 4, 5, 0xb4}, append([]byte{5, 3, 0}, two...)} {
		if l := Acked(b); len(l) != 0 {
			t.Error(b, l)
		}
	}
}

func TestAllReadsWhatWriteWrote(t *testing.T) {
	rnd := rand.New(rand.NewSource(40))
	for range 500 {
		var l []Option
		for range rnd.Intn(5) {
			o := Option{uint8(2 + rnd.Intn(254)), make([]byte, rnd.Intn(12))}
			rnd.Read(o.Data)
			l = append(l, o)
		}
		b, e := Write(l...)
		if e != api.OK {
			continue
		}
		got := list(b)
		if len(got) != len(l) || len(b)%4 != 0 {
			t.Fatal(got, l)
		}
		for i := range l {
			if got[i].o.Kind != l[i].Kind || !bytes.Equal(got[i].o.Data, l[i].Data) {
				t.Fatal(got, l)
			}
		}
		s := tcp.Segment{Flags: tcp.SYN, Seq: rnd.Uint32(), Options: b}.Summed(src, dst)
		if !tcp.Fine(Clamp(s, uint16(rnd.Uint32())).Bytes(), src, dst) {
			t.Fatal("no longer fine")
		}
	}
}
