package addr_test

import (
	"bytes"
	"math"
	"math/rand"
	"strconv"
	"strings"
	"testing"

	. "counterfoil/addr"
	"counterfoil/api"
)

func TestMake(t *testing.T) {
	if V4(10, 0, 0, 1) != (api.Addr{Low: 0x0a000001}) || V4(255, 254, 253, 252) != (api.Addr{Low: 0xfffefdfc}) {
		t.Error("V4")
	}
	if V6(1, 2) != (api.Addr{Six: true, High: 1, Low: 2}) {
		t.Error("V6")
	}
}

func TestRight(t *testing.T) {
	good := []api.Addr{{}, V4(255, 255, 255, 255), V6(0, 0), V6(math.MaxUint64, math.MaxUint64)}
	for _, a := range good {
		if !Right(a) {
			t.Error(a)
		}
	}
	for _, a := range []api.Addr{{Low: 1 << 32}, {High: 1}, {High: 1, Low: 1}} {
		if Right(a) {
			t.Error(a)
		}
	}
}

func TestBytes(t *testing.T) {
	four, six := V4(1, 2, 3, 4), V6(0x0102030405060708, 0x090a0b0c0d0e0f10)
	if Size(four) != 4 || Size(six) != 16 {
		t.Error("Size")
	}
	if !bytes.Equal(Bytes(four), []byte{1, 2, 3, 4}) {
		t.Error(Bytes(four))
	}
	if !bytes.Equal(Bytes(six), []byte{1, 2, 3, 4, 5, 6, 7, 8, 9, 10, 11, 12, 13, 14, 15, 16}) {
		t.Error(Bytes(six))
	}
	for _, a := range []api.Addr{four, six, V6(0, 5), {}} {
		if got, e := Of(Bytes(a)); got != a || e != api.OK {
			t.Error(got, e)
		}
	}
	for _, n := range []int{0, 1, 3, 5, 8, 15, 17, 32} {
		if got, e := Of(make([]byte, n)); got != (api.Addr{}) || e != api.ErrShort {
			t.Error(n, got, e)
		}
	}
}

func TestCompare(t *testing.T) {
	l := []api.Addr{{}, V4(1, 0, 0, 0), {Low: 1 << 40}, {High: 1}, {High: 2}, V6(0, 0), V6(0, 9), V6(1, 0), V6(math.MaxUint64, 0)}
	for i, a := range l {
		for j, b := range l {
			want := 0
			if i < j {
				want = -1
			} else if i > j {
				want = 1
			}
			if got := Compare(a, b); got != want {
				t.Error(a, b, got)
			}
		}
	}
}

func TestDecimal(t *testing.T) {
	for n, want := range map[int]string{0: "0", 7: "7", 1020: "1020", -1: "0", math.MinInt: "0", math.MaxInt: strconv.Itoa(math.MaxInt)} {
		if got := Decimal(n); got != want {
			t.Error(n, got)
		}
	}
}

func TestNumber(t *testing.T) {
	good := []struct {
		s          string
		base, most int
		want       int
	}{
		{"0", 10, 0, 0}, {"0", 16, 5, 0}, {"255", 10, 255, 255}, {"ff", 16, 255, 255}, {"10", 16, 99, 16},
		{"1099511627776", 10, 1 << 40, 1 << 40}, {"10000000000", 16, 1 << 40, 1 << 40}, {"9223372036854775807", 10, math.MaxInt, math.MaxInt},
	}
	for _, c := range good {
		if got, ok := Number(c.s, c.base, c.most); !ok || got != c.want {
			t.Error(c, got, ok)
		}
	}
	bad := []struct {
		s          string
		base, most int
	}{
		{"", 10, 9}, {"00", 10, 9}, {"01", 10, 9}, {"256", 10, 255}, {"100", 16, 255}, {"f", 10, 255}, {"F", 16, 255}, {"g", 16, 255},
		{"-1", 10, 9}, {"+1", 10, 9}, {" 1", 10, 9}, {"1 ", 10, 9}, {"1_0", 10, 99}, {"0x1", 16, 99}, {"1", 10, 0},
		{"1099511627777", 10, 1 << 40}, {"99999999999999999999999999", 10, 1 << 40}, {"18446744073709551617", 10, 1 << 40}, {"1", 2, 9}, {"٣", 10, 9},
		{"/", 10, 99}, {":", 10, 99}, {"1:", 10, 99}, {"`", 16, 99}, {"G", 16, 99}, {"A", 16, 99}, {"a", 10, 99},
	}
	for _, c := range bad {
		if got, ok := Number(c.s, c.base, c.most); ok || got != 0 {
			t.Error(c, got, ok)
		}
	}
}

func TestText(t *testing.T) {
	cases := map[string]api.Addr{
		"10.0.0.1":                V4(10, 0, 0, 1),
		"0.0.0.0":                 {},
		"255.255.255.255":         V4(255, 255, 255, 255),
		"0:0:0:0:0:0:0:0":         V6(0, 0),
		"2001:db8:0:0:0:0:0:1":    V6(0x20010db800000000, 1),
		"ffff:a:0:10:100:0:0:abc": V6(0xffff000a00000010, 0x0100000000000abc),
	}
	for s, a := range cases {
		if got := Text(a); got != s {
			t.Error(got, s)
		}
		if got, e := Parse(s); got != a || e != api.OK {
			t.Error(s, got, e)
		}
	}
}

func TestParseRejects(t *testing.T) {
	bad := []string{
		"", "10.0.0.01", "10.0.0", "10.0.0.1.2", "10.0.0.256", "10.0.0.", ".0.0.1", "10.0.0.1 ", " 10.0.0.1", "a.0.0.1", "10,0,0,1",
		"::", "::1", "0:0:0:0:0:0:0", "0:0:0:0:0:0:0:0:0", "0:0:0:0:0:0:0:00", "0:0:0:0:0:0:0:A", "0:0:0:0:0:0:0:10000", "0:0:0:0:0:0:0:g", "0:0:0:0:0:0:1.2.3.4",
		strings.Repeat(":", 1000), "1", "10.0.0.1\n",
	}
	for _, s := range bad {
		if got, e := Parse(s); got != (api.Addr{}) || e != api.ErrForm {
			t.Error(s, got, e)
		}
	}
}

func TestFlows(t *testing.T) {
	f := api.Flow{Src: V4(1, 2, 3, 4), Dst: V4(5, 6, 7, 8), SrcPort: 0x1122, DstPort: 0x3344, Proto: 6}
	want := api.Flow{Src: V4(5, 6, 7, 8), Dst: V4(1, 2, 3, 4), SrcPort: 0x3344, DstPort: 0x1122, Proto: 6}
	if Back(f) != want || Back(Back(f)) != f {
		t.Error(Back(f))
	}
	if !bytes.Equal(Key(f), []byte{1, 2, 3, 4, 5, 6, 7, 8, 0x11, 0x22, 0x33, 0x44, 6}) {
		t.Error(Key(f))
	}
	six := api.Flow{Src: V6(1, 2), Dst: V6(3, 4), SrcPort: 1, DstPort: 2, Proto: 17}
	if k := Key(six); len(k) != 37 || k[7] != 1 || k[15] != 2 || k[23] != 3 || k[31] != 4 || k[36] != 17 {
		t.Error(Key(six))
	}
}

func TestParseInvertsText(t *testing.T) {
	rnd := rand.New(rand.NewSource(3))
	for range 500 {
		a := V6(rnd.Uint64()>>rnd.Intn(64), rnd.Uint64()>>rnd.Intn(64))
		b := api.Addr{Low: uint64(rnd.Uint32() >> rnd.Intn(32))}
		for _, x := range []api.Addr{a, b} {
			if got, e := Parse(Text(x)); got != x || e != api.OK {
				t.Fatal(x, got, e)
			}
		}
	}
}

func TestKeysDiffer(t *testing.T) {
	base := api.Flow{Src: V4(1, 1, 1, 1), Dst: V4(1, 1, 1, 1), SrcPort: 1, DstPort: 1, Proto: 6}
	flows := []api.Flow{base}
	for i := range 5 {
		f := base
		switch i {
		case 0:
			f.Src = V4(1, 1, 1, 2)
		case 1:
			f.Dst = V4(1, 1, 1, 2)
		case 2:
			f.SrcPort = 256
		case 3:
			f.DstPort = 256
		case 4:
			f.Proto = 17
		}
		flows = append(flows, f)
	}
	seen := map[string]bool{}
	for _, f := range flows {
		seen[string(Key(f))] = true
	}
	if len(seen) != len(flows) {
		t.Error("two flows have the same key")
	}
}
