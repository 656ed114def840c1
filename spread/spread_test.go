package spread_test

import (
	"math"
	"math/rand"
	"slices"
	"testing"

	"counterfoil/addr"
	"counterfoil/api"
	. "counterfoil/spread"
)

// key is the one of Microsoft's verification suite for receive-side scaling.
var key = []byte{
	0x6d, 0x5a, 0x56, 0xda, 0x25, 0x5b, 0x0e, 0xc2, 0x41, 0x67, 0x25, 0x3d, 0x43, 0xa3, 0x8f, 0xb0, 0xd0, 0xca, 0x2b, 0xcb,
	0xae, 0x7b, 0x30, 0xb4, 0x77, 0xcb, 0x2d, 0xa3, 0x80, 0x30, 0xf2, 0x0c, 0x6a, 0x42, 0xb7, 0x3b, 0xbe, 0xac, 0x01, 0xfa,
}

func TestFlow(t *testing.T) {
	cases := []struct {
		f    api.Flow
		want uint32
	}{
		{api.Flow{Src: addr.V4(66, 9, 149, 187), Dst: addr.V4(161, 142, 100, 80), SrcPort: 2794, DstPort: 1766, Proto: 6}, 0x51ccc178},
		{api.Flow{Src: addr.V4(199, 92, 111, 2), Dst: addr.V4(65, 69, 140, 83), SrcPort: 14230, DstPort: 4739, Proto: 17}, 0xc626b0ea},
		{api.Flow{Src: addr.V6(0x3ffe250102001fff, 7), Dst: addr.V6(0x3ffe250102000003, 1), SrcPort: 2794, DstPort: 1766}, 0x40207d3d},
	}
	if len(key) != KeySize {
		t.Error(KeySize)
	}
	for _, c := range cases {
		if got := Flow(key, c.f); got != c.want {
			t.Errorf("%x, not %x", got, c.want)
		}
		c.f.Proto++
		if Flow(key, c.f) != c.want {
			t.Error("the protocol counts")
		}
	}
}

func TestSum(t *testing.T) {
	short := []byte{0xff, 0x0f, 0, 0, 0x80}
	cases := []struct {
		key, b []byte
		want   uint32
	}{
		{key, nil, 0}, {nil, []byte{0xff}, 0}, {short, []byte{0x80}, 0xff0f0000}, {short, []byte{0x01}, 0x87800040}, {short, []byte{0x81}, 0xff0f0000 ^ 0x87800040},
		{short, []byte{0, 0, 0, 0, 0x80}, 0x80000000}, {short, []byte{0, 0, 0, 0, 0x40, 0xff, 0xff}, 0}, {[]byte{0xff}, []byte{0x40}, 0xfe000000},
	}
	for i, c := range cases {
		if got := Sum(c.key, c.b); got != c.want {
			t.Errorf("%d: %x", i, got)
		}
	}
}

// list returns the values of the slots of a table.
func list(t Table, size int) []int {
	var l []int
	for i := range size {
		l = append(l, t.Pick(uint32(i)))
	}
	return l
}

func TestNew(t *testing.T) {
	table, e := New(4, 7, 8)
	if e != api.OK || table.Pick(0) != 7 || table.Pick(5) != 8 || table.Pick(math.MaxUint32) != 8 || table.Count(7) != 2 || table.Count(9) != 0 {
		t.Error(table, e)
	}
	three, _ := New(8, 1, 2, 3)
	if !slices.Equal(list(three, 8), []int{1, 2, 3, 1, 2, 3, 1, 2}) || three.Count(3) != 2 {
		t.Error(three)
	}
	for _, size := range []int{1, 2, 4096} {
		if table, e := New(size, -1, 5, 5, 6, 7); e != api.OK || table.Count(-1)+table.Count(5)+table.Count(6)+table.Count(7) != size || table.Pick(0) != -1 {
			t.Error(size, e)
		}
	}
	for _, size := range []int{0, -1, -4, 3, 6, 4095, 8192, math.MinInt} {
		if table, e := New(size, 1); e != api.ErrArg || table.Pick(0) != -1 {
			t.Error(size, e)
		}
	}
	if table, e := New(4); e != api.ErrArg || table.Pick(1) != -1 || table.Count(0) != 0 {
		t.Error(table, e)
	}
}

func TestWithout(t *testing.T) {
	table, _ := New(8, 1, 2, 3, 2)
	next, e := table.Without(2, 5, 2, 6, 7)
	if e != api.OK || !slices.Equal(list(next, 8), []int{1, 5, 3, 6, 1, 7, 3, 5}) {
		t.Error(next, e)
	}
	if !slices.Equal(list(table, 8), []int{1, 2, 3, 2, 1, 2, 3, 2}) {
		t.Error("the table itself was changed")
	}
	if same, e := table.Without(9, 1); e != api.OK || !slices.Equal(list(same, 8), list(table, 8)) {
		t.Error(same, e)
	}
	for _, to := range [][]int{nil, {2}, {2, 2}} {
		if next, e := table.Without(2, to...); e != api.ErrArg || next.Pick(0) != -1 {
			t.Error(next, e)
		}
	}
	if next, e := (Table{}).Without(2, 1); e != api.OK || next.Pick(0) != -1 {
		t.Error(next, e)
	}
}

func TestSumsAreLinear(t *testing.T) {
	rnd := rand.New(rand.NewSource(37))
	for range 200 {
		a := make([]byte, rnd.Intn(50))
		b, x := make([]byte, len(a)), make([]byte, len(a))
		rnd.Read(a)
		rnd.Read(b)
		for i := range a {
			x[i] = a[i] ^ b[i]
		}
		if Sum(key, x) != Sum(key, a)^Sum(key, b) {
			t.Fatal("not linear")
		}
	}
}
