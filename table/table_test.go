package table_test

import (
	"bytes"
	"math"
	"math/rand"
	"slices"
	"testing"

	"counterfoil/api"
	"counterfoil/octet"
	. "counterfoil/table"
)

func TestNext(t *testing.T) {
	var zero Table
	first := zero.Next(5, 7)
	second := first.Next(7, 9)
	if second.Len() != 3 || second.At(0) != 0 || second.At(1) != 7 || second.At(2) != 9 || second.Owner(0) != 5 {
		t.Error(second)
	}
	if first.Len() != 2 || first.At(0) != 5 || zero.Len() != 0 {
		t.Error("an older table was changed")
	}
	third := second.Next(9, 5)
	if !slices.Equal(third.Members(), []int{5, 9}) || third.At(1) != 0 || third.Owner(1) != 7 {
		t.Error("a backend comes back to its slot:", third)
	}
	odd := zero.Next(3, 0, 65, 3, -1, 64, 1, math.MinInt, 64)
	if !slices.Equal(odd.Members(), []int{3, 64, 1}) {
		t.Error(odd.Members())
	}
	if none := second.Next(); none.Len() != 3 || len(none.Members()) != 0 {
		t.Error(none)
	}
	other := first.Next(1)
	another := first.Next(2)
	if other.At(2) != 1 || another.At(2) != 2 {
		t.Error("two tables that follow one share memory")
	}
}

func TestLook(t *testing.T) {
	x := Table{}.Next(5, 7).Next(7)
	for _, slot := range []int{-1, 2, math.MaxInt, math.MinInt} {
		if x.At(slot) != 0 || x.Owner(slot) != 0 {
			t.Error(slot)
		}
	}
	if n, e := x.Slot(7); n != 1 || e != api.OK {
		t.Error(n, e)
	}
	for _, n := range []int{5, 6, 0, -1, 65, 128 + 7} {
		if slot, e := x.Slot(n); slot != 0 || e != api.ErrNone {
			t.Error(n, slot, e)
		}
	}
	if n, e := (Table{}).Slot(0); n != 0 || e != api.ErrNone {
		t.Error(n, e)
	}
}

func TestSame(t *testing.T) {
	a := Table{}.Next(5, 7)
	if !Same(a, Table{}.Next(5, 7)) || !Same(Table{}, Table{}.Next()) || !Same(a, a.Next(7).Next(7, 5)) {
		t.Error("the same")
	}
	if Same(a, Table{}.Next(7, 5)) || Same(a, a.Next(5)) || Same(a, Table{}.Next(5)) || Same(a, Table{}) {
		t.Error("not the same")
	}
}

func TestBytes(t *testing.T) {
	x := Table{}.Next(5, 7).Next(7, 64)
	if !bytes.Equal(x.Bytes(), []byte{0, 3, 133, 7, 64}) || !bytes.Equal(Table{}.Bytes(), []byte{0, 0}) {
		t.Error(x.Bytes())
	}
	r := octet.Read(append(x.Bytes(), 9))
	if got, ok := Take(r); !ok || !Same(got, x) || r.Left() != 1 {
		t.Error(got, ok, r.Left())
	}
	full := []byte{0, 64}
	for i := range 64 {
		full = append(full, byte(i+1))
	}
	if got, ok := Take(octet.Read(full)); !ok || got.Len() != 64 {
		t.Error(got, ok)
	}
	over := append(bytes.Clone(full), 1)
	over[1] = 65
	bad := [][]byte{nil, {0}, {0, 1}, {0, 2, 5}, {0, 1, 0}, {0, 1, 65}, {0, 1, 128}, {0, 1, 193}, {0, 2, 5, 5}, {0, 2, 5, 133}, {1, 0}, {255, 255, 1, 2}, over}
	for _, b := range bad {
		if got, ok := Take(octet.Read(b)); ok || !Same(got, Table{}) {
			t.Error(b, got, ok)
		}
	}
	if _, ok := Take(nil); ok {
		t.Error("nil")
	}
	spent := octet.Read(nil)
	spent.Byte()
	if _, ok := Take(spent); ok {
		t.Error("a bad reader")
	}
}

func TestSlotsKeepTheirOwners(t *testing.T) {
	rnd := rand.New(rand.NewSource(13))
	for range 50 {
		x := Table{}
		for range 20 {
			var l []int
			for range rnd.Intn(10) {
				l = append(l, rnd.Intn(70)-2)
			}
			next := x.Next(l...)
			for i := range x.Len() {
				if next.Owner(i) != x.Owner(i) {
					t.Fatal("a slot changed its owner")
				}
			}
			for _, n := range l {
				if _, e := next.Slot(n); (e == api.OK) != (n >= 1 && n <= 64) {
					t.Fatal(n, e)
				}
			}
			for _, n := range next.Members() {
				if !slices.Contains(l, n) {
					t.Fatal(n, "is present, but no member")
				}
			}
			if got, ok := Take(octet.Read(next.Bytes())); !ok || !Same(got, next) {
				t.Fatal("Take does not invert Bytes")
			}
			x = next
		}
	}
}
