package lpm_test

import (
	"math"
	"math/rand"
	"testing"

	"counterfoil/addr"
	"counterfoil/api"
	. "counterfoil/lpm"
)

func prefix(t *testing.T, s string, n int) Prefix {
	t.Helper()
	a, e := addr.Parse(s)
	if e != api.OK {
		t.Fatal(s)
	}
	return Prefix{a, n}
}

func TestCut(t *testing.T) {
	four, six := addr.V4(255, 255, 255, 255), addr.V6(math.MaxUint64, math.MaxUint64)
	if Bits(four) != 32 || Bits(six) != 128 {
		t.Error("Bits")
	}
	fours := map[int]api.Addr{0: {}, -1: {}, math.MinInt: {}, 1: addr.V4(128, 0, 0, 0), 8: addr.V4(255, 0, 0, 0), 31: addr.V4(255, 255, 255, 254), 32: four, 33: four, math.MaxInt: four}
	for n, want := range fours {
		if got := Cut(four, n); got != want {
			t.Error(n, got)
		}
	}
	sixes := map[int]api.Addr{0: addr.V6(0, 0), -1: addr.V6(0, 0), math.MinInt: addr.V6(0, 0), 1: addr.V6(1<<63, 0), 63: addr.V6(math.MaxUint64-1, 0), 64: addr.V6(math.MaxUint64, 0),
		65: addr.V6(math.MaxUint64, 1<<63), 127: addr.V6(math.MaxUint64, math.MaxUint64-1), 128: six, 129: six, math.MaxInt: six}
	for n, want := range sixes {
		if got := Cut(six, n); got != want {
			t.Error(n, got)
		}
	}
}

func TestRight(t *testing.T) {
	good := []Prefix{{}, {addr.V4(10, 0, 0, 0), 8}, {addr.V4(10, 0, 0, 0), 7}, {addr.V4(1, 2, 3, 4), 32}, {addr.V6(0, 0), 0}, {addr.V6(1, 2), 128}, {addr.V6(1, 0), 64}}
	for _, p := range good {
		if !p.Right() {
			t.Error(p)
		}
	}
	bad := []Prefix{{addr.V4(10, 0, 0, 0), 6}, {addr.V4(10, 0, 0, 1), 31}, {addr.V4(10, 0, 0, 0), 33}, {addr.V4(0, 0, 0, 0), -1}, {addr.V6(0, 0), 129}, {addr.V6(1, 2), 126},
		{api.Addr{High: 1}, 0}, {api.Addr{Low: 1 << 32}, 0}, {api.Addr{Low: 1 << 40}, 32}}
	var table Table
	for _, p := range bad {
		if p.Right() || table.Set(p, 1) != api.ErrArg || table.Drop(p) != api.ErrNone || table.Len() != 0 {
			t.Error(p)
		}
		if v, ok := table.Get(p); v != 0 || ok {
			t.Error(p)
		}
	}
}

func TestTable(t *testing.T) {
	var table Table
	wide, narrow := prefix(t, "10.0.0.0", 8), prefix(t, "10.1.0.0", 16)
	if table.Set(wide, 1) != api.OK || table.Set(narrow, 2) != api.OK || table.Set(wide, 3) != api.OK || table.Len() != 2 {
		t.Error("Set")
	}
	find := func(s string, want Prefix, val int, ok bool) {
		t.Helper()
		a, _ := addr.Parse(s)
		if p, v, found := table.Find(a); p != want || v != val || found != ok {
			t.Error(p, v, found)
		}
	}
	find("10.1.2.3", narrow, 2, true)
	find("10.2.2.3", wide, 3, true)
	find("11.1.2.3", Prefix{}, 0, false)
	find("0:0:0:0:0:0:a01:203", Prefix{}, 0, false)
	all4, all6, host := prefix(t, "0.0.0.0", 0), prefix(t, "0:0:0:0:0:0:0:0", 0), prefix(t, "1:2:3:4:5:6:7:8", 128)
	table.Set(all4, 4)
	table.Set(all6, 5)
	table.Set(host, 6)
	find("11.1.2.3", all4, 4, true)
	find("1:2:3:4:5:6:7:8", host, 6, true)
	find("1:2:3:4:5:6:7:9", all6, 5, true)
	if v, ok := table.Get(wide); v != 3 || !ok {
		t.Error(v, ok)
	}
	for _, p := range []Prefix{prefix(t, "10.0.0.0", 9), prefix(t, "10.0.0.0", 7), prefix(t, "1:2:0:0:0:0:0:0", 32)} {
		if v, ok := table.Get(p); v != 0 || ok || table.Drop(p) != api.ErrNone {
			t.Error(p, v, ok)
		}
	}
	// Prefixes that are not valid are in no table, though their first bits may be.
	for _, p := range []Prefix{{addr.V4(10, 0, 0, 1), 8}, {addr.V4(1, 1, 1, 1), 0}, {addr.V6(1, 1), 0}} {
		if v, ok := table.Get(p); v != 0 || ok || table.Drop(p) != api.ErrNone {
			t.Error(p, v, ok)
		}
	}
	if table.Drop(wide) != api.OK || table.Drop(wide) != api.ErrNone || table.Len() != 4 {
		t.Error("Drop")
	}
	find("10.1.2.3", narrow, 2, true)
	find("10.2.2.3", all4, 4, true)
	for _, p := range []Prefix{narrow, all4, all6, host} {
		if table.Drop(p) != api.OK {
			t.Error(p)
		}
	}
	find("10.1.2.3", Prefix{}, 0, false)
	find("1:2:3:4:5:6:7:8", Prefix{}, 0, false)
	if table.Len() != 0 {
		t.Error("something is left")
	}
	if p, v, ok := table.Find(api.Addr{High: 1}); p != (Prefix{}) || v != 0 || ok {
		t.Error(p, v, ok)
	}
	table.Set(all4, 4)
	if p, v, ok := table.Find(api.Addr{High: 1}); p != (Prefix{}) || v != 0 || ok {
		t.Error("an address that is not valid matches nothing:", p, v, ok)
	}
}

func TestNil(t *testing.T) {
	var table *Table
	if table.Set(Prefix{}, 1) != api.ErrNil || table.Drop(Prefix{}) != api.ErrNil || table.Len() != 0 {
		t.Error("nil")
	}
	if _, ok := table.Get(Prefix{}); ok {
		t.Error("Get")
	}
	if _, _, ok := table.Find(api.Addr{}); ok {
		t.Error("Find")
	}
}

func TestAgainstAMap(t *testing.T) {
	rnd := rand.New(rand.NewSource(36))
	for range 20 {
		var table Table
		want := map[Prefix]int{}
		some := func() Prefix {
			a := api.Addr{Low: uint64(rnd.Uint32()) & 0xc0c00003}
			if rnd.Intn(2) == 0 {
				a = addr.V6(rnd.Uint64()&0xc000000000000001, rnd.Uint64()&0xc000000000000001)
			}
			n := rnd.Intn(Bits(a) + 1)
			return Prefix{Cut(a, n), n}
		}
		for range 400 {
			p := some()
			_, known := want[p]
			switch rnd.Intn(3) {
			case 0, 1:
				v := rnd.Intn(100)
				if table.Set(p, v) != api.OK {
					t.Fatal("Set")
				}
				want[p] = v
			case 2:
				if (table.Drop(p) == api.OK) != known {
					t.Fatal("Drop")
				}
				delete(want, p)
			}
			a := some().Addr
			var best Prefix
			found := false
			for q, v := range want {
				if got, ok := table.Get(q); got != v || !ok {
					t.Fatal("Get")
				}
				if q.Addr.Six == a.Six && Cut(a, q.Len) == q.Addr && (!found || q.Len > best.Len) {
					best, found = q, true
				}
			}
			if got, v, ok := table.Find(a); got != best || v != want[best] && found || ok != found || table.Len() != len(want) {
				t.Fatal(got, best, v, ok)
			}
		}
	}
}
