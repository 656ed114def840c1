package cid_test

import (
	"bytes"
	"math"
	"math/rand"
	"testing"

	"counterfoil/api"
	. "counterfoil/cid"
	"counterfoil/cookie"
	"counterfoil/octet"
	"counterfoil/ring"
	"counterfoil/siphash"
)

var master = siphash.Of(3, 4)

func TestMake(t *testing.T) {
	p := cookie.Place{Version: 5, Slot: 1234}
	if MostOnce != 1099511627775 || Size != 12 {
		t.Error("constants")
	}
	for now := range uint64(3) {
		k := siphash.Derive(master, now)
		once := []byte{1, 2, 3, 4, 5}
		word := uint16(now%2)<<15 | p.Word() ^ uint16(siphash.Sum(k, append([]byte{3}, once...)))&0x7fff
		body := octet.Put(once, uint64(word), 2)
		sum := octet.Put(nil, siphash.Sum(k, append([]byte{4}, body...)), 8)
		want := append(body, sum[3:]...)
		id, e := Make(ring.New(master, now), p, 0x0102030405)
		if e != api.OK || !bytes.Equal(id, want) || len(id) != Size {
			t.Errorf("%x, not %x, %d", id, want, e)
		}
	}
	bad := []struct {
		p    cookie.Place
		once uint64
	}{{cookie.Place{Version: 8}, 0}, {cookie.Place{Slot: -1}, 0}, {p, MostOnce + 1}, {p, math.MaxUint64}}
	for _, c := range bad {
		if id, e := Make(ring.New(master, 0), c.p, c.once); len(id) != 0 || e != api.ErrArg {
			t.Error(c, id, e)
		}
	}
	if _, e := Make(ring.New(master, 0), p, MostOnce); e != api.OK {
		t.Error(e)
	}
}

func TestReadErrors(t *testing.T) {
	r := ring.New(master, 1)
	id, _ := Make(r, cookie.Place{Version: 1, Slot: 2}, 7)
	check := func(r ring.Ring, id []byte, want api.Errno) {
		t.Helper()
		if p, n, e := Read(r, id); p != (cookie.Place{}) || n != 0 || e != want {
			t.Error(p, n, e)
		}
	}
	check(r, nil, api.ErrShort)
	check(r, id[:11], api.ErrShort)
	check(r, append(bytes.Clone(id), 0), api.ErrShort)
	for i := range 8 * Size {
		forged := bytes.Clone(id)
		forged[i/8] ^= 1 << (i % 8)
		check(r, forged, api.ErrTag)
	}
	check(ring.New(master, 0), id, api.ErrTag)
	check(r.Next().Next(), id, api.ErrTag)
	check(ring.New(siphash.Key{}, 1), id, api.ErrTag)
}

func TestReadInvertsMake(t *testing.T) {
	rnd := rand.New(rand.NewSource(12))
	seen := map[string]bool{}
	for n := range 300 {
		r := ring.New(siphash.Of(rnd.Uint64(), rnd.Uint64()), []uint64{0, 1, rnd.Uint64() >> 1, math.MaxUint64 - 1}[rnd.Intn(4)])
		p := cookie.Place{Version: rnd.Intn(8), Slot: rnd.Intn(4096)}
		once := uint64(n)*3 + MostOnce - 3000
		id, e := Make(r, p, once)
		if e != api.OK || seen[string(id)] {
			t.Fatal(e)
		}
		seen[string(id)] = true
		for _, x := range []ring.Ring{r, r.Next()} {
			if got, num, e := Read(x, id); got != p || num != once || e != api.OK {
				t.Fatal(got, num, e)
			}
		}
	}
}

func TestLease(t *testing.T) {
	lefts := map[Lease]uint64{{3, 5}: 2, {5, 5}: 0, {6, 5}: 0, {}: 0, {0, math.MaxUint64}: math.MaxUint64, {math.MaxUint64, 0}: 0}
	for l, want := range lefts {
		if l.Left() != want {
			t.Error(l, l.Left())
		}
	}
	l := Lease{3, 5}
	cuts := []struct {
		n    uint64
		a, b Lease
		e    api.Errno
	}{
		{1, Lease{3, 4}, Lease{4, 5}, api.OK}, {0, Lease{3, 3}, Lease{3, 5}, api.OK}, {2, Lease{3, 5}, Lease{5, 5}, api.OK},
		{3, Lease{}, l, api.ErrNone}, {math.MaxUint64, Lease{}, l, api.ErrNone},
	}
	for _, c := range cuts {
		if a, b, e := l.Cut(c.n); a != c.a || b != c.b || e != c.e {
			t.Error(c.n, a, b, e)
		}
	}
	if a, b, e := (Lease{7, 5}).Cut(0); a != (Lease{7, 7}) || b != (Lease{7, 5}) || e != api.OK {
		t.Error(a, b, e)
	}
}

func TestTake(t *testing.T) {
	r, p := ring.New(master, 2), cookie.Place{Version: 1, Slot: 2}
	want, _ := Make(r, p, 3)
	id, l, e := (Lease{3, 5}).Take(r, p)
	if !bytes.Equal(id, want) || l != (Lease{4, 5}) || e != api.OK {
		t.Error(id, l, e)
	}
	_, l, _ = l.Take(r, p)
	if id, left, e := l.Take(r, p); len(id) != 0 || left != l || left != (Lease{5, 5}) || e != api.ErrNone {
		t.Error(id, left, e)
	}
	wrong := cookie.Place{Version: 9}
	if id, l, e := (Lease{3, 5}).Take(r, wrong); len(id) != 0 || l != (Lease{3, 5}) || e != api.ErrArg {
		t.Error(id, l, e)
	}
	if _, l, e := (Lease{5, 5}).Take(r, wrong); l != (Lease{5, 5}) || e != api.ErrNone {
		t.Error("an empty lease comes first:", l, e)
	}
	high := Lease{MostOnce + 1, MostOnce + 9}
	if id, l, e := high.Take(r, p); len(id) != 0 || l != high || e != api.ErrArg {
		t.Error(id, l, e)
	}
}
