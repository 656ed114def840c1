package cookie_test

import (
	"math"
	"math/rand"
	"testing"

	"counterfoil/addr"
	"counterfoil/api"
	. "counterfoil/cookie"
	"counterfoil/ring"
	"counterfoil/siphash"
)

var (
	master = siphash.Of(3, 4)
	flow4  = api.Flow{Src: addr.V4(1, 2, 3, 4), Dst: addr.V4(5, 6, 7, 8), SrcPort: 9, DstPort: 10, Proto: 6}
	flow6  = api.Flow{Src: addr.V6(1, 2), Dst: addr.V6(3, 4), SrcPort: 9, DstPort: 10, Proto: 6}
)

func TestPlaces(t *testing.T) {
	good := map[Place]uint16{{0, 0}: 0, {0, 4095}: 4095, {1, 0}: 4096, {7, 4095}: 32767, {3, 5}: 3*4096 + 5}
	for p, w := range good {
		if !p.Right() || p.Word() != w || Of(w) != p || Of(w|0x8000) != p {
			t.Error(p)
		}
	}
	for _, p := range []Place{{-1, 0}, {8, 0}, {0, -1}, {0, 4096}, {math.MaxInt, 0}, {0, math.MinInt}} {
		if p.Right() {
			t.Error(p)
		}
		if c, e := Hide(ring.New(master, 0), flow4, p); c != 0 || e != api.ErrArg {
			t.Error(p, c, e)
		}
	}
}

func TestHide(t *testing.T) {
	for _, f := range []api.Flow{flow4, flow6} {
		for now := range uint64(4) {
			r := ring.New(master, now)
			k := siphash.Derive(master, now)
			mask := uint16(siphash.Sum(k, append(addr.Key(f), 1))) & 0x7fff
			p := Place{Version: 5, Slot: 1234}
			c, e := Hide(r, f, p)
			if e != api.OK || c != uint16(now%2)<<15|(5*4096+1234)^mask {
				t.Errorf("%x %d", c, e)
			}
			if got, e := Seek(r, f, c); got != p || e != api.OK {
				t.Error(got, e)
			}
		}
	}
}

func TestSeekNeedsAKey(t *testing.T) {
	r := ring.New(master, 0)
	if p, e := Seek(r, flow4, 0x8000); p != (Place{}) || e != api.ErrTag {
		t.Error(p, e)
	}
	if _, e := Seek(r.Next(), flow4, 0x8000); e != api.OK {
		t.Error(e)
	}
}

func TestSeekFindsWhatHideEncoded(t *testing.T) {
	rnd := rand.New(rand.NewSource(10))
	for range 500 {
		r := ring.New(siphash.Of(rnd.Uint64(), rnd.Uint64()), []uint64{0, 1, rnd.Uint64() >> 1, math.MaxUint64 - 1}[rnd.Intn(4)])
		p := Place{Version: rnd.Intn(8), Slot: rnd.Intn(4096)}
		f := []api.Flow{flow4, flow6}[rnd.Intn(2)]
		f.SrcPort = uint16(rnd.Uint32())
		c, e := Hide(r, f, p)
		if e != api.OK {
			t.Fatal(e)
		}
		for _, x := range []ring.Ring{r, r.Next()} {
			if got, e := Seek(x, f, c); got != p || e != api.OK {
				t.Fatal(got, p, e)
			}
		}
	}
}

func TestBlendAndPart(t *testing.T) {
	if Blend(0x12345678, 0x9abc) != 0x56789abc || Blend(0, 0xffff) != 0xffff {
		t.Error("Blend")
	}
	if tick, c := Part(0x56789abc); tick != 0x5678 || c != 0x9abc {
		t.Error(tick, c)
	}
}

func TestRestore(t *testing.T) {
	cases := []struct {
		now  uint32
		tick uint16
		want uint32
	}{
		{0x20005, 3, 0x20003}, {0x20005, 9, 0x10009}, {0x20005, 5, 0x20005}, {0x20005, 6, 0x10006},
		{3, 5, 0xffff0005}, {0xffffffff, 0, 0xffff0000}, {0, 0, 0}, {0, 0xffff, 0xffffffff},
	}
	for _, c := range cases {
		if got := Restore(c.now, c.tick); got != c.want {
			t.Errorf("%x %x: %x", c.now, c.tick, got)
		}
	}
}

func TestAhead(t *testing.T) {
	cases := []struct {
		a, b uint32
		want bool
	}{
		{5, 5, true}, {5, 6, true}, {6, 5, false}, {0, 1<<31 - 1, true}, {0, 1 << 31, false}, {0xffffffff, 0, true}, {0, 0xffffffff, false}, {1 << 31, 0, false},
	}
	for _, c := range cases {
		if got := Ahead(c.a, c.b); got != c.want {
			t.Error(c, got)
		}
	}
}

func TestTicksSurviveCookies(t *testing.T) {
	rnd := rand.New(rand.NewSource(11))
	for range 1000 {
		tick, c := rnd.Uint32(), uint16(rnd.Uint32())
		part, got := Part(Blend(tick, c))
		if got != c || Restore(tick+uint32(rnd.Intn(65536)), part) != tick {
			t.Fatal(tick, c)
		}
		other := tick + uint32(rnd.Intn(65535)) - 32767
		if Ahead(tick, other) != Ahead(Blend(tick, c), Blend(other, c)) {
			t.Fatal(tick, other)
		}
	}
}
