package script_test

import (
	"math"
	"math/rand"
	"strings"
	"testing"

	"counterfoil/addr"
	"counterfoil/api"
	"counterfoil/config"
	"counterfoil/fleet"
	. "counterfoil/script"
)

// lines has a line of every kind, and the step that it describes.
func lines() map[string]fleet.Step {
	op := func(o config.Op) fleet.Step { return fleet.Step{Kind: fleet.Issue, Op: o} }
	return map[string]fleet.Step{
		"issue backend 3 10.0.2.3":            op(config.Op{Kind: config.AddBackend, Backend: 3, Addr: addr.V4(10, 0, 2, 3)}),
		"issue backend 255 0:0:0:0:0:0:0:a":   op(config.Op{Kind: config.AddBackend, Backend: 255, Addr: addr.V6(0, 10)}),
		"issue vip 9.9.9.9 443 udp draws":     op(config.Op{Kind: config.AddVip, Addr: addr.V4(9, 9, 9, 9), Port: 443, Proto: 17, Way: 4}),
		"issue vip 9.9.9.9 65535 tcp turns":   op(config.Op{Kind: config.AddVip, Addr: addr.V4(9, 9, 9, 9), Port: 65535, Proto: 6, Way: 1}),
		"issue members 2":                     op(config.Op{Kind: config.SetMembers, Vip: 2}),
		"issue members 0 1:5 255:255 0:0 1:5": op(config.Op{Kind: config.SetMembers, Members: []config.Member{{Backend: 1, Weight: 5}, {Backend: 255, Weight: 255}, {}, {Backend: 1, Weight: 5}}}),
		"issue retire 1 7":                    op(config.Op{Kind: config.Retire, Vip: 1, Version: 7}),
		"issue release 255 0":                 op(config.Op{Kind: config.Release, Vip: 255}),
		"issue evict 4":                       op(config.Op{Kind: config.Evict, Backend: 4}),
		"issue admit 4":                       op(config.Op{Kind: config.Admit, Backend: 4}),
		"issue rotate":                        op(config.Op{Kind: config.Rotate}),
		"commit":                              {Kind: fleet.Commit},
		"crash 7 255":                         {Kind: fleet.Crash, Who: 7, Flags: 255},
		"offer 3":                             {Kind: fleet.Offer, Who: 3},
		"offer 1073741824":                    {Kind: fleet.Offer, Who: 1 << 30},
		"deliver 0":                           {Kind: fleet.Deliver},
		"drop 1":                              {Kind: fleet.Drop, Who: 1},
		"twice 2":                             {Kind: fleet.Twice, Who: 2},
		"restart 3":                           {Kind: fleet.Restart, Who: 3},
		"report 1 1073741824 1":               {Kind: fleet.Report, Who: 1, N: 1 << 30, Flags: 1},
		"tick 5":                              {Kind: fleet.Tick, N: 5},
		"settle 99":                           {Kind: Settle, N: 99},
		"send 1 2 3 4 5 hello, world":         {Kind: fleet.Send, Who: 1, At: 2, Flags: 3, X: 4, Y: 5, Load: []byte("hello, world")},
		"send 0 0 2 0 0 ":                     {Kind: fleet.Send, Flags: 2},
		"quic 1 0   a  \xff\x00 ":             {Kind: fleet.Quic, Who: 1, Load: []byte("  a  \xff\x00 ")},
		"reply 1 2 18 x":                      {Kind: fleet.Reply, Who: 1, At: 2, Flags: 18, Load: []byte("x")},
		"give 2 1":                            {Kind: fleet.Give, Who: 2, At: 1},
		"move 2 7.7.7.7 70":                   {Kind: fleet.Move, Who: 2, Src: addr.V4(7, 7, 7, 7), Port: 70},
	}
}

func TestLines(t *testing.T) {
	for s, step := range lines() {
		if got, e := Parse(s); e != api.OK || !Same(got, step) {
			t.Errorf("%q: %+v %d", s, got, e)
		}
		if got := Write(step); got != s {
			t.Errorf("%q, not %q", got, s)
		}
	}
}

func TestConstants(t *testing.T) {
	if Most != 1073741824 || Settle != 15 {
		t.Error("constants")
	}
}

func TestParseRejects(t *testing.T) {
	bad := []string{
		"", " ", "commit ", " commit", "commit 1", "Commit", "commit\n", "\n", "unknown", "issue", "issue ", "issue rotate 1", "issue unknown 1", "offer", "offer ", "offer 03",
		"offer -1", "offer 1 2", "offer  1", "offer 1 ", "offer 1073741825", "offer x", "crash 1", "crash 1 256", "crash 1 2 3", "report 1 2 2", "report 1 2", "tick 1073741825",
		"settle 100", "settle", "send 0 0 2 0 0", "send 0 0 256 0 0 x", "send 0 0 2 0 x", "send 0 0 2 0 0 a\nb", "quic 0 0", "quic 0", "reply 0 0 1", "reply 0 0 256 x",
		"give 1", "give 1 2 3", "move 1 1.1.1.1", "move 1 1.1.1.01 5", "move 1 1.1.1.1 65536", "move 1 1.1.1.1 5 6",
		"issue backend 256 1.1.1.1", "issue backend 1", "issue backend 1 1.1.1", "issue backend 1 1.1.1.1 2", "issue vip 1.1.1.1 80 icmp turns", "issue vip 1.1.1.1 80 tcp turn",
		"issue vip 1.1.1.1 80 tcp", "issue vip 1.1.1.1 80 tcp ", "issue vip 1.1.1.1 65536 tcp turns", "issue members", "issue members 256", "issue members 0 1", "issue members 0 1:",
		"issue members 0 :1", "issue members 0 1:256", "issue members 0 256:1", "issue members 0 1:2:3", "issue members 0 ", "issue members 0 1:1  2:2", "issue members 0 1:1 ",
		"issue retire 1", "issue retire 1 2 3", "issue retire 1 256", "issue evict", "issue evict 256", "issue admit 1 2", "issue members 0" + strings.Repeat(" 1:1", 65),
	}
	for _, s := range bad {
		if got, e := Parse(s); e != api.ErrForm || !Same(got, fleet.Step{}) {
			t.Errorf("%q: %+v %d", s, got, e)
		}
	}
	if got, e := Parse("issue members 0" + strings.Repeat(" 1:1", 64)); e != api.OK || len(got.Op.Members) != 64 {
		t.Error(e)
	}
}

func TestWriteRejects(t *testing.T) {
	members := func(n int) config.Op {
		return config.Op{Kind: config.SetMembers, Members: make([]config.Member, n)}
	}
	issue := func(o config.Op) fleet.Step { return fleet.Step{Kind: fleet.Issue, Op: o} }
	bad := []fleet.Step{
		{Kind: -1}, {Kind: Settle + 1}, {Kind: fleet.Commit, Who: 1}, {Kind: fleet.Offer, Who: -1}, {Kind: fleet.Offer, Who: Most + 1}, {Kind: fleet.Offer, Who: math.MinInt},
		{Kind: fleet.Offer, Load: []byte("x")}, {Kind: fleet.Offer, Port: 1}, {Kind: fleet.Offer, X: 1}, {Kind: fleet.Offer, Y: 1}, {Kind: fleet.Offer, At: 1}, {Kind: fleet.Offer, N: 1},
		{Kind: fleet.Offer, Flags: 1}, {Kind: fleet.Offer, Src: addr.V4(0, 0, 0, 1)}, {Kind: fleet.Offer, Op: config.Op{Members: members(1).Members}}, {Kind: fleet.Offer, Op: config.Op{Vip: 1}},
		{Kind: fleet.Tick, N: math.MaxUint32}, {Kind: Settle, N: 100}, {Kind: fleet.Report, Flags: 2}, {Kind: fleet.Send, Load: []byte("a\nb")}, {Kind: fleet.Send, N: 1},
		{Kind: fleet.Send, X: Most + 1}, {Kind: fleet.Move, Src: api.Addr{High: 1}}, {Kind: fleet.Move, Who: 1, At: 1},
		issue(config.Op{}), issue(config.Op{Kind: 9}), issue(config.Op{Kind: config.Rotate, Backend: 1}), issue(config.Op{Kind: config.Evict, Backend: 256}),
		issue(config.Op{Kind: config.AddVip, Proto: 6}), issue(config.Op{Kind: config.AddVip, Proto: 1, Way: 1}), issue(config.Op{Kind: config.AddVip, Proto: 6, Way: 1, Version: 1}),
		issue(config.Op{Kind: config.AddBackend, Addr: api.Addr{Low: 1 << 32}}), issue(members(65)), issue(config.Op{Kind: config.SetMembers, Members: []config.Member{{Weight: 256}}}),
		issue(config.Op{Kind: config.SetMembers, Members: []config.Member{{Backend: -1}}}),
	}
	for i, s := range bad {
		if got := Write(s); got != "" {
			t.Errorf("%d: %q", i, got)
		}
	}
}

func TestFlow(t *testing.T) {
	want := api.Flow{Src: addr.V4(1, 2, 3, 4), Dst: addr.V4(9, 9, 9, 9), SrcPort: 1000, DstPort: 80, Proto: 6}
	if f, e := Flow("1.2.3.4 1000 9.9.9.9 80 tcp"); f != want || e != api.OK {
		t.Error(f, e)
	}
	if f, e := Flow("0:0:0:0:0:0:0:1 0 9.9.9.9 65535 udp"); f != (api.Flow{Src: addr.V6(0, 1), Dst: want.Dst, DstPort: 65535, Proto: 17}) || e != api.OK {
		t.Error(f, e)
	}
	for _, s := range []string{"", "1.2.3.4 1000 9.9.9.9 80", "1.2.3.4 1000 9.9.9.9 80 icmp", "1.2.3.4 1000 9.9.9.9 80 tcp ", "1.2.3.4 65536 9.9.9.9 80 tcp", "1.2.3 1000 9.9.9.9 80 tcp",
		"1.2.3.4 1000 9.9.9.9 080 tcp", "1.2.3.4 1000 9.9.9.9 80 tcp\n", " 1.2.3.4 1000 9.9.9.9 80 tcp"} {
		if f, e := Flow(s); f != (api.Flow{}) || e != api.ErrForm {
			t.Errorf("%q: %v %d", s, f, e)
		}
	}
}

func TestSame(t *testing.T) {
	base := fleet.Step{Kind: 1, Op: config.Op{Kind: 1, Members: []config.Member{{Backend: 1, Weight: 2}}}, Load: []byte("x")}
	changes := []func(s *fleet.Step){
		func(s *fleet.Step) { s.Kind++ }, func(s *fleet.Step) { s.Who++ }, func(s *fleet.Step) { s.At++ }, func(s *fleet.Step) { s.Flags++ },
		func(s *fleet.Step) { s.Load = []byte("y") }, func(s *fleet.Step) { s.N++ }, func(s *fleet.Step) { s.X++ }, func(s *fleet.Step) { s.Y++ },
		func(s *fleet.Step) { s.Src.Low++ }, func(s *fleet.Step) { s.Port++ }, func(s *fleet.Step) { s.Op.Kind++ }, func(s *fleet.Step) { s.Op.Vip++ },
		func(s *fleet.Step) { s.Op.Backend++ }, func(s *fleet.Step) { s.Op.Version++ }, func(s *fleet.Step) { s.Op.Addr.Six = true }, func(s *fleet.Step) { s.Op.Port++ },
		func(s *fleet.Step) { s.Op.Proto++ }, func(s *fleet.Step) { s.Op.Way++ }, func(s *fleet.Step) { s.Op.Members = []config.Member{{Backend: 1, Weight: 3}} }, func(s *fleet.Step) { s.Op.Members = nil },
	}
	for i, change := range changes {
		x := base
		change(&x)
		if Same(base, x) || !Same(x, x) {
			t.Error(i)
		}
	}
	if !Same(fleet.Step{Load: []byte{}}, fleet.Step{}) || !Same(fleet.Step{Op: config.Op{Members: []config.Member{}}}, fleet.Step{}) {
		t.Error("nil and empty")
	}
}

func TestParseInvertsWrite(t *testing.T) {
	rnd := rand.New(rand.NewSource(33))
	alphabet := strings.Split("issue|backend|vip|members|retire|release|evict|admit|rotate|commit|crash|offer|report|tick|settle|send|quic|reply|give|move|1.2.3.4|1:2|:|tcp|udp|turns|0|1|7|99|255|256||x", "|")
	for range 20000 {
		var l []string
		for range 1 + rnd.Intn(7) {
			l = append(l, alphabet[rnd.Intn(len(alphabet))])
		}
		s := strings.Join(l, " ")
		if step, e := Parse(s); e == api.OK && Write(step) != s {
			t.Fatalf("%q: %q", s, Write(step))
		}
	}
	for range 5000 {
		s := fleet.Step{Kind: rnd.Intn(17), Who: rnd.Intn(2), At: rnd.Intn(2), Flags: uint8(rnd.Intn(3)), N: uint32(rnd.Intn(2)), Load: make([]byte, rnd.Intn(3))}
		s.Op = config.Op{Kind: rnd.Intn(9), Vip: rnd.Intn(2), Backend: rnd.Intn(2), Proto: 6, Way: rnd.Intn(3)}
		if rnd.Intn(2) == 0 {
			s.Op = config.Op{}
		}
		if text := Write(s); text != "" {
			if got, e := Parse(text); e != api.OK || !Same(got, s) {
				t.Fatalf("%q: %+v", text, s)
			}
		}
	}
}
