package desk_test

import (
	"fmt"
	"strings"
	"testing"

	"counterfoil/addr"
	"counterfoil/api"
	. "counterfoil/desk"
	"counterfoil/fleet"
	"counterfoil/siphash"
)

// same reports whether two values print alike, as nil slices and empty ones do.
func same(a, b any) bool { return fmt.Sprintf("%+v", a) == fmt.Sprintf("%+v", b) }

func standard() fleet.Setting {
	return fleet.Setting{Key: siphash.Of(0, 1), Replicas: 1, Backends: 1, Most: 1500, Conns: 16, Disk: 65536, Mail: 64}
}

func TestParseLines(t *testing.T) {
	cases := map[string][]string{
		"": nil, "\n": {""}, "a": {"a"}, "a\n": {"a"}, "a\nb": {"a", "b"}, "a\n\n": {"a", ""}, "\na": {"", "a"}, "#\n# key 2": {"#", "# key 2"},
		"#key 2": {"#key 2"}, "commit\n# key 2\n# bad": {"commit", "# key 2", "# bad"}, " # key 2": {" # key 2"},
	}
	for text, lines := range cases {
		s, n := Parse(text)
		if n != 0 || len(s.Lines) != len(lines) || len(lines) > 0 && !same(s.Lines, lines) || !same(s.Set, standard()) {
			t.Errorf("%q: %q %d", text, s.Lines, n)
		}
	}
}

func TestParseSettings(t *testing.T) {
	text := "# key 7\n# replicas 2\n# backends 3\n# most 9000\n# conns 5\n# disk 1073741824\n# mail 0\n# flow 1.2.3.4 5 6.7.8.9 10 tcp\n# flow 0:0:0:0:0:0:0:1 5 0:0:0:0:0:0:0:2 10 udp\n# key 8\noffer 0\n"
	want := fleet.Setting{Key: siphash.Of(0, 8), Replicas: 2, Backends: 3, Most: 9000, Conns: 5, Disk: 1 << 30, Mail: 0, Flows: []api.Flow{
		{Src: addr.V4(1, 2, 3, 4), Dst: addr.V4(6, 7, 8, 9), SrcPort: 5, DstPort: 10, Proto: 6}, {Src: addr.V6(0, 1), Dst: addr.V6(0, 2), SrcPort: 5, DstPort: 10, Proto: 17}}}
	s, n := Parse(text)
	if n != 0 || !same(s.Set, want) || !same(s.Lines, []string{"offer 0"}) {
		t.Errorf("%+v %d", s, n)
	}
	if s, n := Parse("# key 0"); n != 0 || s.Set.Key != (siphash.Key{}) || len(s.Lines) != 0 {
		t.Error(s, n)
	}
	bad := map[string]int{
		"# ": 1, "# key": 1, "# key ": 1, "# key 01": 1, "# key 1073741825": 1, "# key 1 ": 1, "#  key 1": 1, "# Key 1": 1, "# nothing 1": 1, "# flow": 1, "# flow 1.2.3.4 5 6.7.8.9 10 tcp ": 1,
		"# key 1\n# mail -1\n# bad": 2, "# key 1\n# flow 1.2.3.4 5 6.7.8.9 10 icmp": 2, "# key 1\n# key 2\n# flows 1": 3,
	}
	for text, line := range bad {
		if s, n := Parse(text); n != line || !same(s, Script{}) {
			t.Errorf("%q: %+v %d", text, s, n)
		}
	}
}

func TestRunFailures(t *testing.T) {
	cases := map[string]string{
		"": "", "offer 0": "offer 0\n\terror 6\n", "# key 1\n# key\noffer 0": "line 2\n", "# replicas 0\noffer 0": "error 1\n", "# replicas 16": "error 1\n",
		"# flow 1.2.3.4 5 0:0:0:0:0:0:0:2 10 tcp": "error 1\n", "\n\n": "\n\terror 21\n\n\terror 21\n", "nonsense\ncommit": "nonsense\n\terror 21\ncommit\n\tok\n",
		"commit\n# key 1\n": "commit\n\tok\n# key 1\n\terror 21\n",
	}
	for text, want := range cases {
		if got := Run(text); got != want {
			t.Errorf("%q: %q", text, got)
		}
	}
}

func TestRun(t *testing.T) {
	settings := []string{"# backends 2", "# flow 1.2.3.4 1000 9.9.9.9 80 tcp", "# flow 1.2.3.4 1001 9.9.9.9 443 udp"}
	steps := [][2]string{
		{"send 0 0 2 0 0 hi", "drop notable"},
		{"issue backend 1 10.0.2.1", "ok"},
		{"issue backend 2 10.0.2.2", "ok"},
		{"issue vip 9.9.9.9 80 tcp turns", "ok"},
		{"issue vip 9.9.9.9 80 tcp turns", "error 7"},
		{"issue vip 9.9.9.9 443 udp turns", "ok"},
		{"issue members 0 1:1 2:1", "ok"},
		{"issue members 1 2:1", "ok"},
		{"commit", "ok"},
		{"settle 3", "ok"},
		{"tick 5", "ok"},
		{"send 0 0 2 0 0 hi", "to 1 fine 34"},
		{"reply 0 1 18 ", "error 6"},
		{"reply 0 0 18 yes", "from 1 55"},
		{"send 0 0 16 0 0 ", "to 1 fine 32"},
		{"send 0 0 16 0 0 " + strings.Repeat("x", 1500), "answer toobig"},
		{"quic 1 0 hi", "to 2 fine 25"},
		{"give 1 0", "error 6"},
		{"give 1 1", "from 2 12"},
		{"move 1 7.7.7.7 7", "ok"},
		{"quic 1 0 ", "to 2 fine 21"},
		{"quic 0 0 ", "error 1"},
		{"report 1 5 0", "ok"},
		{"issue evict 1", "ok"},
		{"commit", "ok"},
		{"offer 0", "ok"},
		{"deliver 0", "ok"},
		{"send 0 0 16 0 0 ", "drop evicted"},
		{"restart 0", "ok"},
		{"quic 1 0 ", "drop notable"},
		{"crash 0 0", "ok"},
		{"drop 0", "error 6"},
		{"twice 0", "error 6"},
		{"settle 100", "error 21"},
	}
	lines, want := settings, ""
	for _, s := range steps {
		lines = append(lines, s[0])
		want += s[0] + "\n\t" + s[1] + "\n"
	}
	if got := Run(strings.Join(lines, "\n")); got != want {
		t.Errorf("%s", got)
	}
	if Run(strings.Join(lines, "\n")) != Run(strings.Join(lines, "\n")+"\n") {
		t.Error("the last line may lack its line feed")
	}
}

func TestDoNil(t *testing.T) {
	if got := Do(nil, "commit"); got != "error 3" {
		t.Error(got)
	}
	if got := Do(nil, "settle 1"); got != "ok" {
		t.Error(got)
	}
	if got := Do(nil, "nonsense"); got != "error 21" {
		t.Error(got)
	}
}

func TestForwardedWithoutShim(t *testing.T) {
	text := "# flow 1.2.3.4 1000 9.9.9.9 80 tcp\nissue backend 5 10.0.2.5\nissue vip 9.9.9.9 80 tcp loads\nissue members 0 5:1\ncommit\nsettle 1\nsend 0 0 2 0 0 x\n"
	if got := Run(text); !strings.HasSuffix(got, "\tto 5 fine 0\n") {
		t.Error(got)
	}
}
