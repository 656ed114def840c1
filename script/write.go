package script

import (
	"strings"

	"counterfoil/addr"
	"counterfoil/api"
	"counterfoil/config"
	"counterfoil/fleet"
	"counterfoil/policy"
)

// line joins a word and numbers.
func line(word string, numbers ...int) string {
	l := []string{word}
	for _, n := range numbers {
		l = append(l, addr.Decimal(n))
	}
	return strings.Join(l, " ")
}

// join joins words.
func join(l ...string) string { return strings.Join(l, " ") }

// proto returns the word for a protocol, or nothing.
func proto(n uint8) string {
	switch n {
	case api.TCP:
		return "tcp"
	case api.UDP:
		return "udp"
	}
	return ""
}

// draftOp returns the words that would describe an operation, if any words do.
func draftOp(o config.Op) string {
	switch o.Kind {
	case config.AddBackend:
		return join(line("backend", o.Backend), addr.Text(o.Addr))
	case config.AddVip:
		return join("vip", addr.Text(o.Addr), addr.Decimal(int(o.Port)), proto(o.Proto), policy.Name(o.Way))
	case config.SetMembers:
		l := []string{line("members", o.Vip)}
		for _, m := range o.Members {
			l = append(l, addr.Decimal(m.Backend)+":"+addr.Decimal(m.Weight))
		}
		return join(l...)
	case config.Retire:
		return line("retire", o.Vip, o.Version)
	case config.Release:
		return line("release", o.Vip, o.Version)
	case config.Evict:
		return line("evict", o.Backend)
	case config.Admit:
		return line("admit", o.Backend)
	case config.Rotate:
		return "rotate"
	}
	return ""
}

// draft returns the line that would describe a step, if any line does.
func draft(s fleet.Step) string {
	text, flags := string(s.Load), int(s.Flags)
	switch s.Kind {
	case fleet.Issue:
		return join("issue", draftOp(s.Op))
	case fleet.Commit:
		return "commit"
	case fleet.Crash:
		return line("crash", s.Who, flags)
	case fleet.Offer:
		return line("offer", s.Who)
	case fleet.Deliver:
		return line("deliver", s.Who)
	case fleet.Drop:
		return line("drop", s.Who)
	case fleet.Twice:
		return line("twice", s.Who)
	case fleet.Restart:
		return line("restart", s.Who)
	case fleet.Report:
		return line("report", s.Who, int(s.N), flags)
	case fleet.Tick:
		return line("tick", int(s.N))
	case Settle:
		return line("settle", int(s.N))
	case fleet.Send:
		return join(line("send", s.Who, s.At, flags, int(s.X), int(s.Y)), text)
	case fleet.Quic:
		return join(line("quic", s.Who, s.At), text)
	case fleet.Reply:
		return join(line("reply", s.Who, s.At, flags), text)
	case fleet.Give:
		return line("give", s.Who, s.At)
	case fleet.Move:
		return join(line("move", s.Who), addr.Text(s.Src), addr.Decimal(int(s.Port)))
	}
	return ""
}

// Write returns the line that describes a step, or nothing.
func Write(s fleet.Step) string {
	text := draft(s)
	// What the draft left out, or could not say, shows when it is parsed.
	if back, e := Parse(text); e != api.OK || !Same(back, s) {
		return ""
	}
	return text
}
