package fleet

import (
	"counterfoil/api"
	"counterfoil/control"
	"counterfoil/follow"
	"counterfoil/mail"
)

// manage executes a step of the control plane.
func (x *Fleet) manage(s Step) api.Errno {
	switch s.Kind {
	case Issue:
		return x.control.Issue(s.Op)
	case Commit:
		return x.control.Commit()
	case Crash:
		return x.crash(s)
	case Offer:
		return x.offer(s.Who)
	case Deliver:
		return x.deliver(s.Who)
	case Drop:
		return x.mail.Drop(s.Who)
	case Twice:
		return x.mail.Twice(s.Who)
	case Restart:
		return x.restart(s.Who)
	case Report:
		return x.report(s)
	case Tick:
		x.now += s.N
		return api.OK
	}
	return api.ErrArg
}

// crash lets the disk crash, and opens the controller anew.
func (x *Fleet) crash(s Step) api.Errno {
	x.disk.Crash(s.Who, s.Flags)
	c, e := control.Open(x.disk, x.key, len(x.replicas)+len(x.shims))
	if e != api.OK {
		return e
	}
	x.control = c
	return api.OK
}

// offer sends a node what it needs.
func (x *Fleet) offer(n int) api.Errno {
	if x.node(n) == nil {
		return api.ErrArg
	}
	m, ok := follow.Offer(x.control, x.control.Told(n))
	if !ok {
		return api.ErrNone
	}
	return x.mail.Send(mail.Letter{Node: n, B: m.Bytes()})
}

// deliver delivers a letter; a node answers it with what it knows then.
func (x *Fleet) deliver(i int) api.Errno {
	letter, e := x.mail.Take(i)
	if e != api.OK {
		return e
	}
	m, e := follow.Parse(letter.B)
	if e != api.OK {
		return e
	}
	if letter.Back {
		return x.control.Ack(letter.Node, m.Num)
	}
	node := x.node(letter.Node)
	e = node.Receive(m)
	// If there is no space for the answer, it is lost like other letters.
	x.mail.Send(mail.Letter{Node: letter.Node, Back: true, B: node.Ack().Bytes()})
	return e
}

// restart lets a replica forget everything.
func (x *Fleet) restart(n int) api.Errno {
	r := x.Replica(n)
	if r == nil {
		return api.ErrArg
	}
	r.Restart()
	x.mail.Clear(n)
	return x.control.Ack(n, 0)
}

// report lets all replicas note the report of a shim.
func (x *Fleet) report(s Step) api.Errno {
	h := x.Shim(s.Who)
	if h == nil {
		return api.ErrArg
	}
	r := h.Report(s.N, s.Flags != 0)
	for n := range len(x.replicas) {
		x.replicas[n].Book.Note(r)
	}
	return api.OK
}
