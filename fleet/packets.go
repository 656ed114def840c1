package fleet

import (
	"counterfoil/addr"
	"counterfoil/api"
	"counterfoil/octet"
	"counterfoil/plane"
	"counterfoil/tcp"
)

// send lets a client send a packet to a replica, and the backend's shim receive it.
func (x *Fleet) send(s Step) Event {
	c, r := x.Client(s.Who), x.Replica(s.At)
	if c == nil || r == nil {
		return Event{Errno: api.ErrArg}
	}
	var b []byte
	var e api.Errno
	if s.Kind == Quic {
		b, e = c.SendQuic(s.Load)
	} else {
		b, e = c.Send(s.Flags, s.Load)
	}
	if e != api.OK {
		return Event{Errno: e}
	}
	out := r.Process(b, [2]uint32{s.X, s.Y})
	event := Event{Kind: out.Kind, Why: out.Why, Backend: out.Backend}
	h := x.Shim(out.Backend - 1)
	if out.Kind == plane.Forward && h != nil {
		d, why := h.Arrive(out.Packet, x.now)
		event.Why, event.Load = why, d.Load
	}
	return event
}

// reply lets a backend send a segment to a client.
func (x *Fleet) reply(s Step) Event {
	c, h := x.Client(s.Who), x.Shim(s.At)
	if c == nil || h == nil {
		return Event{Errno: api.ErrArg}
	}
	options := octet.Put([]byte{1, 1, tcp.Kind, tcp.Long}, uint64(x.now), 4)
	b, e := h.Leave(c.Flow(), tcp.Segment{Flags: s.Flags, Load: s.Load, Options: octet.Put(options, 0, 4)})
	if e != api.OK {
		return Event{Errno: e}
	}
	c.Take(b)
	return Event{Backend: h.Backend(), Load: b}
}

// give lets a backend send a connection ID to a client.
func (x *Fleet) give(s Step) Event {
	c, h := x.Client(s.Who), x.Shim(s.At)
	if c == nil || h == nil {
		return Event{Errno: api.ErrArg}
	}
	f := c.Flow()
	// A copy uses up a number of the lease, so that with an error the shim has it still.
	trial := *h
	id, e := trial.Issue(h.State().Find(f.Dst, f.DstPort, f.Proto))
	if e != api.OK {
		return Event{Errno: e}
	}
	b, e := trial.LeaveUDP(f, id)
	if e != api.OK {
		return Event{Errno: e}
	}
	*h = trial
	c.Take(b)
	return Event{Backend: h.Backend(), Load: id}
}

// move lets a client send from another address.
func (x *Fleet) move(s Step) api.Errno {
	c := x.Client(s.Who)
	if c == nil || !addr.Right(s.Src) {
		return api.ErrArg
	}
	c.Moves(s.Src, s.Port)
	return api.OK
}
