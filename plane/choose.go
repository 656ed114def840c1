package plane

import (
	"counterfoil/addr"
	"counterfoil/api"
	"counterfoil/cid"
	"counterfoil/config"
	"counterfoil/cookie"
	"counterfoil/packet"
	"counterfoil/steer"
	"counterfoil/udp"
)

// arrival is a packet that arrived, without the bytes that followed it, and the draws that came with it.
type arrival struct {
	info   packet.Info
	packet []byte
	draws  [2]uint32
}

// target is where a packet goes: a backend of a service, and the packet as it goes on.
type target struct {
	vip     int
	backend int
	packet  []byte
}

// service is a service, its number, and the flow of a connection to it.
type service struct {
	config.Vip
	num  int
	flow api.Flow
}

// service returns the service to which a flow goes.
func (p *Replica) service(f api.Flow) (service, packet.Reason) {
	n := p.State().Find(f.Dst, f.DstPort, f.Proto)
	v, ok := p.State().Vip(n)
	if !ok {
		return service{}, packet.NoService
	}
	if v.Tables.Len() == 0 {
		return service{}, packet.NoTable
	}
	return service{v, n, f}, packet.Fine
}

// choose returns where a packet goes.
func (p *Replica) choose(a arrival) (target, packet.Reason) {
	f := a.info.Flow
	if f.Proto != api.TCP && f.Proto != api.UDP {
		return p.chooseQuoted(a)
	}
	v, why := p.service(f)
	if why != packet.Fine {
		return target{}, why
	}
	to := target{vip: v.num, packet: a.packet}
	switch {
	case f.Proto == api.UDP:
		to.backend, why = p.byID(v, a.info.UDP)
	case a.info.TCP.First() && stamped(a):
		return p.open(v, a)
	default:
		_, echo, ok := a.info.TCP.Stamp()
		to.backend, why = p.byStamp(v, echo, ok)
	}
	return to, why
}

// stamped reports whether a segment that arrived has timestamps.
func stamped(a arrival) bool {
	_, _, ok := a.info.TCP.Stamp()
	return ok
}

// open chooses a backend by the policy of the service, and puts its place into the segment.
func (p *Replica) open(v service, a arrival) (target, packet.Reason) {
	c, ok := p.choosers[v.num].Choose(v.Way, Cands(v.Vip, p.Book), a.draws[0], a.draws[1])
	if !ok {
		return target{}, packet.NoBackend
	}
	version, _, _ := v.Tables.Newest()
	mark, e := cookie.Hide(p.State().Ring, v.flow, cookie.Place{Version: version, Slot: c.Slot})
	if e != api.OK {
		return target{}, packet.Of(e)
	}
	b, e := packet.WithTCP(a.packet, a.info.TCP.WithEcho(uint32(mark)))
	return target{v.num, c.Backend, b}, packet.Of(e)
}

// byStamp finds the backend of a TCP connection: by the cookie of a timestamp, or, without one, by its flow.
func (p *Replica) byStamp(v service, stamp uint32, has bool) (int, packet.Reason) {
	if !has {
		return p.bySpread(v, addr.Key(v.flow))
	}
	_, mark := cookie.Part(stamp)
	place, e := cookie.Seek(p.State().Ring, v.flow, mark)
	if e != api.OK {
		return 0, packet.Of(e)
	}
	return at(v, place)
}

// at returns the backend at a place.
func at(v service, place cookie.Place) (int, packet.Reason) {
	n, e := v.Tables.Find(place.Version, place.Slot)
	return n, packet.Of(e)
}

// bySpread finds a backend by bytes alone.
func (p *Replica) bySpread(v service, b []byte) (int, packet.Reason) {
	n, ok := Spread(Cands(v.Vip, p.Book), b)
	if !ok {
		return 0, packet.NoBackend
	}
	return n, packet.Fine
}

// byID finds the backend of a QUIC connection by its ID.
func (p *Replica) byID(v service, d udp.Datagram) (int, packet.Reason) {
	q, e := udp.Show(d.Load, cid.Size)
	if e != api.OK {
		return 0, packet.Of(e)
	}
	place, _, e := cid.Read(p.State().Ring, q.Dst)
	if e == api.OK {
		return at(v, place)
	}
	if q.Long {
		// The client made the ID: its connection is just being opened.
		return p.bySpread(v, q.Dst)
	}
	return 0, packet.NoKey
}

// chooseQuoted returns where an ICMP error goes: to the backend that sent the packet it quotes.
func (p *Replica) chooseQuoted(a arrival) (target, packet.Reason) {
	if !a.info.ICMP.Error(a.info.Six) {
		return target{}, packet.Stranger
	}
	q, ok := steer.Read(a.info.ICMP.Load, a.info.Six)
	if !ok || q.Flow.Src != a.info.Flow.Dst {
		return target{}, packet.Stranger
	}
	v, why := p.service(addr.Back(q.Flow))
	if why != packet.Fine {
		return target{}, why
	}
	if q.Flow.Proto != api.TCP {
		return target{}, packet.Stranger
	}
	n, why := p.byStamp(v, q.Stamp, q.Has)
	return target{v.num, n, a.packet}, why
}
