package plane

import (
	"counterfoil/addr"
	"counterfoil/api"
	"counterfoil/icmp"
	"counterfoil/ip4"
	"counterfoil/ip6"
	"counterfoil/packet"
	"counterfoil/tunnel"
)

// way returns the tunnel to an address.
func (p *Replica) way(to api.Addr) tunnel.Way {
	if to.Six {
		return tunnel.Way{Src: p.set.Six, Dst: to, TTL: hops}
	}
	return tunnel.Way{Src: p.set.Four, Dst: to, TTL: hops}
}

// send sends a packet that arrived to its target.
func (p *Replica) send(a arrival, to target) Out {
	home, ok := p.State().Backend(to.backend)
	if !ok {
		return Out{Why: packet.NoBackend}
	}
	w := p.way(home)
	most := p.set.Most - w.Cost()
	if len(to.packet) > most {
		// Errors are never answered by errors.
		if a.info.Stay && !isPing(a.info) {
			return answer(a, most)
		}
		return Out{Why: packet.TooBig}
	}
	b, e := packet.Older(to.packet)
	if e != api.OK {
		return Out{Why: packet.Of(e)}
	}
	b, e = w.Wrap(b)
	if e != api.OK {
		return Out{Why: packet.Of(e)}
	}
	return Out{Kind: Forward, Vip: to.vip, Backend: to.backend, To: home, Packet: b}
}

// isPing reports whether a packet carries a message of ICMP.
func isPing(i packet.Info) bool { return i.Flow.Proto == api.ICMP || i.Flow.Proto == api.ICMPv6 }

// answer tells the sender of a packet how long it may be.
func answer(a arrival, most int) Out {
	f := addr.Back(a.info.Flow)
	load := icmp.TooBig(a.packet, uint16(most), a.info.Six).Summed(f.Src, f.Dst).Bytes()
	var b []byte
	var e api.Errno
	if a.info.Six {
		b, e = ip6.Packet(ip6.Header{Next: api.ICMPv6, Hops: hops, Src: f.Src, Dst: f.Dst}, load)
	} else {
		b, e = ip4.Packet(ip4.Header{Proto: api.ICMP, TTL: hops, Src: f.Src, Dst: f.Dst}, load)
	}
	if e != api.OK {
		return Out{Why: packet.Of(e)}
	}
	return Out{Kind: Answer, Why: packet.TooBig, To: f.Dst, Packet: b}
}
