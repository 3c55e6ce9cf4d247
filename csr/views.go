package csr

import "mezzanine/api"

// part is the bits of what is pending, or of Mie, that a view shows.
func part(h api.Hart, no int) uint64 {
	switch no {
	case api.CsrSip, api.CsrSie:
		return supers & h.Mideleg
	case api.CsrHip, api.CsrHie:
		return hosts
	case api.CsrVsip, api.CsrVsie:
		return guests & h.Hideleg
	}
	return 0
}

// readView is what a register without a field says.
func readView(h api.Hart, l api.Lines, no int) uint64 {
	switch no {
	case api.CsrSstatus:
		return h.Mstatus&mask(no) | set(no)
	case api.CsrMip:
		return Pending(h, l)
	case api.CsrSip, api.CsrHip:
		return Pending(h, l) & part(h, no)
	case api.CsrVsip:
		return Pending(h, l) & part(h, no) >> 1
	case api.CsrSie, api.CsrHie:
		return h.Mie & part(h, no)
	case api.CsrVsie:
		return h.Mie & part(h, no) >> 1
	case api.CsrHgeip:
		return l.Geip & guestsLine
	case api.CsrCycle:
		return h.Cycle
	case api.CsrInstret:
		return h.Instret
	case api.CsrTime:
		if h.V {
			return l.Time + h.Htimedelta
		}
		return l.Time
	case api.CsrMisa:
		return isa
	}
	return 0
}

// writeView is the hart behind writing v to a register without a field.
func writeView(h api.Hart, no int, v uint64) api.Hart {
	switch no {
	case api.CsrSstatus:
		h.Mstatus = merge(h.Mstatus, mask(no), v)
	case api.CsrMip:
		h.Mip = merge(h.Mip, mask(no), v)
		fallthrough
	case api.CsrHip:
		h.Hvip = merge(h.Hvip, 1<<api.Vssi, v)
	case api.CsrSip:
		h.Mip = merge(h.Mip, 1<<api.Ssi&h.Mideleg, v)
	case api.CsrVsip:
		h.Hvip = merge(h.Hvip, 1<<api.Vssi&h.Hideleg, v<<1)
	case api.CsrSie, api.CsrHie:
		h.Mie = merge(h.Mie, part(h, no), v)
	case api.CsrVsie:
		h.Mie = merge(h.Mie, part(h, no), v<<1)
	}
	return h
}
