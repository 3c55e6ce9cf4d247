package csr

import "mezzanine/api"

// register is a register's number, and its field.
type register struct {
	no int
	at *uint64
}

// fields is all registers that have a field of their own, with the fields of that hart.
func fields(h *api.Hart) [38]register {
	return [38]register{
		{api.CsrMstatus, &h.Mstatus},
		{api.CsrMedeleg, &h.Medeleg},
		{api.CsrMideleg, &h.Mideleg},
		{api.CsrMie, &h.Mie},
		{api.CsrMtvec, &h.Mtvec},
		{api.CsrMcounteren, &h.Mcounteren},
		{api.CsrMscratch, &h.Mscratch},
		{api.CsrMepc, &h.Mepc},
		{api.CsrMcause, &h.Mcause},
		{api.CsrMtval, &h.Mtval},
		{api.CsrMtval2, &h.Mtval2},
		{api.CsrMtinst, &h.Mtinst},
		{api.CsrMcycle, &h.Cycle},
		{api.CsrMinstret, &h.Instret},
		{api.CsrStvec, &h.Stvec},
		{api.CsrScounteren, &h.Scounteren},
		{api.CsrSscratch, &h.Sscratch},
		{api.CsrSepc, &h.Sepc},
		{api.CsrScause, &h.Scause},
		{api.CsrStval, &h.Stval},
		{api.CsrSatp, &h.Satp},
		{api.CsrHstatus, &h.Hstatus},
		{api.CsrHedeleg, &h.Hedeleg},
		{api.CsrHideleg, &h.Hideleg},
		{api.CsrHvip, &h.Hvip},
		{api.CsrHcounteren, &h.Hcounteren},
		{api.CsrHgeie, &h.Hgeie},
		{api.CsrHtval, &h.Htval},
		{api.CsrHtinst, &h.Htinst},
		{api.CsrHgatp, &h.Hgatp},
		{api.CsrHtimedelta, &h.Htimedelta},
		{api.CsrVsstatus, &h.Vsstatus},
		{api.CsrVstvec, &h.Vstvec},
		{api.CsrVsscratch, &h.Vsscratch},
		{api.CsrVsepc, &h.Vsepc},
		{api.CsrVscause, &h.Vscause},
		{api.CsrVstval, &h.Vstval},
		{api.CsrVsatp, &h.Vsatp},
	}
}

// field is where the hart keeps what a register says, or nil, if it keeps it in none of its own.
func field(h *api.Hart, no int) *uint64 {
	for _, r := range fields(h) {
		if r.no == no {
			return r.at
		}
	}
	return nil
}

// put puts v into a register's field, but for what the register does not take.
func put(at *uint64, no int, v uint64) {
	m := mask(no)
	switch no {
	case api.CsrMstatus:
		if noMode(v) {
			m &^= mpp
		}
	case api.CsrSatp, api.CsrVsatp, api.CsrHgatp:
		if noTable(v) {
			return
		}
	}
	*at = merge(*at, m, v)
}
