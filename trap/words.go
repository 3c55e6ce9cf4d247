package trap

import "mezzanine/api"

// Bits of mstatus; the supervisor's are at the same places of a guest's vsstatus.
const (
	sie   = 1 << 1
	mie   = 1 << 3
	spie  = 1 << 5
	mpie  = 1 << 7
	spp   = 1 << 8
	mppAt = 11
	mpp   = 3 << mppAt
	mprv  = 1 << 17
	mgva  = 1 << 38
	mpv   = 1 << 39
)

// Bits of hstatus.
const (
	hgva = 1 << 6
	spv  = 1 << 7
	spvp = 1 << 8
)

// put makes one bit of a word say whether something is.
func put(word, bit uint64, is bool) uint64 {
	if is {
		return word | bit
	}
	return word &^ bit
}

// shut is a status by which no interrupts are taken, and that keeps at the bit was whether they were.
func shut(status, may, was uint64) uint64 {
	return put(status, was, status&may != 0) &^ may
}

// open is a status by which interrupts are taken, if they were before.
func open(status, may, was uint64) uint64 {
	return put(status, may, status&was != 0) | was
}

// cameFrom is the privilege that a supervisor's trap came from, as its status keeps it.
func cameFrom(status uint64) byte {
	if status&spp != 0 {
		return api.Super
	}
	return api.User
}

// interrupt says whether a cause is an interrupt's.
func interrupt(cause uint64) bool { return cause&api.Interrupt != 0 }

// number is the number of an exception or an interrupt.
func number(cause uint64) uint64 { return cause &^ api.Interrupt }

// guestCause is a cause as a guest is told it: it knows its own interrupts by the host's numbers.
func guestCause(cause uint64) uint64 {
	switch cause {
	case api.Interrupt | api.Vssi, api.Interrupt | api.Vsti, api.Interrupt | api.Vsei:
		return cause - 1
	}
	return cause
}

// place is where a vector register leads for a cause.
func place(vector, cause uint64) uint64 {
	at := vector &^ 3
	if interrupt(cause) && vector&1 == 1 {
		at += 4 * number(cause)
	}
	return at
}
