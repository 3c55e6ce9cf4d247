package pte

import "mezzanine/api"

// Allowed says whether flags allow an access.
func Allowed(flags uint64, w api.Want) bool {
	return mayCome(flags, w) && mayDo(flags, w)
}

// mayCome says whether one of that privilege may come to the page at all.
func mayCome(flags uint64, w api.Want) bool {
	users := flags&U != 0
	if w.Priv == api.User {
		return users
	}
	// No mark lets a supervisor run what is a user's.
	return !users || w.Sum && w.Kind != api.Fetch
}

// mayDo says whether what is wanted may be done to the page, whoever wants it.
func mayDo(flags uint64, w api.Want) bool {
	switch w.Kind {
	case api.Load:
		return mayLoad(flags, w)
	case api.Store:
		return flags&W != 0
	case api.Fetch:
		return flags&X != 0
	}
	return false
}

// mayLoad says whether a load may be done.
func mayLoad(flags uint64, w api.Want) bool {
	x := flags&X != 0
	if w.Exec {
		return x
	}
	return flags&R != 0 || x && (w.Mxr || w.V && w.Vmxr)
}

// Full says whether flags tell already that the page was come to, and written, if that is wanted.
func Full(flags uint64, w api.Want) bool {
	return flags&A != 0 && (w.Kind != api.Store || flags&D != 0)
}

// causes is what an access's faults are told by.
type causes struct {
	page, access, guest uint64
}

// causesOf is the causes of an access of that kind.
func causesOf(kind byte) causes {
	switch kind {
	case api.Fetch:
		return causes{api.FetchPage, api.FetchFault, api.FetchGuest}
	case api.Store:
		return causes{api.StorePage, api.StoreFault, api.StoreGuest}
	default:
		// What is none of the kinds is told as a load.
		fallthrough
	case api.Load:
		return causes{api.LoadPage, api.LoadFault, api.LoadGuest}
	}
}

// PageFault, AccessFault and GuestFault are an access's causes.
func PageFault(w api.Want) uint64   { return causesOf(w.Kind).page }
func AccessFault(w api.Want) uint64 { return causesOf(w.Kind).access }
func GuestFault(w api.Want) uint64  { return causesOf(w.Kind).guest }
