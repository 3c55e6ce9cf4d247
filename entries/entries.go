// Package entries is what every walk does to the entries of tables in memory: it finds, reads, marks and tells them (see shared/doc/16-walk.md).
package entries

import (
	"mezzanine/api"
	"mezzanine/bits"
	"mezzanine/bus"
	"mezzanine/pte"
)

// How many bytes an entry has, and how many of its bits are flags.
const (
	size     = 8
	flagBits = 8
)

// Place is where the entry of an address stands in the table of that page, which is one of a level.
func Place(table uint64, level int, a uint64) uint64 {
	return At(table, pte.Index(a, level))
}

// At is where the entry of that number stands in a table that begins at that page.
func At(table, index uint64) uint64 { return table*api.PageSize + size*index }

// Read is the entry that stands at an address, if that is in memory. A device isn't even asked, since a read may change it.
func Read(b *bus.Bus, at uint64) (uint64, bool) {
	if !b.IsRam(at, size) {
		return 0, false
	}
	return b.Read(at, size)
}

// Mark sees to it that the leaf e, which stands at an address, is marked for an access, and is the entry as it stands then.
func Mark(b *bus.Bus, at, e uint64, w api.Want) uint64 {
	if pte.Full(e, w) {
		return e
	}
	e |= pte.A
	if w.Kind == api.Store {
		e |= pte.D
	}
	b.Write(at, size, e)
	return e
}

// Leaf is what the leaf e of a level tells of an address.
func Leaf(e uint64, level int, a uint64) api.Leaf {
	return api.Leaf{Pa: pte.Pa(e, level, a), Level: level, Flags: bits.Field(e, 0, flagBits)}
}
