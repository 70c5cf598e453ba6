// Package fresh makes records that share no memory with those that they are made of, since what a call tells shares none with what it was given. Lists that are empty are nil, as an empty list is none.
package fresh

import (
	"slices"

	"ferry/api"
)

// Host is a host's memory of its own.
func Host(h api.Host) api.Host {
	return api.Host{Maps: slices.Concat(h.Maps), Cells: slices.Concat(h.Cells)}
}

// Guest is a guest's memory of its own.
func Guest(g api.Guest) api.Guest {
	return api.Guest{Host: Host(g.Host), Base: g.Base, Pages: slices.Concat(g.Pages)}
}

// Space is a space with a memory of its own.
func Space(s api.Space) api.Space {
	return api.Space{Guest: Guest(s.Guest), Start: s.Start, End: s.End}
}
