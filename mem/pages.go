package mem

import (
	"slices"

	"tapline/api"
)

// data reports whether a data page can have these permissions.
func data(perm int) bool {
	switch perm {
	case 0, api.PmRead, api.PmRead + api.PmWrite:
		return true
	}
	return false
}

// has reports whether a space has a page of this number.
func has(s api.Space, page int) bool {
	return page >= 0 && page < len(s.Perm)
}

func clone(s api.Space) api.Space {
	return api.Space{Perm: slices.Clone(s.Perm), Bytes: slices.Clone(s.Bytes)}
}

// permitting returns the space in which one of its pages has the permissions perm.
func permitting(s api.Space, page, perm int) api.Space {
	out := clone(s)
	out.Perm[page] = perm
	return out
}
