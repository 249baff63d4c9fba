package mem

import (
	"iter"

	"tapline/api"
)

// anyPerm is what an access needs that every page permits.
const anyPerm = 0

// page is the contents of a page.
type page [api.PageSize]byte

// pageAt returns the page of an address. It panics with the fault of an access to this address that needs a permission.
func pageAt(s api.Space, at int64, need int) page {
	if at < 0 || at >= int64(len(s.Bytes)) {
		panic(api.Fault{Kind: api.FtMap, At: at})
	}
	p := at / api.PageSize
	if s.Perm[p]&need != need {
		panic(api.Fault{Kind: kindOf(need), At: at})
	}
	first := p * api.PageSize
	return page(s.Bytes[first : first+api.PageSize])
}

// kindOf returns the kind of the fault where a permission is missing.
func kindOf(need int) int {
	switch need {
	case api.PmRead:
		return api.FtRead
	case api.PmWrite:
		return api.FtWrite
	}
	return api.FtExec
}

// visit yields the addresses and the bytes of an access that needs a permission. It panics with the fault of the access, having yielded what is ahead of it.
func visit(s api.Space, at int64, n, need int) iter.Seq2[int64, byte] {
	return func(yield func(int64, byte) bool) {
		var current page
		for i := range int64(n) {
			here := at + i
			if i == 0 || here%api.PageSize == 0 {
				current = pageAt(s, here, need)
			}
			if !yield(here, current[here%api.PageSize]) {
				return
			}
		}
	}
}

// faultOf returns the fault with which an access panics.
func faultOf(access func()) (fault api.Fault) {
	defer func() {
		if x := recover(); x != nil {
			fault = x.(api.Fault) // an access panics with nothing else
		}
	}()
	access()
	return api.Fault{}
}

// read returns the bytes of an access that are ahead of its fault, and this fault.
func read(s api.Space, at int64, n, need int) ([]byte, api.Fault) {
	var out []byte
	fault := faultOf(func() {
		for _, b := range visit(s, at, n, need) {
			out = append(out, b)
		}
	})
	return out, fault
}

// write returns the space in which the bytes of an access are replaced, or its fault.
func write(s api.Space, at int64, b []byte, need int) (api.Space, api.Fault) {
	out := clone(s)
	fault := faultOf(func() {
		for here := range visit(s, at, len(b), need) {
			out.Bytes[here] = b[here-at]
		}
	})
	if fault.Kind != api.FtNone {
		return api.Space{}, fault
	}
	return out, api.Fault{}
}
