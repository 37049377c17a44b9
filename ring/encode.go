package ring

import (
	"bytes"

	"granary/api"
)

// The bytes of a point's parts.
const (
	atBytes     = 4
	serverBytes = 2
	rankBytes   = 2
	pointBytes  = atBytes + serverBytes + rankBytes
)

// Encode lays the ring down.
func (r Ring) Encode() []byte {
	raw := make([]byte, 0, pointBytes*len(r.points))
	for _, p := range r.points {
		raw = put(raw, int(p.At), atBytes)
		raw = put(raw, p.Server, serverBytes)
		raw = put(raw, p.Rank, rankBytes)
	}
	return raw
}

// put lays a number of some bytes behind others, the highest byte first.
func put(raw []byte, n, size int) []byte {
	for i := size - 1; i >= 0; i-- {
		raw = append(raw, byte(n>>(8*i)))
	}
	return raw
}

// Decode reads what Encode laid. The servers say all of a ring already: the bytes can only agree.
func Decode(raw []byte, servers []api.Server) (Ring, api.Errno) {
	r, e := Of(servers...)
	if e != api.OK {
		return Ring{}, e
	}
	if !bytes.Equal(raw, r.Encode()) {
		return Ring{}, api.ErrForm
	}
	return r, api.OK
}
