package ring

import (
	"cmp"
	"slices"

	"granary/api"
	"granary/hash"
)

// place is an own place of a server, which that may have several times.
type place struct {
	at     uint32
	server int
}

// circle is the points of servers, rising. Of several servers at one place the least number comes first, and stays.
func circle(servers []api.Server) []api.Point {
	ranks := places(servers)
	points := make([]api.Point, 0, len(ranks))
	for p, rank := range ranks {
		points = append(points, api.Point{At: p.at, Server: p.server, Rank: rank})
	}
	slices.SortFunc(points, func(a, b api.Point) int {
		return cmp.Or(cmp.Compare(a.At, b.At), cmp.Compare(a.Server, b.Server))
	})
	return slices.CompactFunc(points, func(a, b api.Point) bool { return a.At == b.At })
}

// places are the own places of servers, each with the least of its ranks.
func places(servers []api.Server) map[place]int {
	ranks := make(map[place]int, api.PointsEach*len(servers))
	for number, s := range servers {
		// What may be a server's name and weight is within what hash takes.
		own, _ := hash.Points(s.Name, api.PointsEach*s.Weight)
		for rank, at := range own {
			p := place{at, number}
			if _, there := ranks[p]; !there {
				ranks[p] = rank
			}
		}
	}
	return ranks
}

// Points tells the points, rising.
func (r Ring) Points() []api.Point {
	return slices.Clone(r.points)
}

// first is where in the list of points a key comes to one: behind the last one it is the first again.
func (r Ring) first(key []byte) int {
	at := hash.Point(hash.Sum(key))
	i, _ := slices.BinarySearchFunc(r.points, at, func(p api.Point, at uint32) int { return cmp.Compare(p.At, at) })
	if i == len(r.points) {
		return 0
	}
	return i
}

// Owner is a key's server.
func (r Ring) Owner(key []byte) (int, api.Errno) {
	if len(r.points) == 0 {
		return 0, api.ErrServer
	}
	return r.points[r.first(key)].Server, api.OK
}

// Prefer is a key's preference list.
func (r Ring) Prefer(key []byte, most int) []int {
	most = min(most, len(r.servers))
	met := make([]bool, len(r.servers))
	var list []int
	i := r.first(key)
	for range r.points {
		if len(list) >= most {
			break
		}
		if n := r.points[i].Server; !met[n] {
			met[n] = true
			list = append(list, n)
		}
		i = (i + 1) % len(r.points)
	}
	return list
}
