package sort

import (
	"iter"

	"studwork/api"
)

// clusters yields the clusters of parts, for gates that need so many ticks to move.
func clusters(l []api.Fed, slow int) iter.Seq[[]api.Fed] {
	return func(yield func([]api.Fed) bool) {
		for len(l) > 0 {
			n := 1
			for n < len(l) && l[n].Tick-l[n-1].Tick <= 2*slow+1 {
				n++
			}
			if !yield(l[:n]) {
				return
			}
			l = l[n:]
		}
	}
}

// sortedBy returns the index of the gate into whose bin a cluster is sorted.
func sortedBy(b api.Belt, cluster []api.Fed) int {
	first, last := ends(cluster)
	gate := gateOf(b, readAs(first.Readings))
	if gate == none || last.Tick-first.Tick+3*b.Slow+1 > b.Gates[gate].At-b.Camera {
		return none
	}
	for _, x := range cluster {
		if gateOf(b, readAs(x.Readings)) != gate {
			return none
		}
	}
	return gate
}

func ends(cluster []api.Fed) (first, last api.Fed) { return cluster[0], cluster[len(cluster)-1] }
