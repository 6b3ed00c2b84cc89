package gear

import (
	"slices"

	"studwork/api"
)

// Check returns ErrTrain unless a train is valid.
func Check(t api.Train) api.Errno {
	if !within(t.Shafts, 1, api.MaxShafts) || len(t.Meshes) > api.MaxMeshes {
		return api.ErrTrain
	}
	for _, m := range t.Meshes {
		if !isMesh(m, t.Shafts) {
			return api.ErrTrain
		}
	}
	return api.OK
}

// named returns how many of its shafts a kind of meshes names, and whether it names numbers of teeth.
func named(kind uint8) (shafts int, teeth, ok bool) {
	switch kind {
	case api.MeshGears, api.MeshChain:
		return 2, true, true
	case api.MeshSame, api.MeshClutch:
		return 2, false, true
	case api.MeshFixed:
		return 1, false, true
	case api.MeshDiff:
		return 3, false, true
	case api.MeshPlanet:
		return 3, true, true
	}
	return 0, false, false
}

func isMesh(m api.Mesh, shafts int) bool {
	n, teeth, ok := named(m.Kind)
	if !ok {
		return false
	}
	if teeth && !(within(m.N, 1, api.MaxTeeth) && within(m.M, 1, api.MaxTeeth)) {
		return false
	}
	if !teeth && (m.N != 0 || m.M != 0) {
		return false
	}
	names := []int{m.A, m.B, m.C}
	for i, s := range names {
		if i >= n && s != 0 {
			return false
		}
		if i < n && (!within(s, 0, shafts-1) || slices.Contains(names[:i], s)) {
			return false
		}
	}
	return true
}

// factors returns the factors of a mesh of a train that is valid.
func factors(t api.Train, m api.Mesh) []int {
	l := make([]int, t.Shafts)
	switch m.Kind {
	case api.MeshGears:
		l[m.A], l[m.B] = m.N, m.M
	case api.MeshChain:
		l[m.A], l[m.B] = m.N, -m.M
	case api.MeshSame, api.MeshClutch:
		l[m.A], l[m.B] = 1, -1
	case api.MeshFixed:
		l[m.A] = 1
	case api.MeshDiff:
		l[m.A], l[m.B], l[m.C] = 1, 1, -2
	case api.MeshPlanet:
		l[m.A], l[m.B], l[m.C] = m.N, m.M, -m.N-m.M
	}
	return l
}

// Equation returns the factors of a mesh.
func Equation(t api.Train, mesh int) ([]int, api.Errno) {
	if e := Check(t); e != api.OK {
		return nil, e
	}
	if !within(mesh, 0, len(t.Meshes)-1) {
		return nil, api.ErrArg
	}
	return factors(t, t.Meshes[mesh]), api.OK
}

// checkShafts returns ErrArg unless all of some numbers are shafts.
func checkShafts(t api.Train, shafts ...int) api.Errno {
	if e := Check(t); e != api.OK {
		return e
	}
	for _, s := range shafts {
		if !within(s, 0, t.Shafts-1) {
			return api.ErrArg
		}
	}
	return api.OK
}

// Open returns a train with some clutches open.
func Open(t api.Train, clutches []int) (api.Train, api.Errno) {
	if e := Check(t); e != api.OK {
		return api.Train{}, e
	}
	last := -1
	for _, i := range clutches {
		if !within(i, last+1, len(t.Meshes)-1) || t.Meshes[i].Kind != api.MeshClutch {
			return api.Train{}, api.ErrArg
		}
		last = i
	}
	return without(t, clutches), api.OK
}

// without returns a train without some of its meshes.
func without(t api.Train, meshes []int) api.Train {
	rest := api.Train{Shafts: t.Shafts}
	for i, m := range t.Meshes {
		if !slices.Contains(meshes, i) {
			rest.Meshes = append(rest.Meshes, m)
		}
	}
	return rest
}
