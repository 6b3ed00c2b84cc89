package studio_test

import (
	"math/rand"
	"slices"
	"testing"

	"studwork/api"
	"studwork/compose"
	"studwork/lattice"
	"studwork/stand"
	"studwork/steps"
	"studwork/studio"
	"studwork/text"
)

// walk does many jobs in many studios, and calls a function with each studio, a job, and what comes of it.
func walk(t *testing.T, seed int64, see func(s api.Studio, j api.Job, after api.Studio, done api.Done)) {
	t.Helper()
	r := rand.New(rand.NewSource(seed))
	for range 100 {
		s, e := studio.New(kinds(), prices())
		wantErr(t, "new", e, api.OK)
		for range 30 {
			j := randomJob(r)
			after, done := do(t, s, j)
			see(s, j, after, done)
			s = after
		}
	}
}

func TestP10_3Accepted(t *testing.T) {
	seen := 0
	walk(t, 3, func(_ api.Studio, j api.Job, s api.Studio, _ api.Done) {
		for i, d := range s.Docs {
			if _, ok := wantModel(s.Kinds, d); !ok {
				t.Fatal(j, d)
			}
			_, printed := do(t, s, show(i))
			again, loaded := do(t, withDocs(), load(printed.Text))
			want(t, printed.Text, loaded, api.Done{})
			want(t, printed.Text, again.Docs, list(d))
			seen++
		}
	})
	if seen < 1000 {
		t.Error(seen)
	}
}

// restOf is the rest of a model: the table is at its least Z.
func restOf(l []api.Kind, m api.Model) api.Rest {
	b, _ := lattice.Bounds(l, m)
	return api.Rest{Table: b.Lo.Z}
}

func TestP10_4Proofs(t *testing.T) {
	stood, fell := 0, 0
	walk(t, 4, func(s api.Studio, j api.Job, _ api.Studio, done api.Done) {
		if j.Kind != api.JobStand || done.E != api.OK {
			return
		}
		m, _ := text.Flatten(s.Docs[j.N])
		r := restOf(s.Kinds, m)
		if len(done.List) > 0 {
			fell++
			if n, e := stand.Excess(s.Kinds, m, r, done.List); e != api.OK || n <= 0 {
				t.Error(m, done, n, e)
			}
			return
		}
		stood++
		loads, e := stand.Loads(s.Kinds, m, r)
		if e != api.OK || stand.CheckLoads(s.Kinds, m, r, loads) != api.OK {
			t.Error(m, loads, e)
		}
	})
	if stood < 20 || fell < 20 {
		t.Error(stood, fell)
	}
}

func TestP10_4Steps(t *testing.T) {
	found, none := 0, 0
	walk(t, 5, func(s api.Studio, j api.Job, _ api.Studio, done api.Done) {
		if j.Kind != api.JobGuide || j.N >= len(s.Docs) {
			return
		}
		m, _ := text.Flatten(s.Docs[j.N])
		r := restOf(s.Kinds, m)
		switch done.E {
		case api.OK:
			found++
			wantErr(t, done, steps.Check(s.Kinds, m, r, j.M, done.Steps), api.OK)
			if done.N != len(done.Steps) {
				t.Error(done)
			}
		case api.ErrNone:
			none++
			if n, e := steps.Count(s.Kinds, m, r); e != api.OK || n != 0 {
				t.Error(m, n, e)
			}
		}
	})
	if found < 20 || none < 20 {
		t.Error(found, none)
	}
}

// parts adds up lists of items.
func parts(sum map[api.Item]int, sign int, l []api.Item) {
	for _, x := range l {
		sum[item(x.Kind, x.Color, 0)] += sign * x.N
	}
}

func TestP10_5Kept(t *testing.T) {
	r := rand.New(rand.NewSource(6))
	for range 60 {
		jobs := []api.Job{load(pair), load(stairs)}
		for range 60 {
			jobs = append(jobs, randomJob(r))
		}
		s, all, e := studio.Run(kinds(), prices(), jobs)
		wantErr(t, "run", e, api.OK)
		open := map[api.Item]int{}
		spent := 0
		for i, done := range all {
			if done.E != api.OK {
				continue
			}
			switch jobs[i].Kind {
			case api.JobStock:
				parts(open, 1, jobs[i].Items)
			case api.JobBuild:
				parts(open, -1, done.Items)
			case api.JobBuy:
				parts(open, 1, done.Items)
				spent += done.N
			}
		}
		parts(open, -1, s.Stock)
		for x, n := range open {
			if n != 0 {
				t.Error(x, n)
			}
		}
		if spent != s.Spent {
			t.Error(spent, s.Spent)
		}
	}
}

// What lacks is bought, part by part, each at its price: no other purchase can cost less without swaps.
func TestP10_5Bought(t *testing.T) {
	bought := 0
	walk(t, 7, func(s api.Studio, j api.Job, after api.Studio, done api.Done) {
		if j.Kind != api.JobBuy || done.E != api.OK {
			return
		}
		needs, _ := text.Count(s.Docs[j.N])
		cost := 0
		for _, x := range needs {
			has := slices.IndexFunc(s.Stock, func(y api.Item) bool { return y.Kind == x.Kind && y.Color == x.Color })
			if has >= 0 {
				x.N -= min(x.N, s.Stock[has].N)
			}
			for _, p := range s.Prices {
				if p.Kind == x.Kind && p.Color == x.Color {
					cost += x.N * p.Cents
				}
			}
		}
		if done.N != cost || after.Spent != s.Spent+cost {
			t.Error(done, cost, after.Spent)
		}
		if cost > 0 {
			bought++
		}
		_, built := do(t, after, build(j.N))
		want(t, "built", built, api.Done{Items: needs})
	})
	if bought < 20 {
		t.Error(bought)
	}
}

func TestP10_6Composed(t *testing.T) {
	made := 0
	walk(t, 8, func(s api.Studio, j api.Job, after api.Studio, done api.Done) {
		if j.Kind != api.JobCompose || done.E != api.OK {
			return
		}
		made++
		d := after.Docs[done.N]
		m, ok := wantModel(after.Kinds, d)
		if !ok || done.N != len(s.Docs) || len(d.Subs) != 1 || d.Subs[0].Name != j.Text {
			t.Error(d)
		}
		groups, _ := lattice.Groups(after.Kinds, m)
		if slices.Max(groups) > 0 {
			t.Error(m, groups)
		}
		colors := make([]uint8, len(j.Shape.Cells))
		for _, b := range m.Bricks {
			cells, _ := lattice.Cells(after.Kinds, b)
			for _, c := range cells {
				colors[(c.Z*j.Shape.D+c.Y)*j.Shape.W+c.X] = b.Color
			}
		}
		want(t, d, colors, j.Shape.Cells)
		if n, _ := compose.Least(j.Shape, j.Plates); len(m.Bricks) < n {
			t.Error(m, n)
		}
	})
	if made < 50 {
		t.Error(made)
	}
}

func TestP10_7Valid(t *testing.T) {
	walk(t, 9, func(s api.Studio, j api.Job, after api.Studio, done api.Done) {
		wantErr(t, j, studio.Check(after), api.OK)
		if !wantStudio(after) || done.E != api.OK && !studio.Same(s, after) {
			t.Error(j, after)
		}
	})
}

func TestP10_7RunIsDoAfterDo(t *testing.T) {
	r := rand.New(rand.NewSource(10))
	for range 60 {
		s, _ := studio.New(kinds(), prices())
		var jobs []api.Job
		var all []api.Done
		for range r.Intn(60) {
			jobs = append(jobs, randomJob(r))
			var done api.Done
			s, done = do(t, s, jobs[len(jobs)-1])
			all = append(all, done)
		}
		ran, dones, e := studio.Run(kinds(), prices(), jobs)
		wantErr(t, "run", e, api.OK)
		want(t, jobs, dones, all)
		want(t, jobs, ran, s)
		if !studio.Same(ran, s) {
			t.Error(jobs)
		}
	}
}

func TestP10_7Inline(t *testing.T) {
	inlined := 0
	walk(t, 11, func(s api.Studio, j api.Job, after api.Studio, done api.Done) {
		if j.Kind != api.JobInline || done.E != api.OK {
			return
		}
		inlined++
		before, _ := text.Flatten(s.Docs[j.N])
		m, e := text.Flatten(after.Docs[j.N])
		wantErr(t, j, e, api.OK)
		want(t, j, m, before)
		if done.N != len(after.Docs[j.N].Subs) || done.N != len(s.Docs[j.N].Subs)-1 {
			t.Error(done)
		}
		for i := range s.Docs {
			if i != j.N {
				want(t, j, after.Docs[i], s.Docs[i])
			}
		}
	})
	if inlined < 20 {
		t.Error(inlined)
	}
}
