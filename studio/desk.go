package studio

import "studwork/api"

// desk is a valid studio that is worked on. It has memory of its own.
type desk struct{ api.Studio }

// works is what each kind of jobs does. If there is an error in what is done, the studio is as it was.
func (d *desk) works() [api.JobCompose + 1]func(api.Job) api.Done {
	return [...]func(api.Job) api.Done{
		api.JobLoad:    d.load,
		api.JobPrint:   d.write,
		api.JobInline:  d.inline,
		api.JobDrop:    d.drop,
		api.JobStand:   d.test,
		api.JobGuide:   d.guide,
		api.JobStock:   d.store,
		api.JobBuild:   d.build,
		api.JobBuy:     d.buy,
		api.JobCompose: d.compose,
	}
}

// do does a valid job.
func (d *desk) do(j api.Job) api.Done { return d.works()[j.Kind](j) }

func failed(e api.Errno) api.Done { return api.Done{E: e} }

// Do returns the studio after a job, and what is done (P10.2).
func Do(s api.Studio, j api.Job) (api.Studio, api.Done, api.Errno) {
	if e := Check(s); e != api.OK {
		return api.Studio{}, api.Done{}, e
	}
	if e := CheckJob(j); e != api.OK {
		return api.Studio{}, api.Done{}, e
	}
	d := desk{copyOf(s)}
	done := d.do(j)
	return d.Studio, done, api.OK
}

// Run returns the studio after some jobs, and what is done (P10.2).
func Run(kinds []api.Kind, prices []api.Price, jobs []api.Job) (api.Studio, []api.Done, api.Errno) {
	s, e := New(kinds, prices)
	if e != api.OK {
		return api.Studio{}, nil, e
	}
	if len(jobs) > api.MaxJobs {
		return api.Studio{}, nil, api.ErrMany
	}
	for _, j := range jobs {
		if e := CheckJob(j); e != api.OK {
			return api.Studio{}, nil, e
		}
	}
	d := desk{s}
	var all []api.Done
	for _, j := range jobs {
		all = append(all, d.do(j))
	}
	return d.Studio, all, api.OK
}
