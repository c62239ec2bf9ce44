package verify

import "twinshaft/api"

// checks are what each instruction of a valid module is asked, one after the other: a later one may rely on those before it.
func (s *search) checks() []func(api.Ins) api.Errno {
	return []func(api.Ins) api.Errno{s.exists, s.takes, s.fits}
}

// exists tells whether there is such a function as an instruction calls.
func (s *search) exists(i api.Ins) api.Errno {
	if i.Op == api.OpCall && i.N >= len(s.m.Funcs) {
		return api.ErrTarget
	}
	return api.OK
}

// takes tells whether a function that exists takes as many arguments as an instruction passes to it.
func (s *search) takes(i api.Ins) api.Errno {
	if i.Op == api.OpCall && len(i.Args) != s.m.Funcs[i.N].Params {
		return api.ErrArg
	}
	return api.OK
}

// fits tells whether a place in the data is at most at its end.
func (s *search) fits(i api.Ins) api.Errno {
	if i.Op == api.OpData && i.N > len(s.m.Data) {
		return api.ErrRange
	}
	return api.OK
}
