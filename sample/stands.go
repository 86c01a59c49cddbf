package sample

import (
	"slices"
	"strconv"

	"leverframe/api"
	"leverframe/plan"
)

// Stands answers the state of p, which may run, with those locks, all other routes being at rest: all sections are Free; each point that is asked is called, and detected, so, all others not at all. It may be, if the routes may be so together.
func Stands(p api.Plan, list ...api.Lock) api.State {
	s := api.State{}
	lies := map[int]int{}
	for _, l := range list {
		_, asks := Holds(p, l)
		for _, a := range asks {
			lies[a.Point] = a.Lie
		}
	}
	for _, x := range p.Sections {
		s.Tracks = append(s.Tracks, api.Track{Id: x.Id, Is: api.Free})
	}
	for _, x := range p.Points {
		s.Switches = append(s.Switches, api.Switch{Id: x.Id, Lie: lies[x.Id], Call: lies[x.Id]})
	}
	for _, x := range p.Routes {
		l := api.Lock{Id: x.Id}
		if i := slices.IndexFunc(list, func(l api.Lock) bool { return l.Id == x.Id }); i >= 0 {
			l = list[i]
		}
		s.Locks = append(s.Locks, l)
	}
	return s
}

// Phases answers all locks of r that may be, but the one at rest: each phase, each place Gone, each number Left.
func Phases(r api.Route) []api.Lock {
	out := []api.Lock{{Id: r.Id, Phase: api.Set}}
	for gone := range r.Path {
		out = append(out, api.Lock{Id: r.Id, Phase: api.Used, Gone: gone})
	}
	for left := 1; left <= r.Timer; left++ {
		out = append(out, api.Lock{Id: r.Id, Phase: api.Ending, Gone: len(r.Path) - 1, Left: left}, api.Lock{Id: r.Id, Phase: api.Falling, Left: left})
	}
	return out
}

// Alone answers the states of p, which may run, in which no route is locked, or one alone, in each way that may be (Stands).
func Alone(p api.Plan) []api.State {
	out := []api.State{Stands(p)}
	for _, r := range p.Routes {
		for _, l := range Phases(r) {
			out = append(out, Stands(p, l))
		}
	}
	return out
}

// Together answers states of the rails that may be (Stands), in which several routes are locked, each by a name.
func Together() map[string]api.State {
	p := Rails()
	list := map[string]api.State{}
	for name, locks := range map[string][]api.Lock{
		"nothing in common":    {{Id: 5, Phase: api.Set}, {Id: 98, Phase: api.Set}},
		"both for one lie":     {{Id: 2, Phase: api.Set}, {Id: 7, Phase: api.Set}},
		"flanks in the others": {{Id: 2, Phase: api.Set}, {Id: 30, Phase: api.Set}, {Id: 98, Phase: api.Set}},
		"all otherwise":        {{Id: 2, Phase: api.Ending, Gone: 1, Left: 2}, {Id: 30, Phase: api.Used, Gone: 1}, {Id: 98, Phase: api.Falling, Left: 1}},
		"one entry":            {{Id: 2, Phase: api.Set}, {Id: 5, Phase: api.Used, Gone: 1}},
		"given up to another":  {{Id: 2, Phase: api.Used, Gone: 1}, {Id: 31, Phase: api.Used, Gone: 2}},
		"two of one end":       {{Id: 7, Phase: api.Falling, Left: 4}, {Id: 31, Phase: api.Ending, Gone: 3, Left: 1}},
		"a flank of a path":    {{Id: 60, Phase: api.Set}, {Id: 31, Phase: api.Set}},
		"four at a time":       {{Id: 31, Phase: api.Used, Gone: 3}, {Id: 30, Phase: api.Used, Gone: 2}, {Id: 7, Phase: api.Set}, {Id: 98, Phase: api.Ending, Gone: 1, Left: 1}},
		"five at a time":       {{Id: 2, Phase: api.Used, Gone: 1}, {Id: 5, Phase: api.Used, Gone: 1}, {Id: 30, Phase: api.Ending, Gone: 2, Left: 1}, {Id: 31, Phase: api.Ending, Gone: 3, Left: 1}, {Id: 98, Phase: api.Used, Gone: 1}},
	} {
		list[name] = Stands(p, locks...)
	}
	return list
}

// Lives answers states that may be of p, which may run, told and made by chance, each by a name: routes alone, in each phase, and several together.
func Lives(p api.Plan, chance Chance) map[string]api.State {
	list := map[string]api.State{}
	for i, s := range Alone(p) {
		list["alone "+strconv.Itoa(i)] = s
	}
	for i := range 10 {
		list["lived "+strconv.Itoa(i)] = Lived(p, chance)
	}
	if plan.Same(p, Rails()) {
		for name, s := range Together() {
			list[name] = s
		}
	}
	return list
}

// Dead answers states that may not be of the rails, each by a name.
func Dead() map[string]api.State {
	p := Rails()
	list := map[string]api.State{
		"no state":           {},
		"another plan's":     Stands(Ring()),
		"one entry":          Stands(p, api.Lock{Id: 2, Phase: api.Set}, api.Lock{Id: 5, Phase: api.Set}),
		"unlike lies":        Stands(p, api.Lock{Id: 7, Phase: api.Set}, api.Lock{Id: 31, Phase: api.Used, Gone: 1}),
		"too far gone":       Stands(p, api.Lock{Id: 2, Phase: api.Used, Gone: 2}),
		"too many left":      Stands(p, api.Lock{Id: 98, Phase: api.Falling, Left: 2}),
		"no phase":           Stands(p, api.Lock{Id: 98, Phase: 5}),
		"at rest, with some": Stands(p, api.Lock{Id: 2, Left: 1}),
	}
	for name, change := range map[string]func(s *api.State){
		"the first section": func(s *api.State) { s.Tracks[0].Is = 3 },
		"the last section":  func(s *api.State) { s.Tracks[len(s.Tracks)-1].Id++ },
		"the first point":   func(s *api.State) { s.Switches[0].Lie = 3 },
		"the last point":    func(s *api.State) { s.Switches[5].Call = -1 },
		"not called":        func(s *api.State) { s.Locks[0].Phase = api.Set },
		"one section less":  func(s *api.State) { s.Tracks = s.Tracks[1:] },
		"one point less":    func(s *api.State) { s.Switches = s.Switches[:5] },
		"one route more":    func(s *api.State) { s.Locks = append(s.Locks, api.Lock{Id: 99}) },
	} {
		s := Stands(p)
		change(&s)
		list[name] = s
	}
	return list
}
