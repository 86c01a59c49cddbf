package sample

import (
	"maps"
	"slices"
	"strconv"

	"leverframe/api"
	"leverframe/plan"
	"leverframe/sound"
)

// Rails answers the yard with seven routes that are sound: 2 and 5 have one entry; 7, behind 2, has one section, and an overlap come into at the toe; 30 goes over three points; 31 goes to the left; 60 has a flank; 98 leads to the right end. 2, 30 and 98 may be together, 2 asking flanks that these ask, too.
func Rails() api.Plan {
	p := Having(Yard(),
		api.Route{Entry: 1, Exit: 3, Path: []int{2, 3}, Over: []int{5, 6}, Flanks: []api.Flank{{Point: 10, Lie: 1}, {Point: 60, Lie: 2}}, Timer: 2},
		api.Route{Entry: 1, Exit: 4, Path: []int{2, 4}, Timer: 1},
		api.Route{Entry: 6, Exit: 7, Path: []int{7}, Over: []int{8}, Flanks: []api.Flank{{Point: 30, Lie: 1}}, Timer: 9},
		api.Route{Entry: 7, Exit: 10, Path: []int{8, 9, 10}, Timer: 3},
		api.Route{Entry: 5, Path: []int{5, 4, 2, 1}, Timer: 4},
		api.Route{Entry: 9, Exit: 5, Path: []int{6}, Flanks: []api.Flank{{Point: 20, Lie: 2}}, Timer: 2},
		api.Route{Entry: 10, Exit: 12, Path: []int{11, 12}, Flanks: []api.Flank{{Point: 40, Lie: 1}}, Timer: 1},
	)
	for i, id := range []int{2, 5, 7, 30, 31, 60, 98} {
		p.Routes[i].Id = id
	}
	return p
}

// Ring answers a plan that may run, with as many of each kind as there may be: a ring of sections; its routes of even numbers go over the first half, those of odd ones over the other half, each over three points, with the other half's points as flanks. Two of unlike halves may be together, if both are below 96.
func Ring() api.Plan {
	p := api.Plan{Version: api.MaxVersion, Parent: api.MaxVersion - 1}
	none := api.Join{}
	for id := 84; id <= 99; id++ {
		s := Bare(id, none, none)
		if point := map[int]int{84: 99, 86: 98, 91: 97, 93: 96, 97: 95, 99: 94}[id]; point != 0 {
			s = Pointed(id, point, none, none, none)
			p.Points = slices.Insert(p.Points, 0, api.Point{Id: point, Section: id})
		}
		p.Sections = append(p.Sections, s)
	}
	ins, outs := map[int]int{86: 2, 91: 1, 97: 1, 99: 2}, map[int]int{86: 0, 91: 0, 93: 2, 97: 0, 99: 0}
	for id := 84; id <= 99; id++ {
		next, out := id+1, 1
		if id == 99 {
			next = 84
		}
		if end, ok := outs[id]; ok {
			out = end
		}
		Tie(p, To(id, out), To(next, ins[next]))
	}
	for i, at := range []api.Join{To(99, 0), To(89, 1), To(91, 0), To(97, 0), To(85, 0), To(87, 0), To(88, 0), To(94, 0), To(95, 0), To(96, 0)} {
		p.Signals = append(p.Signals, api.Signal{Id: 90 + i, Section: at.To, End: at.End})
	}
	for id := 84; id <= 99; id++ {
		r := api.Route{Id: id, Entry: 90, Exit: 91, Path: []int{84, 85, 86, 87, 88, 89}, Over: []int{90, 91}, Timer: api.MaxTimer}
		r.Flanks = []api.Flank{{Point: 94, Lie: 2}, {Point: 95, Lie: 1}, {Point: 96, Lie: 2}}
		if id%2 == 1 {
			r = api.Route{Id: id, Entry: 92, Exit: 93, Path: []int{92, 93, 94, 95, 96, 97}, Over: []int{98, 99}, Timer: 1}
			r.Flanks = []api.Flank{{Point: 97, Lie: 1}, {Point: 98, Lie: 2}, {Point: 99, Lie: 1}}
		}
		if id >= 96 {
			r.Flanks[2].Lie = 3 - r.Flanks[2].Lie
		}
		p.Routes = append(p.Routes, r)
	}
	return p
}

// Sound answers p, which may be, with those of its routes alone that are sound.
func Sound(p api.Plan) api.Plan {
	q := plan.Twin(p)
	q.Routes = slices.DeleteFunc(q.Routes, func(r api.Route) bool { return sound.Route(p, r.Id) != api.OK })
	return q
}

// Sounds answers plans that may run, told and made by chance, each by a name.
func Sounds(chance Chance) map[string]api.Plan {
	list := map[string]api.Plan{"rails": Rails(), "ring": Ring()}
	for name, p := range Some(chance) {
		list[name] = Sound(p)
	}
	for i := range 10 {
		list["sound "+strconv.Itoa(i)] = Sound(Grown(chance))
	}
	return list
}

// Unsound answers plans that may not run, each by a name: some may be, others may not.
func Unsound() map[string]api.Plan {
	list := Odd()
	for name, change := range map[string]func(p *api.Plan){
		"a route to nowhere":      func(p *api.Plan) { p.Routes[0].Path = []int{3} },
		"the last one apart":      func(p *api.Plan) { p.Routes[6].Path = []int{12} },
		"the first asks twice":    func(p *api.Plan) { p.Routes[0].Flanks[0].Point = 30 },
		"the last asks twice":     func(p *api.Plan) { p.Routes[6].Flanks[0] = api.Flank{Point: 60, Lie: 2} },
		"a signal on the way":     func(p *api.Plan) { *p = Moved(*p, map[int]api.Join{8: To(8, 1)}) },
		"an exit that is another": func(p *api.Plan) { p.Routes[5].Exit = 6 },
	} {
		p := Rails()
		change(&p)
		list["unsound: "+name] = p
	}
	maps.Copy(list, map[string]api.Plan{"unsound: busy": Busy(), "unsound: greatest": Full()})
	return list
}
