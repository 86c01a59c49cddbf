// Package sample has plans, and states of plans, told and made by chance, for the tests of the layers' packages. No layer calls it.
package sample

import (
	"slices"

	"leverframe/api"
)

// Bare answers a section without a point, whose ends lead there.
func Bare(id int, a, b api.Join) api.Section {
	return api.Section{Id: id, Ends: []api.Join{a, b}}
}

// Pointed answers a section with a point, whose ends lead there.
func Pointed(id, point int, toe, normal, reverse api.Join) api.Section {
	return api.Section{Id: id, Point: point, Ends: []api.Join{toe, normal, reverse}}
}

// To answers what leads to that end of a section, or says that this is its out.
func To(id, end int) api.Join {
	return api.Join{To: id, End: end}
}

// Example answers the plan of the document's first examples: 2, whose legs are joined by 3.
func Example() api.Plan {
	none := api.Join{}
	return api.Plan{
		Version: 2, Parent: 1,
		Sections: []api.Section{Bare(1, To(2, 0), none), Pointed(2, 5, To(1, 0), To(3, 0), To(3, 1)), Bare(3, To(2, 1), To(2, 2))},
		Points:   []api.Point{{Id: 5, Section: 2}},
		Signals:  []api.Signal{{Id: 4, Section: 1, End: 0}},
		Routes:   []api.Route{{Id: 8, Entry: 4, Path: []int{2, 3}, Timer: 3}},
	}
}

// Another answers the plan of the document's examples that follows the first one.
func Another() api.Plan {
	p := Example()
	p.Version, p.Parent = 3, 2
	p.Routes[0].Timer = 4
	p.Signals = append(p.Signals, api.Signal{Id: 7, Section: 3, End: 0})
	return p
}

// Small answers a plan with one element of each kind, and a section more; all but that have the number 1.
func Small() api.Plan {
	return api.Plan{
		Version:  1,
		Sections: []api.Section{Bare(1, To(2, 0), api.Join{}), Pointed(2, 1, To(1, 0), api.Join{}, api.Join{})},
		Points:   []api.Point{{Id: 1, Section: 2}},
		Signals:  []api.Signal{{Id: 1, Section: 1, End: 0}},
		Routes:   []api.Route{{Id: 1, Entry: 1, Path: []int{2}, Timer: 1}},
	}
}

// Station answers the station of the document's examples: a loop, 3 and 4, between the legs of 2 and 5.
func Station() api.Plan {
	none := api.Join{}
	return api.Plan{
		Version: 1,
		Sections: []api.Section{
			Bare(1, none, To(2, 0)), Pointed(2, 2, To(1, 1), To(3, 0), To(4, 0)), Bare(3, To(2, 1), To(5, 1)),
			Bare(4, To(2, 2), To(5, 2)), Pointed(5, 5, To(6, 0), To(3, 1), To(4, 1)), Bare(6, To(5, 0), none),
		},
		Points:  []api.Point{{Id: 2, Section: 2}, {Id: 5, Section: 5}},
		Signals: []api.Signal{{Id: 1, Section: 1, End: 1}, {Id: 3, Section: 3, End: 1}, {Id: 4, Section: 4, End: 1}, {Id: 6, Section: 6, End: 0}},
		Routes: []api.Route{
			{Id: 1, Entry: 1, Exit: 3, Path: []int{2, 3}, Over: []int{5}, Timer: 2},
			{Id: 3, Entry: 3, Path: []int{5, 6}, Timer: 1},
			{Id: 6, Entry: 6, Path: []int{5, 4, 2, 1}, Timer: 1},
		},
	}
}

// Yard answers a plan without routes: two tracks, 3 and 4, between the legs of 2 and 5; behind that 8 and 9, joined leg by leg; then 10, of which a leg leads to nothing, and 12, of which both do.
func Yard() api.Plan {
	none := api.Join{}
	return api.Plan{
		Version: 3, Parent: 1,
		Sections: []api.Section{
			Bare(1, none, To(2, 0)), Pointed(2, 30, To(1, 1), To(3, 0), To(4, 0)), Bare(3, To(2, 1), To(5, 1)), Bare(4, To(2, 2), To(5, 2)),
			Pointed(5, 20, To(6, 0), To(3, 1), To(4, 1)), Bare(6, To(5, 0), To(7, 0)), Bare(7, To(6, 1), To(8, 0)), Pointed(8, 10, To(7, 1), To(9, 1), To(9, 2)),
			Pointed(9, 40, To(10, 0), To(8, 1), To(8, 2)), Pointed(10, 50, To(9, 0), none, To(11, 0)), Bare(11, To(10, 2), To(12, 0)), Pointed(12, 60, To(11, 1), none, none),
		},
		Points: []api.Point{{Id: 10, Section: 8}, {Id: 20, Section: 5}, {Id: 30, Section: 2}, {Id: 40, Section: 9}, {Id: 50, Section: 10}, {Id: 60, Section: 12}},
		Signals: []api.Signal{
			{Id: 1, Section: 1, End: 1}, {Id: 3, Section: 3, End: 1}, {Id: 4, Section: 4, End: 1}, {Id: 5, Section: 6, End: 0}, {Id: 6, Section: 6, End: 1},
			{Id: 7, Section: 7, End: 1}, {Id: 8, Section: 8, End: 0}, {Id: 9, Section: 7, End: 0}, {Id: 10, Section: 10, End: 2}, {Id: 12, Section: 12, End: 2},
		},
	}
}

// Busy answers the yard with three routes, of numbers 1, 2 and 10. The first one has something in each list.
func Busy() api.Plan {
	p := Having(Yard(),
		api.Route{Entry: 1, Exit: 3, Path: []int{2, 3}, Over: []int{5, 6}, Flanks: []api.Flank{{Point: 20, Lie: 1}, {Point: 40, Lie: 2}}, Timer: 2},
		api.Route{Entry: 6, Exit: 7, Path: []int{7}, Timer: 1},
		api.Route{Entry: 7, Path: []int{8, 9, 10}, Timer: 9},
	)
	p.Routes[2].Id = 10
	return p
}

// Full answers a plan with as many of each kind as there may be, and the greatest version.
func Full() api.Plan {
	return Big(api.MaxSections, api.MaxPoints, api.MaxSignals, api.MaxRoutes, api.MaxPath, api.MaxOver, api.MaxFlanks)
}

// Big answers a plan of so many of each (the last three: of each route), numbered up to 99: a row of sections, at least one, of which the first ones have points (their numbers fall), and the last ones signals. There are as many points as flanks, or more. Within the limits it may be, if there are no routes, or two signals and a path.
func Big(sections, points, signals, routes, path, over, flanks int) api.Plan {
	p := api.Plan{Version: api.MaxVersion, Parent: api.MaxVersion - 1}
	none := api.Join{}
	first := api.MaxId + 1 - sections
	for i := range sections {
		s := Bare(first+i, To(first+i-1, 1), To(first+i+1, 0))
		if i < points {
			s = Pointed(first+i, api.MaxId-i, s.Ends[0], s.Ends[1], none)
			p.Points = slices.Insert(p.Points, 0, api.Point{Id: api.MaxId - i, Section: s.Id})
		}
		p.Sections = append(p.Sections, s)
	}
	p.Sections[0].Ends[0], p.Sections[sections-1].Ends[1] = none, none
	for id := api.MaxId + 1 - signals; id <= api.MaxId; id++ {
		p.Signals = append(p.Signals, api.Signal{Id: id, Section: id, End: 1})
	}
	for id := api.MaxId + 1 - routes; id <= api.MaxId; id++ {
		r := api.Route{Id: id, Entry: api.MaxId, Exit: api.MaxId - 1, Timer: api.MaxTimer}
		for i := range path + over {
			r.Path = append(r.Path, first+i)
		}
		r.Path, r.Over = r.Path[:path:path], slices.Clone(r.Path[path:])
		for _, x := range p.Points[:flanks] {
			r.Flanks = append(r.Flanks, api.Flank{Point: x.Id, Lie: api.Reverse})
		}
		p.Routes = append(p.Routes, r)
	}
	return p
}

// Having answers p with those routes alone, numbered from 1 on.
func Having(p api.Plan, routes ...api.Route) api.Plan {
	p.Routes = slices.Clone(routes)
	for i := range p.Routes {
		p.Routes[i].Id = i + 1
	}
	return p
}

// Moved answers p whose signals of those numbers stand elsewhere.
func Moved(p api.Plan, at map[int]api.Join) api.Plan {
	p.Signals = slices.Clone(p.Signals)
	for i, s := range p.Signals {
		if j, ok := at[s.Id]; ok {
			p.Signals[i].Section, p.Signals[i].End = j.To, j.End
		}
	}
	return p
}

// Spare answers p in new memory, each list with room for one more, where an odd number stands: whoever puts something there is seen by Whole.
func Spare(p api.Plan) api.Plan {
	p.Sections = roomy(p.Sections, api.Section{Id: 1001})
	for i, s := range p.Sections {
		p.Sections[i].Ends = roomy(s.Ends, To(1002, 1003))
	}
	p.Points = roomy(p.Points, api.Point{Id: 1004, Section: 1005})
	p.Signals = roomy(p.Signals, api.Signal{Id: 1006, Section: 1007, End: 1008})
	p.Routes = roomy(p.Routes, api.Route{Id: 1009})
	for i, r := range p.Routes {
		p.Routes[i].Path = roomy(r.Path, 1010)
		p.Routes[i].Over = roomy(r.Over, 1011)
		p.Routes[i].Flanks = roomy(r.Flanks, api.Flank{Point: 1012, Lie: 1013})
	}
	return p
}

// Whole answers p in new memory, what stands in its lists' spare room told as elements.
func Whole(p api.Plan) api.Plan {
	p.Sections = whole(p.Sections)
	for i, s := range p.Sections {
		p.Sections[i].Ends = whole(s.Ends)
	}
	p.Points, p.Signals, p.Routes = whole(p.Points), whole(p.Signals), whole(p.Routes)
	for i, r := range p.Routes {
		p.Routes[i].Path, p.Routes[i].Over, p.Routes[i].Flanks = whole(r.Path), whole(r.Over), whole(r.Flanks)
	}
	return p
}

// Numbers answers where all numbers of p stand, so that each can be changed in turn.
func Numbers(p *api.Plan) []*int {
	out := []*int{&p.Version, &p.Parent}
	for i := range p.Sections {
		s := &p.Sections[i]
		out = append(out, &s.Id, &s.Point)
		for k := range s.Ends {
			out = append(out, &s.Ends[k].To, &s.Ends[k].End)
		}
	}
	for i := range p.Points {
		out = append(out, &p.Points[i].Id, &p.Points[i].Section)
	}
	for i := range p.Signals {
		out = append(out, &p.Signals[i].Id, &p.Signals[i].Section, &p.Signals[i].End)
	}
	for i := range p.Routes {
		r := &p.Routes[i]
		out = append(out, &r.Id, &r.Entry, &r.Exit, &r.Timer)
		for k := range r.Path {
			out = append(out, &r.Path[k])
		}
		for k := range r.Over {
			out = append(out, &r.Over[k])
		}
		for k := range r.Flanks {
			out = append(out, &r.Flanks[k].Point, &r.Flanks[k].Lie)
		}
	}
	return out
}

// Changed calls each while one number of p is another one: each number in turn, by its place, made each of to. Then p is as it was.
func Changed(p *api.Plan, to []int, each func(place int)) {
	for i, at := range Numbers(p) {
		was := *at
		for _, n := range to {
			*at = n
			each(i)
		}
		*at = was
	}
}

// roomy answers list in new memory, with odd behind it.
func roomy[T any](list []T, odd T) []T {
	out := append(slices.Clip(slices.Clone(list)), odd)
	return out[:len(list)]
}

// whole answers list with all of its spare room, in new memory.
func whole[T any](list []T) []T {
	return slices.Clone(list[:cap(list)])
}
