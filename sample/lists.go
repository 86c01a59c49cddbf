package sample

import (
	"slices"
	"strconv"

	"leverframe/api"
)

// Some answers plans that may be, told and made by chance, each by a name.
func Some(chance Chance) map[string]api.Plan {
	list := map[string]api.Plan{
		"least": {Version: 1}, "empty": {Version: 2, Parent: 1, Sections: []api.Section{}, Points: []api.Point{}, Signals: []api.Signal{}, Routes: []api.Route{}},
		"small": Small(), "example": Example(), "another": Another(), "station": Station(), "yard": Busy(), "no route": Yard(),
		"greatest": Full(), "one of each": Big(3, 1, 2, 1, 1, 0, 1), "no signal": Big(16, 6, 0, 0, 0, 0, 0), "no point": Big(16, 0, 10, 16, 6, 2, 0),
		"fewer": Big(15, 5, 9, 15, 5, 1, 2), "no overlap": Big(16, 6, 10, 16, 6, 0, 3), "no flank": Big(16, 6, 10, 16, 6, 2, 0), "one section": Big(1, 0, 0, 0, 0, 0, 0),
	}
	for i := range 4 {
		list["grown "+strconv.Itoa(i)] = Grown(chance)
	}
	return list
}

// Odd answers plans that may not be, each by a name.
func Odd() map[string]api.Plan {
	list := map[string]api.Plan{
		"no plan": {}, "version 1 of 1": {Version: 1, Parent: 1}, "version beyond": {Version: 1 << 31}, "below nought": {Version: -1, Parent: -2},
		"17 sections": Big(17, 6, 10, 16, 6, 2, 3), "7 points": Big(16, 7, 10, 16, 6, 2, 3), "11 signals": Big(16, 6, 11, 16, 6, 2, 3), "17 routes": Big(16, 6, 10, 17, 6, 2, 3),
		"7 in the path": Big(16, 6, 10, 16, 7, 2, 3), "3 in the overlap": Big(16, 6, 10, 16, 6, 3, 3), "4 flanks": Big(16, 6, 10, 16, 6, 2, 4), "an empty path": Big(16, 6, 10, 16, 0, 2, 3),
	}
	for name, change := range map[string]func(p *api.Plan){
		"version 0":                  func(p *api.Plan) { p.Version, p.Parent = 0, -1 },
		"sections that fall":         func(p *api.Plan) { p.Sections[0], p.Sections[1] = p.Sections[1], p.Sections[0] },
		"a section joined one way":   func(p *api.Plan) { p.Sections[5].Ends[1] = api.Join{} },
		"a section without ends":     func(p *api.Plan) { p.Sections[0].Ends = nil },
		"section 0":                  func(p *api.Plan) { p.Sections = slices.Insert(p.Sections, 0, Bare(0, api.Join{}, api.Join{})) },
		"section 100":                func(p *api.Plan) { p.Sections = append(p.Sections, Bare(100, api.Join{}, api.Join{})) },
		"no section":                 func(p *api.Plan) { p.Sections = nil },
		"a point is missing":         func(p *api.Plan) { p.Points = p.Points[:5] },
		"a point twice":              func(p *api.Plan) { p.Points[1] = p.Points[0] },
		"a point elsewhere":          func(p *api.Plan) { p.Points[0].Section = 1 },
		"a signal twice":             func(p *api.Plan) { p.Signals[9] = p.Signals[8] },
		"two signals at one end":     func(p *api.Plan) { p.Signals[9].Section, p.Signals[9].End = 10, 2 },
		"a signal at an end beyond":  func(p *api.Plan) { p.Signals[0].End = 2 },
		"no signal":                  func(p *api.Plan) { p.Signals = nil },
		"routes that fall":           func(p *api.Plan) { p.Routes[0], p.Routes[1] = p.Routes[1], p.Routes[0] },
		"two routes of one number":   func(p *api.Plan) { p.Routes[1].Id = 1 },
		"route 100":                  func(p *api.Plan) { p.Routes[2].Id = 100 },
		"a path's section nowhere":   func(p *api.Plan) { p.Routes[2].Path[2] = 77 },
		"a flank of nothing":         func(p *api.Plan) { p.Routes[0].Flanks[1].Point = 41 },
		"the last one's timer is 10": func(p *api.Plan) { p.Routes[2].Timer = 10 },
	} {
		p := Busy()
		change(&p)
		list[name] = p
	}
	return list
}
