package plan_test

import (
	"fmt"
	"math"
	"math/rand"
	"slices"

	"leverframe/api"
	"leverframe/sample"
	"leverframe/track"
)

// far are numbers that are no element's, no end's, no lie, no version and no timer.
var far = []int{math.MinInt, math.MinInt + 1, -1 << 32, -100, -3, -2, -1, 1 << 31, 1<<32 + 1, 1<<32 + 5, math.MaxInt - 1, math.MaxInt}

// near are numbers of which most are something's in the plans here, or just beyond a limit.
var near = []int{0, 1, 2, 3, 4, 5, 6, 7, 8, 9, 10, 11, 12, 20, 21, 30, 31, 84, 90, 98, 99, 100, 1<<31 - 2, 1<<31 - 1}

var nothing = api.Join{}

// What the tables are told by, and what looks into plans.
var (
	bare    = sample.Bare
	pointed = sample.Pointed
	to      = sample.To
	endOf   = sample.End
	numbers = sample.Numbers
	example = sample.Example
)

// station answers a plan with two tracks between two points whose numbers fall, signals, and routes with and without exits, overlaps and flanks.
func station() api.Plan {
	return api.Plan{
		Version: 7, Parent: 3,
		Sections: []api.Section{
			bare(1, nothing, to(2, 0)), pointed(2, 9, to(1, 1), to(3, 0), to(4, 0)), bare(3, to(2, 1), to(5, 1)), bare(4, to(2, 2), to(5, 2)),
			pointed(5, 6, to(6, 0), to(3, 1), to(4, 1)), bare(6, to(5, 0), nothing),
		},
		Points:  []api.Point{{Id: 6, Section: 5}, {Id: 9, Section: 2}},
		Signals: []api.Signal{{Id: 10, Section: 1, End: 1}, {Id: 11, Section: 3, End: 1}, {Id: 12, Section: 4, End: 1}, {Id: 20, Section: 3, End: 0}, {Id: 21, Section: 4, End: 0}, {Id: 30, Section: 6, End: 0}},
		Routes: []api.Route{
			{Id: 1, Entry: 10, Exit: 11, Path: []int{2, 3}, Over: []int{5, 6}, Flanks: []api.Flank{{Point: 6, Lie: 1}}, Timer: 2},
			{Id: 2, Entry: 10, Exit: 12, Path: []int{2, 4}, Over: []int{5}, Timer: 1},
			{Id: 3, Entry: 11, Path: []int{5, 6}, Flanks: []api.Flank{{Point: 6, Lie: 2}, {Point: 9, Lie: 1}}, Timer: 9},
			{Id: 20, Entry: 20, Path: []int{2, 1}, Timer: 4},
			{Id: 99, Entry: 30, Exit: 21, Path: []int{5, 4}, Timer: 3},
		},
	}
}

// sizes are how many there are of each kind in a plan.
type sizes struct{ sections, points, signals, routes, path, over, flanks int }

// most are as many as there may be.
var most = sizes{16, 6, 10, 16, 6, 2, 3}

// big answers a plan of so many of each.
func big(n sizes) api.Plan {
	return sample.Big(n.sections, n.points, n.signals, n.routes, n.path, n.over, n.flanks)
}

// with answers p, changed.
func with(p api.Plan, change func(p *api.Plan)) api.Plan {
	change(&p)
	return p
}

// rights answers plans that may be, each by a name.
func rights() map[string]api.Plan {
	loose := api.Plan{Version: 3, Sections: []api.Section{bare(1, nothing, nothing), pointed(50, 1, nothing, nothing, nothing), pointed(99, 99, nothing, nothing, nothing)}}
	out := map[string]api.Plan{
		"least": {Version: 1}, "empty": {Version: 1, Sections: []api.Section{}, Points: []api.Point{}, Signals: []api.Signal{}, Routes: []api.Route{}},
		"greatest version": {Version: 1<<31 - 1}, "of the one ahead": {Version: 1<<31 - 1, Parent: 1<<31 - 2}, "2 of 1": {Version: 2, Parent: 1}, "2 of 0": {Version: 2},
		"sections alone": {Version: 1, Sections: []api.Section{bare(1, nothing, to(99, 0)), bare(99, to(1, 1), nothing)}},
		"points alone":   with(loose, func(p *api.Plan) { p.Points = []api.Point{{Id: 1, Section: 50}, {Id: 99, Section: 99}} }),
		"example":        example(), "station": station(), "as many as may be": big(most), "one of each": big(sizes{3, 1, 2, 1, 1, 0, 1}), "fewer": big(sizes{15, 5, 9, 15, 5, 1, 2}),
		"no point": big(sizes{16, 0, 10, 16, 6, 2, 0}), "no overlap, no flank": big(sizes{16, 6, 10, 16, 6, 0, 0}), "no route": big(sizes{16, 6, 10, 0, 0, 0, 0}), "no signal": big(sizes{16, 6, 0, 0, 0, 0, 0}),
	}
	out["a signal at each end"] = with(out["points alone"], func(p *api.Plan) {
		id := 0
		for _, s := range p.Sections {
			for end := range s.Ends {
				p.Signals = append(p.Signals, api.Signal{Id: min(1+14*id, 99), Section: s.Id, End: end})
				id++
			}
		}
	})
	for name, change := range map[string]func(r *api.Route){
		"a path that doesn't hang together": func(r *api.Route) { r.Path = []int{4, 3} },
		"one section":                       func(r *api.Route) { r.Path = []int{6}; r.Over = nil },
		"an exit that is not on the path":   func(r *api.Route) { r.Exit = 30; r.Path = []int{3} },
		"an exit without an overlap":        func(r *api.Route) { r.Over = nil },
		"no exit":                           func(r *api.Route) { r.Exit = 0; r.Over = nil },
		"an empty overlap, no exit":         func(r *api.Route) { r.Exit = 0; r.Over = []int{} },
		"another one's exit":                func(r *api.Route) { r.Exit = 12 },
		"a flank in the path":               func(r *api.Route) { r.Flanks = []api.Flank{{Point: 9, Lie: 2}} },
		"timer 1":                           func(r *api.Route) { r.Timer = 1 },
		"timer 9":                           func(r *api.Route) { r.Timer = 9 },
		"the exit's section in neither":     func(r *api.Route) { r.Path, r.Over = []int{4}, []int{2} },
		"the same as another one":           func(r *api.Route) { *r = station().Routes[1]; r.Id = 1 },
	} {
		out["with "+name] = with(station(), func(p *api.Plan) { change(&p.Routes[0]) })
	}
	out["entry and exit in one section"] = with(station(), func(p *api.Plan) {
		p.Routes[0] = api.Route{Id: 1, Entry: 11, Exit: 20, Path: []int{5}, Timer: 1}
	})
	return out
}

// wrongs answers plans that may not be, each by a name.
func wrongs() map[string]api.Plan {
	out := map[string]api.Plan{
		"no plan": {}, "version 0 of -1": {Parent: -1}, "version 1 of 1": {Version: 1, Parent: 1}, "version beyond": {Version: 1 << 31}, "version beyond of the greatest": {Version: 1 << 31, Parent: 1<<31 - 1},
		"the greatest of itself": {Version: 1<<31 - 1, Parent: 1<<31 - 1}, "1 of the greatest": {Version: 1, Parent: math.MaxInt}, "least of greatest": {Version: math.MinInt, Parent: math.MaxInt}, "both least": {Version: math.MinInt, Parent: math.MinInt},
		"17 sections": big(sizes{17, 6, 10, 16, 6, 2, 3}), "7 points": big(sizes{16, 7, 10, 16, 6, 2, 3}), "16 points": big(sizes{16, 16, 10, 16, 6, 2, 3}), "11 signals": big(sizes{16, 6, 11, 16, 6, 2, 3}), "17 routes": big(sizes{16, 6, 10, 17, 6, 2, 3}),
		"7 in the path": big(sizes{16, 6, 10, 16, 7, 2, 3}), "3 in the overlap": big(sizes{16, 6, 10, 16, 6, 3, 3}), "4 flanks": big(sizes{16, 6, 10, 16, 6, 2, 4}), "an empty path": big(sizes{16, 6, 10, 16, 0, 2, 3}),
		"all too many": big(sizes{40, 20, 30, 50, 15, 10, 20}),
	}
	for name, change := range wrongElements() {
		out[name] = with(station(), change)
	}
	for name, change := range wrongRoutes() {
		for i := range 2 {
			out[fmt.Sprint(name, " at ", i)] = with(station(), func(p *api.Plan) { change(&p.Routes[i]) })
		}
	}
	for _, n := range far {
		for name, change := range map[string]func(p *api.Plan){
			"Version": func(p *api.Plan) { p.Version = n }, "Parent": func(p *api.Plan) { p.Parent = n },
			"section": func(p *api.Plan) { p.Sections[0].Id = n }, "its point": func(p *api.Plan) { p.Sections[1].Point = n },
			"point": func(p *api.Plan) { p.Points[0].Id = n }, "its section": func(p *api.Plan) { p.Points[0].Section = n },
			"signal": func(p *api.Plan) { p.Signals[3].Id = n }, "its place": func(p *api.Plan) { p.Signals[3].Section = n }, "its end": func(p *api.Plan) { p.Signals[3].End = n },
			"route": func(p *api.Plan) { p.Routes[0].Id = n }, "last route": func(p *api.Plan) { p.Routes[4].Id = n }, "entry": func(p *api.Plan) { p.Routes[0].Entry = n }, "exit": func(p *api.Plan) { p.Routes[0].Exit = n }, "timer": func(p *api.Plan) { p.Routes[0].Timer = n },
			"path": func(p *api.Plan) { p.Routes[0].Path[1] = n }, "overlap": func(p *api.Plan) { p.Routes[0].Over[1] = n },
			"flank": func(p *api.Plan) { p.Routes[0].Flanks[0].Point = n }, "lie": func(p *api.Plan) { p.Routes[0].Flanks[0].Lie = n },
		} {
			out[fmt.Sprint(name, " ", n)] = with(station(), change)
		}
	}
	return out
}

// wrongElements answers what makes a plan wrong but for its routes, each by a name.
func wrongElements() map[string]func(p *api.Plan) {
	return map[string]func(p *api.Plan){
		"a section joined one way":                 func(p *api.Plan) { p.Sections[0].Ends[1] = nothing },
		"a section that falls":                     func(p *api.Plan) { p.Sections[0], p.Sections[1] = p.Sections[1], p.Sections[0] },
		"a section 100":                            func(p *api.Plan) { p.Sections = append(p.Sections, bare(100, nothing, nothing)) },
		"three ends without a point":               func(p *api.Plan) { p.Sections[0].Ends = append(p.Sections[0].Ends, nothing) },
		"one point in two sections":                func(p *api.Plan) { p.Sections[4].Point = 9 },
		"points that fall":                         func(p *api.Plan) { p.Points[0], p.Points[1] = p.Points[1], p.Points[0] },
		"a point twice":                            func(p *api.Plan) { p.Points = append(p.Points, p.Points[1]) },
		"a point twice, none of the other one":     func(p *api.Plan) { p.Points[0] = p.Points[1] },
		"no points":                                func(p *api.Plan) { p.Points = nil },
		"the first point is missing":               func(p *api.Plan) { p.Points = p.Points[1:] },
		"the last point is missing":                func(p *api.Plan) { p.Points = p.Points[:1] },
		"a point that no section has":              func(p *api.Plan) { p.Points = append(p.Points, api.Point{Id: 10, Section: 3}) },
		"a point that no section has, in nothing":  func(p *api.Plan) { p.Points = append(p.Points, api.Point{Id: 10}) },
		"point 0 in a section without one":         func(p *api.Plan) { p.Points = slices.Insert(p.Points, 0, api.Point{Id: 0, Section: 1}) },
		"a point that tells the other one":         func(p *api.Plan) { p.Points[0].Section = 2 },
		"points that tell each other's":            func(p *api.Plan) { p.Points[0].Section, p.Points[1].Section = 2, 5 },
		"a point that tells a section without one": func(p *api.Plan) { p.Points[1].Section = 1 },
		"a point that tells a section not there":   func(p *api.Plan) { p.Points[1].Section = 7 },
		"a point that tells nothing":               func(p *api.Plan) { p.Points[1].Section = 0 },
		"a point under another number":             func(p *api.Plan) { p.Points[1].Id = 8 },
		"signals that fall":                        func(p *api.Plan) { p.Signals[0], p.Signals[1] = p.Signals[1], p.Signals[0] },
		"the last signals fall":                    func(p *api.Plan) { p.Signals[5].Id = 19 },
		"two signals of one number":                func(p *api.Plan) { p.Signals[1].Id = 10 },
		"signal 0":                                 func(p *api.Plan) { p.Signals = slices.Insert(p.Signals, 0, api.Signal{Id: 0, Section: 1}) },
		"signal -1":                                func(p *api.Plan) { p.Signals = slices.Insert(p.Signals, 0, api.Signal{Id: -1, Section: 1}) },
		"signal 100":                               func(p *api.Plan) { p.Signals = append(p.Signals, api.Signal{Id: 100, Section: 1}) },
		"a signal at an end too many":              func(p *api.Plan) { p.Signals[0].End = 2 },
		"a signal at a leg too many":               func(p *api.Plan) { p.Signals[0] = api.Signal{Id: 10, Section: 2, End: 3} },
		"a signal at an end below":                 func(p *api.Plan) { p.Signals[0].End = -1 },
		"a signal at a section that isn't there":   func(p *api.Plan) { p.Signals[0].Section = 7 },
		"a signal nowhere":                         func(p *api.Plan) { p.Signals[0].Section = 0 },
		"a signal nowhere at all":                  func(p *api.Plan) { p.Signals[0].Section, p.Signals[0].End = 0, 0 },
		"two signals at one end":                   func(p *api.Plan) { p.Signals[1] = api.Signal{Id: 11, Section: 1, End: 1} },
		"two signals at one end, apart":            func(p *api.Plan) { p.Signals[5] = api.Signal{Id: 30, Section: 1, End: 1} },
		"routes that fall":                         func(p *api.Plan) { p.Routes[0], p.Routes[1] = p.Routes[1], p.Routes[0] },
		"a route that falls":                       func(p *api.Plan) { p.Routes[3].Id = 2 },
		"a route twice":                            func(p *api.Plan) { p.Routes = append(p.Routes, p.Routes[4]) },
		"two routes of one number":                 func(p *api.Plan) { p.Routes[1].Id = 1 },
		"route 0":                                  func(p *api.Plan) { p.Routes[0].Id = 0 },
		"route -1":                                 func(p *api.Plan) { p.Routes[0].Id = -1 },
		"route 100":                                func(p *api.Plan) { p.Routes[4].Id = 100 },
		"routes, but no signals":                   func(p *api.Plan) { p.Signals = nil },
		"routes, but no sections":                  func(p *api.Plan) { p.Sections, p.Points = nil, nil },
		"an entry that was a signal":               func(p *api.Plan) { p.Signals = slices.Delete(p.Signals, 5, 6) },
		"a route that is nothing":                  func(p *api.Plan) { p.Routes = append([]api.Route{{}}, p.Routes...) },
		"a route that is nothing but a number":     func(p *api.Plan) { p.Routes[4] = api.Route{Id: 99} },
		"a section that is nothing":                func(p *api.Plan) { *p = api.Plan{Version: 1, Sections: make([]api.Section, 1)} },
	}
}

// wrongRoutes answers what makes any of station's first two routes wrong, each by a name.
func wrongRoutes() map[string]func(r *api.Route) {
	return map[string]func(r *api.Route){
		"Entry 0":                             func(r *api.Route) { r.Entry = 0 },
		"Entry is no signal":                  func(r *api.Route) { r.Entry = 13 },
		"Entry is a section":                  func(r *api.Route) { r.Entry = 1 },
		"Exit is Entry":                       func(r *api.Route) { r.Exit = r.Entry },
		"Exit is no signal":                   func(r *api.Route) { r.Exit = 13 },
		"Exit is below":                       func(r *api.Route) { r.Exit = -1 },
		"Exit is a point":                     func(r *api.Route) { r.Exit = 9 },
		"no exit, but an overlap":             func(r *api.Route) { r.Exit = 0 },
		"no path":                             func(r *api.Route) { r.Path = nil },
		"an empty path":                       func(r *api.Route) { r.Path = []int{} },
		"no path, but an overlap":             func(r *api.Route) { r.Path, r.Over = nil, []int{2, 3} },
		"a section twice in the path":         func(r *api.Route) { r.Path[1] = r.Path[0] },
		"a section twice in the path, apart":  func(r *api.Route) { r.Path, r.Over = []int{2, 3, 4, 2}, nil },
		"a section twice in the overlap":      func(r *api.Route) { r.Over = []int{5, 5} },
		"a section in path and overlap":       func(r *api.Route) { r.Over[0] = r.Path[0] },
		"the path's last one in the overlap":  func(r *api.Route) { r.Over = []int{6, r.Path[1]} },
		"Entry's section in the path":         func(r *api.Route) { r.Path[0] = 1 },
		"Entry's section last in the path":    func(r *api.Route) { r.Path[1] = 1 },
		"Entry's section in the overlap":      func(r *api.Route) { r.Over[0] = 1 },
		"Entry's section last in the overlap": func(r *api.Route) { r.Over = []int{6, 1} },
		"no section in the path":              func(r *api.Route) { r.Path[0] = 7 },
		"section 0 in the path":               func(r *api.Route) { r.Path[1] = 0 },
		"no section in the overlap":           func(r *api.Route) { r.Over[0] = 7 },
		"section 0 in the overlap":            func(r *api.Route) { r.Over[0] = 0 },
		"flanks that fall":                    func(r *api.Route) { r.Flanks = []api.Flank{{Point: 9, Lie: 1}, {Point: 6, Lie: 1}} },
		"a flank twice":                       func(r *api.Route) { r.Flanks = []api.Flank{{Point: 6, Lie: 1}, {Point: 6, Lie: 1}} },
		"a flank twice, with either lie":      func(r *api.Route) { r.Flanks = []api.Flank{{Point: 9, Lie: 1}, {Point: 9, Lie: 2}} },
		"a flank of no point":                 func(r *api.Route) { r.Flanks = []api.Flank{{Point: 7, Lie: 1}} },
		"a flank of point 0":                  func(r *api.Route) { r.Flanks = []api.Flank{{Point: 0, Lie: 1}} },
		"a flank of a point's section":        func(r *api.Route) { r.Flanks = []api.Flank{{Point: 5, Lie: 1}} },
		"a last flank of no point": func(r *api.Route) {
			r.Flanks = []api.Flank{{Point: 6, Lie: 1}, {Point: 9, Lie: 2}, {Point: 10, Lie: 1}}
		},
		"a flank with lie 0":                     func(r *api.Route) { r.Flanks = []api.Flank{{Point: 6, Lie: 0}} },
		"a flank with lie 3":                     func(r *api.Route) { r.Flanks = []api.Flank{{Point: 6, Lie: 3}} },
		"a flank with lie -1":                    func(r *api.Route) { r.Flanks = []api.Flank{{Point: 6, Lie: -1}} },
		"a last flank with lie 0":                func(r *api.Route) { r.Flanks = []api.Flank{{Point: 6, Lie: 1}, {Point: 9, Lie: 0}} },
		"a flank that is nothing":                func(r *api.Route) { r.Flanks = make([]api.Flank, 1) },
		"Timer 0":                                func(r *api.Route) { r.Timer = 0 },
		"Timer -1":                               func(r *api.Route) { r.Timer = -1 },
		"Timer 10":                               func(r *api.Route) { r.Timer = 10 },
		"an overlap of three, a path of three":   func(r *api.Route) { r.Path, r.Over = []int{2}, []int{3, 4, 5} },
		"a path of seven, some of them one":      func(r *api.Route) { r.Path = []int{2, 3, 4, 5, 6, 2, 3} },
		"numbers that are a section's in 8 bits": func(r *api.Route) { r.Path[0] += 256 },
	}
}

// grown answers a plan that may be, made by chance.
func grown(r *rand.Rand) api.Plan {
	p := api.Plan{Version: 1 + r.Intn(9)}
	p.Parent = r.Intn(p.Version)
	points := chosen(r, r.Intn(7))
	var open []api.Join
	for _, id := range sorted(chosen(r, 2+r.Intn(15))) {
		s := bare(id, nothing, nothing)
		if len(points) > 0 && r.Intn(2) == 0 {
			s = pointed(id, points[0], nothing, nothing, nothing)
			p.Points = append(p.Points, api.Point{Id: points[0], Section: id})
			points = points[1:]
		}
		for end := range s.Ends {
			open = append(open, to(id, end))
		}
		p.Sections = append(p.Sections, s)
	}
	slices.SortFunc(p.Points, func(a, b api.Point) int { return a.Id - b.Id })
	r.Shuffle(len(open), func(i, k int) { open[i], open[k] = open[k], open[i] })
	for i, id := range sorted(chosen(r, r.Intn(1+min(len(open), 10)))) {
		p.Signals = append(p.Signals, api.Signal{Id: id, Section: open[i].To, End: open[i].End})
	}
	for many := r.Intn(len(open)/2 + 1); many > 0; many-- {
		a, b := open[2*many-2], open[2*many-1]
		*endOf(p, a), *endOf(p, b) = b, a
	}
	for _, id := range sorted(chosen(r, r.Intn(17))) {
		if len(p.Signals) > 0 {
			p.Routes = append(p.Routes, grownRoute(r, p, id))
		}
	}
	return p
}

// grownRoute answers a route that may be in p, made by chance.
func grownRoute(r *rand.Rand, p api.Plan, id int) api.Route {
	entry := p.Signals[r.Intn(len(p.Signals))]
	exit := p.Signals[r.Intn(len(p.Signals))]
	out := api.Route{Id: id, Entry: entry.Id, Timer: 1 + r.Intn(9)}
	var others []int
	for _, i := range r.Perm(len(p.Sections)) {
		if p.Sections[i].Id != entry.Section {
			others = append(others, p.Sections[i].Id)
		}
	}
	many := 1 + r.Intn(min(6, len(others)))
	out.Path, others = slices.Clone(others[:many]), others[many:]
	if exit.Id != entry.Id {
		out.Exit = exit.Id
		out.Over = slices.Clone(others[:r.Intn(1+min(2, len(others)))])
	}
	for _, x := range p.Points {
		if r.Intn(2) == 0 && len(out.Flanks) < 3 {
			out.Flanks = append(out.Flanks, api.Flank{Point: x.Id, Lie: 1 + r.Intn(2)})
		}
	}
	return out
}

// chosen answers n numbers from 1 to 99, all unlike.
func chosen(r *rand.Rand, n int) []int {
	out := r.Perm(99)[:n]
	for i := range out {
		out[i]++
	}
	return out
}

// sorted answers list, sorted.
func sorted(list []int) []int {
	slices.Sort(list)
	return list
}

// some answers plans that may be, told and made by chance.
func some() map[string]api.Plan {
	out := rights()
	r := rand.New(rand.NewSource(8))
	for i := range 60 {
		out[fmt.Sprint("grown ", i)] = grown(r)
	}
	return out
}

// mayBe tells, by the words, whether p may be.
func mayBe(p api.Plan) bool {
	if p.Version < 1 || p.Version > 2147483647 || p.Parent < 0 || p.Parent > p.Version-1 || track.Check(p.Sections) != api.OK {
		return false
	}
	lies := map[int]int{}
	for _, s := range p.Sections {
		if s.Point != 0 {
			lies[s.Point] = s.Id
		}
	}
	told := map[int]int{}
	last := 0
	for _, x := range p.Points {
		if x.Id <= last || lies[x.Id] != x.Section || x.Section == 0 {
			return false
		}
		last = x.Id
		told[x.Id] = x.Section
	}
	if len(p.Points) > 6 || len(told) != len(lies) || len(p.Signals) > 10 || len(p.Routes) > 16 {
		return false
	}
	at := map[int]api.Signal{}
	taken := map[api.Join]bool{}
	last = 0
	for _, s := range p.Signals {
		place := to(s.Section, s.End)
		if s.Id <= last || s.Id > 99 || endOf(p, place) == nil || taken[place] {
			return false
		}
		last = s.Id
		at[s.Id], taken[place] = s, true
	}
	last = 0
	for _, r := range p.Routes {
		if r.Id <= last || r.Id > 99 || !routeMayBe(p, at, told, r) {
			return false
		}
		last = r.Id
	}
	return true
}

// routeMayBe tells, by the words, whether r may be in p, with signals and points at those sections.
func routeMayBe(p api.Plan, at map[int]api.Signal, told map[int]int, r api.Route) bool {
	entry, ok := at[r.Entry]
	if !ok || r.Exit == r.Entry || r.Timer < 1 || r.Timer > 9 {
		return false
	}
	if _, ok := at[r.Exit]; !ok && (r.Exit != 0 || len(r.Over) > 0) {
		return false
	}
	if len(r.Path) == 0 || len(r.Path) > 6 || len(r.Over) > 2 || len(r.Flanks) > 3 {
		return false
	}
	seen := map[int]bool{entry.Section: true}
	for _, id := range slices.Concat(r.Path, r.Over) {
		if seen[id] || endOf(p, to(id, 0)) == nil {
			return false
		}
		seen[id] = true
	}
	for i, f := range r.Flanks {
		if told[f.Point] == 0 || f.Lie != 1 && f.Lie != 2 || i > 0 && f.Point <= r.Flanks[i-1].Point {
			return false
		}
	}
	return true
}

// twin answers p in new memory.
func twin(p api.Plan) api.Plan {
	p.Sections = slices.Clone(p.Sections)
	for i, s := range p.Sections {
		p.Sections[i].Ends = slices.Clone(s.Ends)
	}
	p.Points, p.Signals = slices.Clone(p.Points), slices.Clone(p.Signals)
	p.Routes = slices.Clone(p.Routes)
	for i, r := range p.Routes {
		p.Routes[i].Path, p.Routes[i].Over, p.Routes[i].Flanks = slices.Clone(r.Path), slices.Clone(r.Over), slices.Clone(r.Flanks)
	}
	return p
}

// text answers all that a structure has: two of one kind have one text if, and only if, they are the same.
func text(x any) string {
	return fmt.Sprint(x)
}

// edits answers what comes of list without one element, with one twice, with two that change places, with none, and with more behind and ahead of it.
func edits[T any](list []T, more T) [][]T {
	out := [][]T{nil, {}, append(slices.Clone(list), more), slices.Concat([]T{more}, list)}
	for i, x := range list {
		out = append(out, slices.Delete(slices.Clone(list), i, i+1), slices.Insert(slices.Clone(list), i, x))
		for k := range i {
			other := slices.Clone(list)
			other[i], other[k] = other[k], other[i]
			out = append(out, other)
		}
	}
	return out
}

// edited answers what comes of p by an edit of one of its lists.
func edited(p api.Plan) []api.Plan {
	var out []api.Plan
	each := func(change func(p *api.Plan)) { out = append(out, with(twin(p), change)) }
	for _, l := range edits(p.Sections, bare(98, nothing, nothing)) {
		each(func(p *api.Plan) { p.Sections = l })
	}
	for i, s := range p.Sections {
		for _, l := range edits(s.Ends, nothing) {
			each(func(p *api.Plan) { p.Sections[i].Ends = l })
		}
	}
	for _, l := range edits(p.Points, api.Point{Id: 98, Section: 4}) {
		each(func(p *api.Plan) { p.Points = l })
	}
	for _, l := range edits(p.Signals, api.Signal{Id: 97, Section: 2, End: 1}) {
		each(func(p *api.Plan) { p.Signals = l })
	}
	for _, l := range edits(p.Routes, api.Route{Id: 98, Entry: 10, Path: []int{5}, Timer: 1}) {
		each(func(p *api.Plan) { p.Routes = l })
	}
	for i, r := range p.Routes {
		for _, l := range edits(r.Path, 4) {
			each(func(p *api.Plan) { p.Routes[i].Path = l })
		}
		for _, l := range edits(r.Over, 6) {
			each(func(p *api.Plan) { p.Routes[i].Over = l })
		}
		for _, l := range edits(r.Flanks, api.Flank{Point: 9, Lie: 1}) {
			each(func(p *api.Plan) { p.Routes[i].Flanks = l })
		}
	}
	return out
}

// roomy answers list in new memory with more in its spare room.
func roomy[T any](list []T, more ...T) []T {
	return slices.Concat(list, more)[:len(list)]
}

// spare answers p in new memory, each list of it with something in its spare room.
func spare(p api.Plan) api.Plan {
	p = twin(p)
	for i := range p.Sections {
		p.Sections[i].Ends = roomy(p.Sections[i].Ends, to(5, 6), to(7, 8))
	}
	for i := range p.Routes {
		r := &p.Routes[i]
		r.Path, r.Over, r.Flanks = roomy(r.Path, 71, 72), roomy(r.Over, 73), roomy(r.Flanks, api.Flank{Point: 74, Lie: 75})
	}
	p.Sections = roomy(p.Sections, api.Section{Id: 77, Point: 3, Ends: []api.Join{to(9, 9)}})
	p.Points, p.Signals = roomy(p.Points, api.Point{Id: 78, Section: 79}), roomy(p.Signals, api.Signal{Id: 80, Section: 81, End: 82})
	p.Routes = roomy(p.Routes, api.Route{Id: 83, Path: []int{84}, Over: []int{85}, Flanks: make([]api.Flank, 1)})
	return p
}

// shown answers p as it is with all spare room.
func shown(p api.Plan) api.Plan {
	p = api.Plan{Version: p.Version, Parent: p.Parent, Sections: slices.Clone(p.Sections[:cap(p.Sections)]), Points: p.Points[:cap(p.Points)], Signals: p.Signals[:cap(p.Signals)], Routes: slices.Clone(p.Routes[:cap(p.Routes)])}
	for i, s := range p.Sections {
		p.Sections[i].Ends = s.Ends[:cap(s.Ends)]
	}
	for i, r := range p.Routes {
		p.Routes[i].Path, p.Routes[i].Over, p.Routes[i].Flanks = r.Path[:cap(r.Path)], r.Over[:cap(r.Over)], r.Flanks[:cap(r.Flanks)]
	}
	return p
}
