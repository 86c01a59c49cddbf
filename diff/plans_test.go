package diff_test

import (
	"fmt"
	"math"
	"math/rand"
	"slices"

	"leverframe/api"
	"leverframe/plan"
	"leverframe/sample"
)

// kinds are the kinds that elements have.
var kinds = []uint8{1, 2, 3, 4}

// far are numbers that are no element's.
var far = []int{math.MinInt, math.MinInt + 1, -1 << 32, -1<<32 + 1, -256 + 1, -99, -2, -1, 0, 100, 256 + 1, 256 + 2, 65536 + 1, 1 << 31, 1<<32 + 1, 1<<32 + 2, math.MaxInt - 1, math.MaxInt}

// is answers what became of the elements of those numbers, of one kind.
func is(kind, what uint8, ids ...int) []api.Diff {
	var out []api.Diff
	for _, id := range ids {
		out = append(out, api.Diff{Kind: kind, Id: id, Is: what})
	}
	return out
}

// texts answers all elements of p, each told as a text, by kind and number.
func texts(p api.Plan) map[uint8]map[int]string {
	out := map[uint8]map[int]string{1: {}, 2: {}, 3: {}, 4: {}}
	for _, x := range p.Sections {
		out[1][x.Id] = fmt.Sprint(x)
	}
	for _, x := range p.Points {
		out[2][x.Id] = fmt.Sprint(x)
	}
	for _, x := range p.Signals {
		out[3][x.Id] = fmt.Sprint(x)
	}
	for _, x := range p.Routes {
		out[4][x.Id] = fmt.Sprint(x)
	}
	return out
}

// words answers, by the words, what became of all elements of two plans that may be.
func words(a, b api.Plan) []api.Diff {
	var out []api.Diff
	one, other := texts(a), texts(b)
	for _, kind := range kinds {
		for id := 1; id <= 99; id++ {
			x, isOne := one[kind][id]
			y, isOther := other[kind][id]
			switch {
			case isOne && isOther && x == y:
				out = append(out, is(kind, 0, id)...)
			case isOne && isOther:
				out = append(out, is(kind, 1, id)...)
			case isOther:
				out = append(out, is(kind, 2, id)...)
			case isOne:
				out = append(out, is(kind, 3, id)...)
			}
		}
	}
	return out
}

// back answers what l is the other way round.
func back(l []api.Diff) []api.Diff {
	l = slices.Clone(l)
	for i, x := range l {
		l[i].Is = [4]uint8{0, 1, 3, 2}[x.Is]
	}
	return l
}

// small answers a plan with one element of each kind, and a section more; all but that have the number 1.
func small() api.Plan {
	return api.Plan{
		Version:  1,
		Sections: []api.Section{sample.Bare(1, sample.To(2, 0), api.Join{}), sample.Pointed(2, 1, sample.To(1, 0), api.Join{}, api.Join{})},
		Points:   []api.Point{{Id: 1, Section: 2}},
		Signals:  []api.Signal{{Id: 1, Section: 1, End: 0}},
		Routes:   []api.Route{{Id: 1, Entry: 1, Path: []int{2}, Timer: 1}},
	}
}

// another answers the plan of the chapter's examples that follows the document's first one.
func another() api.Plan {
	p := sample.Example()
	p.Version, p.Parent = 3, 2
	p.Routes[0].Timer = 4
	p.Signals = append(p.Signals, api.Signal{Id: 7, Section: 3, End: 0})
	return p
}

// yard answers the yard with three routes, of numbers 1, 2 and 10. The first one has something in each list.
func yard() api.Plan {
	p := plan.Twin(sample.Having(sample.Yard(),
		api.Route{Entry: 1, Exit: 3, Path: []int{2, 3}, Over: []int{5, 6}, Flanks: []api.Flank{{Point: 20, Lie: 1}, {Point: 40, Lie: 2}}, Timer: 2},
		api.Route{Entry: 6, Exit: 7, Path: []int{7}, Timer: 1},
		api.Route{Entry: 7, Path: []int{8, 9, 10}, Timer: 9},
	))
	p.Routes[2].Id = 10
	return p
}

// turn is a change of the yard, and all that does not stay the same by it.
type turn struct {
	change func(p *api.Plan)
	want   []api.Diff
}

// turns answers changes of the yard, each by a name.
func turns() map[string]turn {
	out := map[string]turn{}
	for name, change := range routeTurns() {
		out["route: "+name] = turn{func(p *api.Plan) { change(&p.Routes[0]) }, is(4, 1, 1)}
	}
	for name, x := range sectionTurns() {
		out["section: "+name] = x
	}
	for name, x := range otherTurns() {
		out["other: "+name] = x
	}
	return out
}

// routeTurns answers what changes one thing of the yard's first route, each by a name.
func routeTurns() map[string]func(r *api.Route) {
	return map[string]func(r *api.Route){
		"timer":                          func(r *api.Route) { r.Timer = 3 },
		"entry":                          func(r *api.Route) { r.Entry = 4 },
		"exit":                           func(r *api.Route) { r.Exit = 4 },
		"entry and exit trade":           func(r *api.Route) { r.Entry, r.Exit, r.Path = 3, 1, []int{2, 4} },
		"the path's first":               func(r *api.Route) { r.Path[0] = 4 },
		"the path's last":                func(r *api.Route) { r.Path[1] = 4 },
		"the path's order":               func(r *api.Route) { r.Path = []int{3, 2} },
		"the path without its first":     func(r *api.Route) { r.Path = []int{3} },
		"the path without its last":      func(r *api.Route) { r.Path = r.Path[:1] },
		"one more in the path":           func(r *api.Route) { r.Path = append(r.Path, 4) },
		"one more ahead in the path":     func(r *api.Route) { r.Path = []int{4, 2, 3} },
		"the overlap's first":            func(r *api.Route) { r.Over[0] = 7 },
		"the overlap's last":             func(r *api.Route) { r.Over[1] = 7 },
		"the overlap's order":            func(r *api.Route) { r.Over = []int{6, 5} },
		"the overlap without its first":  func(r *api.Route) { r.Over = []int{6} },
		"the overlap without its last":   func(r *api.Route) { r.Over = r.Over[:1] },
		"no overlap":                     func(r *api.Route) { r.Over = nil },
		"an empty overlap":               func(r *api.Route) { r.Over = []int{} },
		"path and overlap trade":         func(r *api.Route) { r.Path, r.Over = r.Over, r.Path },
		"one goes over to the path":      func(r *api.Route) { r.Path, r.Over = []int{2, 3, 5}, []int{6} },
		"all go over to the path":        func(r *api.Route) { r.Path, r.Over = []int{2, 3, 5, 6}, nil },
		"the first flank's point":        func(r *api.Route) { r.Flanks[0].Point = 10 },
		"the last flank's point":         func(r *api.Route) { r.Flanks[1].Point = 50 },
		"the first flank's lie":          func(r *api.Route) { r.Flanks[0].Lie = 2 },
		"the last flank's lie":           func(r *api.Route) { r.Flanks[1].Lie = 1 },
		"the flanks' lies in that order": func(r *api.Route) { r.Flanks[0].Lie, r.Flanks[1].Lie = 2, 1 },
		"without the first flank":        func(r *api.Route) { r.Flanks = r.Flanks[1:] },
		"without the last flank":         func(r *api.Route) { r.Flanks = r.Flanks[:1] },
		"one flank more":                 func(r *api.Route) { r.Flanks = append(r.Flanks, api.Flank{Point: 60, Lie: 1}) },
		"one flank more ahead":           func(r *api.Route) { r.Flanks = slices.Insert(r.Flanks, 0, api.Flank{Point: 10, Lie: 1}) },
		"both flanks' points":            func(r *api.Route) { r.Flanks[0].Point, r.Flanks[1].Point = 10, 30 },
		"no flank":                       func(r *api.Route) { r.Flanks = nil },
		"no exit":                        func(r *api.Route) { r.Exit, r.Over = 0, nil },
		"all but its number":             func(r *api.Route) { *r = api.Route{Id: 1, Entry: 12, Path: []int{11, 10}, Timer: 8} },
		"all of another one's":           func(r *api.Route) { *r = yard().Routes[1]; r.Id = 1 },
	}
}

// sectionTurns answers changes of the yard's sections, and of what they bring along, each by a name.
func sectionTurns() map[string]turn {
	none := api.Join{}
	s := func(p *api.Plan, id int) *api.Section { return &p.Sections[id-1] }
	return map[string]turn{
		"an end's To":    {func(p *api.Plan) { s(p, 10).Ends[2] = none; sample.Tie(*p, sample.To(11, 0), sample.To(12, 2)) }, is(1, 1, 10, 11, 12)},
		"an end's End":   {func(p *api.Plan) { s(p, 10).Ends[2] = none; sample.Tie(*p, sample.To(11, 0), sample.To(10, 1)) }, is(1, 1, 10, 11)},
		"two ends trade": {func(p *api.Plan) { s(p, 1).Ends[1] = none; sample.Tie(*p, sample.To(1, 0), sample.To(2, 0)) }, is(1, 1, 1, 2)},
		"the legs trade": {func(p *api.Plan) {
			sample.Tie(*p, sample.To(5, 1), sample.To(4, 1))
			sample.Tie(*p, sample.To(5, 2), sample.To(3, 1))
		}, is(1, 1, 3, 4, 5)},
		"an end to nothing":   {func(p *api.Plan) { s(p, 11).Ends[1], s(p, 12).Ends[0] = none, none }, is(1, 1, 11, 12)},
		"an end to a section": {func(p *api.Plan) { sample.Tie(*p, sample.To(1, 0), sample.To(12, 1)) }, is(1, 1, 1, 12)},
		"its point":           {func(p *api.Plan) { s(p, 2).Point, p.Points[2].Id = 31, 31 }, slices.Concat(is(1, 1, 2), is(2, 3, 30), is(2, 2, 31))},
		"two points trade": {func(p *api.Plan) {
			s(p, 8).Point, s(p, 9).Point, p.Points[0].Section, p.Points[3].Section = 40, 10, 9, 8
		}, slices.Concat(is(1, 1, 8, 9), is(2, 1, 10, 40))},
		"it loses its point": {unpointed, slices.Concat(is(1, 1, 12), is(2, 3, 60), is(3, 1, 12))},
		"a point moves":      {moved, slices.Concat(is(1, 1, 11, 12), is(2, 1, 60), is(3, 1, 12))},
		"one more":           {func(p *api.Plan) { p.Sections = append(p.Sections, sample.Bare(13, none, none)) }, is(1, 2, 13)},
		"one more, joined": {func(p *api.Plan) {
			p.Sections = append(p.Sections, sample.Bare(60, none, none))
			sample.Tie(*p, sample.To(60, 1), sample.To(1, 0))
		}, slices.Concat(is(1, 1, 1), is(1, 2, 60))},
		"one more, of a point": {pointed, slices.Concat(is(1, 1, 12), is(1, 2, 13), is(2, 3, 60), is(2, 2, 61), is(3, 1, 12))},
		"its number":           {renumbered, slices.Concat(is(1, 3, 1), is(1, 1, 2), is(1, 2, 99), is(3, 1, 1))},
	}
}

// unpointed takes the point out of section 12.
func unpointed(p *api.Plan) {
	p.Sections[11].Point, p.Sections[11].Ends = 0, p.Sections[11].Ends[:2]
	p.Points = p.Points[:5]
	p.Signals[9].End = 1
}

// moved lays the point of section 12 into 11.
func moved(p *api.Plan) {
	unpointed(p)
	p.Sections[10].Point, p.Sections[10].Ends = 60, append(p.Sections[10].Ends, api.Join{})
	p.Points = append(p.Points, api.Point{Id: 60, Section: 11})
}

// pointed lays a section that is joined to nothing, with a point; there are six points already, so section 12 loses its own.
func pointed(p *api.Plan) {
	unpointed(p)
	p.Sections = append(p.Sections, sample.Pointed(13, 61, api.Join{}, api.Join{}, api.Join{}))
	p.Points = append(p.Points, api.Point{Id: 61, Section: 13})
}

// renumbered makes section 1 section 99.
func renumbered(p *api.Plan) {
	x := p.Sections[0]
	x.Id = 99
	p.Sections = append(p.Sections[1:], x)
	p.Sections[0].Ends[0].To = 99
	p.Signals[0].Section = 99
}

// otherTurns answers changes of the yard's points, signals, several routes and versions, each by a name.
func otherTurns() map[string]turn {
	return map[string]turn{
		"the versions":               {func(p *api.Plan) { p.Version, p.Parent = api.MaxVersion, 77 }, nil},
		"the version that it is of":  {func(p *api.Plan) { p.Parent = 2 }, nil},
		"nothing":                    {func(p *api.Plan) {}, nil},
		"empty lists":                {func(p *api.Plan) { p.Routes[1].Over, p.Routes[1].Flanks = []int{}, []api.Flank{} }, nil},
		"a signal's section":         {func(p *api.Plan) { p.Signals[9].Section = 8 }, is(3, 1, 12)},
		"a signal's end":             {func(p *api.Plan) { p.Signals[9].End = 1 }, is(3, 1, 12)},
		"a signal's section and end": {func(p *api.Plan) { p.Signals[0].Section, p.Signals[0].End = 12, 0 }, is(3, 1, 1)},
		"a signal's number":          {func(p *api.Plan) { p.Signals[9].Id = 99 }, slices.Concat(is(3, 3, 12), is(3, 2, 99))},
		"two signals trade":          {func(p *api.Plan) { p.Signals[1].Section, p.Signals[2].Section = 4, 3 }, is(3, 1, 3, 4)},
		"the last signal":            {func(p *api.Plan) { p.Signals = p.Signals[:9] }, is(3, 3, 12)},
		"some signals":               {func(p *api.Plan) { p.Signals = slices.Delete(p.Signals, 6, 9) }, is(3, 3, 8, 9, 10)},
		"all signals, and routes":    {func(p *api.Plan) { p.Signals, p.Routes = nil, nil }, slices.Concat(is(3, 3, 1, 3, 4, 5, 6, 7, 8, 9, 10, 12), is(4, 3, 1, 2, 10))},
		"all routes":                 {func(p *api.Plan) { p.Routes = []api.Route{} }, is(4, 3, 1, 2, 10)},
		"the first route":            {func(p *api.Plan) { p.Routes = p.Routes[1:] }, is(4, 3, 1)},
		"the last route":             {func(p *api.Plan) { p.Routes = p.Routes[:2] }, is(4, 3, 10)},
		"the one between":            {func(p *api.Plan) { p.Routes = slices.Delete(p.Routes, 1, 2) }, is(4, 3, 2)},
		"a route's number":           {func(p *api.Plan) { p.Routes[0].Id, p.Routes[1].Id = 2, 3 }, slices.Concat(is(4, 3, 1), is(4, 1, 2), is(4, 2, 3))},
		"two routes trade": {func(p *api.Plan) {
			p.Routes[0], p.Routes[1] = p.Routes[1], p.Routes[0]
			p.Routes[0].Id, p.Routes[1].Id = 1, 2
		}, is(4, 1, 1, 2)},
		"one of each kind more, but points": {func(p *api.Plan) {
			p.Sections = append(p.Sections, sample.Bare(50, api.Join{}, api.Join{}))
			p.Signals[9].Id = 50
			p.Routes = append(p.Routes, api.Route{Id: 50, Entry: 1, Path: []int{50}, Timer: 1})
		}, slices.Concat(is(1, 2, 50), is(3, 3, 12), is(3, 2, 50), is(4, 2, 50))},
		"all": {func(p *api.Plan) { *p = api.Plan{Version: 1} }, slices.Concat(
			is(1, 3, 1, 2, 3, 4, 5, 6, 7, 8, 9, 10, 11, 12), is(2, 3, 10, 20, 30, 40, 50, 60), is(3, 3, 1, 3, 4, 5, 6, 7, 8, 9, 10, 12), is(4, 3, 1, 2, 10))},
	}
}

// odd answers plans that may not be, each by a name.
func odd() map[string]api.Plan {
	list := map[string]api.Plan{
		"no plan": {}, "version 1 of 1": {Version: 1, Parent: 1}, "version beyond": {Version: 1 << 31}, "below nought": {Version: -1, Parent: -2},
		"17 sections": sample.Big(17, 6, 10, 16, 6, 2, 3), "7 points": sample.Big(16, 7, 10, 16, 6, 2, 3), "11 signals": sample.Big(16, 6, 11, 16, 6, 2, 3), "17 routes": sample.Big(16, 6, 10, 17, 6, 2, 3),
		"7 in the path": sample.Big(16, 6, 10, 16, 7, 2, 3), "3 in the overlap": sample.Big(16, 6, 10, 16, 6, 3, 3), "4 flanks": sample.Big(16, 6, 10, 16, 6, 2, 4), "an empty path": sample.Big(16, 6, 10, 16, 0, 2, 3),
	}
	for name, change := range map[string]func(p *api.Plan){
		"version 0":                  func(p *api.Plan) { p.Version, p.Parent = 0, -1 },
		"sections that fall":         func(p *api.Plan) { p.Sections[0], p.Sections[1] = p.Sections[1], p.Sections[0] },
		"a section joined one way":   func(p *api.Plan) { p.Sections[5].Ends[1] = api.Join{} },
		"a section without ends":     func(p *api.Plan) { p.Sections[0].Ends = nil },
		"section 0":                  func(p *api.Plan) { p.Sections = slices.Insert(p.Sections, 0, sample.Bare(0, api.Join{}, api.Join{})) },
		"section 100":                func(p *api.Plan) { p.Sections = append(p.Sections, sample.Bare(100, api.Join{}, api.Join{})) },
		"no section":                 func(p *api.Plan) { p.Sections = nil },
		"a point is missing":         func(p *api.Plan) { p.Points = p.Points[:5] },
		"a point twice":              func(p *api.Plan) { p.Points[1] = p.Points[0] },
		"a point elsewhere":          func(p *api.Plan) { p.Points[0].Section = 1 },
		"a signal twice":             func(p *api.Plan) { p.Signals[9] = p.Signals[8] },
		"two signals at one end":     func(p *api.Plan) { p.Signals[9].Section, p.Signals[9].End = 10, 2 },
		"a signal at an end beyond":  func(p *api.Plan) { p.Signals[0].End = 2 },
		"no signal":                  func(p *api.Plan) { p.Signals = nil },
		"routes that fall":           func(p *api.Plan) { p.Routes[0], p.Routes[1] = p.Routes[1], p.Routes[0] },
		"two routes of one number":   func(p *api.Plan) { p.Routes[1].Id = 1 },
		"route 100":                  func(p *api.Plan) { p.Routes[2].Id = 100 },
		"a path's section nowhere":   func(p *api.Plan) { p.Routes[2].Path[2] = 77 },
		"a flank of nothing":         func(p *api.Plan) { p.Routes[0].Flanks[1].Point = 41 },
		"the last one's timer is 10": func(p *api.Plan) { p.Routes[2].Timer = 10 },
	} {
		p := yard()
		change(&p)
		list[name] = p
	}
	return list
}

// some answers plans that may be, told and made by chance, each by a name.
func some() map[string]api.Plan {
	list := map[string]api.Plan{
		"least": {Version: 1}, "empty": {Version: 2, Parent: 1, Sections: []api.Section{}, Points: []api.Point{}, Signals: []api.Signal{}, Routes: []api.Route{}},
		"small": small(), "example": sample.Example(), "another": another(), "station": sample.Station(), "yard": yard(), "no route": sample.Yard(),
		"greatest": sample.Full(), "one of each": sample.Big(3, 1, 2, 1, 1, 0, 1), "no signal": sample.Big(16, 6, 0, 0, 0, 0, 0), "no point": sample.Big(16, 0, 10, 16, 6, 2, 0),
		"fewer": sample.Big(15, 5, 9, 15, 5, 1, 2), "no overlap": sample.Big(16, 6, 10, 16, 6, 0, 3), "no flank": sample.Big(16, 6, 10, 16, 6, 2, 0), "one section": sample.Big(1, 0, 0, 0, 0, 0, 0),
	}
	r := rand.New(rand.NewSource(13))
	for i := range 4 {
		list[fmt.Sprint("grown ", i)] = sample.Grown(r.Intn)
	}
	return list
}

// drifted answers p, changed by chance some times, so that it still may be; much of it stays as it was.
func drifted(p api.Plan, r *rand.Rand) api.Plan {
	for range 1 + r.Intn(20) {
		q := plan.Twin(p)
		drift(&q, r)
		if plan.Check(q) == api.OK {
			p = q
		}
	}
	return p
}

// drift changes one thing of p by chance.
func drift(p *api.Plan, r *rand.Rand) {
	switch r.Intn(8) {
	case 0: // two ends led to each other, and no more
		a := sample.To(p.Sections[r.Intn(len(p.Sections))].Id, r.Intn(2))
		if b := *sample.End(*p, a); b.To != 0 {
			*sample.End(*p, a), *sample.End(*p, b) = api.Join{}, api.Join{}
		}
	case 1: // two ends lead to each other
		a, b := sample.To(p.Sections[r.Intn(len(p.Sections))].Id, r.Intn(2)), sample.To(p.Sections[r.Intn(len(p.Sections))].Id, r.Intn(2))
		sample.Tie(*p, a, b)
	case 2: // a route less
		if i := r.Intn(len(p.Routes) + 1); i < len(p.Routes) {
			p.Routes = slices.Delete(p.Routes, i, i+1)
		}
	case 3: // a signal less
		if i := r.Intn(len(p.Signals) + 1); i < len(p.Signals) {
			p.Signals = slices.Delete(p.Signals, i, i+1)
		}
	case 4: // a route more, by another one's fields
		if i := r.Intn(len(p.Routes) + 1); i < len(p.Routes) {
			x := plan.Twin(*p).Routes[i]
			x.Id++
			p.Routes = slices.Insert(p.Routes, i+1, x)
		}
	case 5: // a section more
		at := r.Intn(len(p.Sections)) + 1
		p.Sections = slices.Insert(p.Sections, at, sample.Bare(p.Sections[at-1].Id+1, api.Join{}, api.Join{}))
	default: // a number is another one
		list := sample.Numbers(p)
		*list[r.Intn(len(list))] = r.Intn(17)
	}
}
