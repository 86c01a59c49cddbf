package diff_test

import (
	"fmt"
	"math"
	"math/rand"
	"slices"

	"leverframe/api"
	"leverframe/sample"
)

// kinds are the kinds that elements have.
var kinds = []uint8{1, 2, 3, 4}

// far are numbers that are no element's.
var far = []int{math.MinInt, math.MinInt + 1, -1 << 32, -1<<32 + 1, -256 + 1, -99, -2, -1, 0, 100, 256 + 1, 256 + 2, 65536 + 1, 1 << 31, 1<<32 + 1, 1<<32 + 2, math.MaxInt - 1, math.MaxInt}

// is answers what became of the elements of those numbers, of one kind.
func is(kind, what uint8, ids ...int) []api.Diff {
	var out []api.Diff
	for _, id := range ids {
		out = append(out, api.Diff{Kind: kind, Id: id, Is: what})
	}
	return out
}

// texts answers all elements of p, each told as a text, by kind and number.
func texts(p api.Plan) map[uint8]map[int]string {
	out := map[uint8]map[int]string{1: {}, 2: {}, 3: {}, 4: {}}
	for _, x := range p.Sections {
		out[1][x.Id] = fmt.Sprint(x)
	}
	for _, x := range p.Points {
		out[2][x.Id] = fmt.Sprint(x)
	}
	for _, x := range p.Signals {
		out[3][x.Id] = fmt.Sprint(x)
	}
	for _, x := range p.Routes {
		out[4][x.Id] = fmt.Sprint(x)
	}
	return out
}

// words answers, by the words, what became of all elements of two plans that may be.
func words(a, b api.Plan) []api.Diff {
	var out []api.Diff
	one, other := texts(a), texts(b)
	for _, kind := range kinds {
		for id := 1; id <= 99; id++ {
			x, isOne := one[kind][id]
			y, isOther := other[kind][id]
			switch {
			case isOne && isOther && x == y:
				out = append(out, is(kind, 0, id)...)
			case isOne && isOther:
				out = append(out, is(kind, 1, id)...)
			case isOther:
				out = append(out, is(kind, 2, id)...)
			case isOne:
				out = append(out, is(kind, 3, id)...)
			}
		}
	}
	return out
}

// back answers what l is the other way round.
func back(l []api.Diff) []api.Diff {
	l = slices.Clone(l)
	for i, x := range l {
		l[i].Is = [4]uint8{0, 1, 3, 2}[x.Is]
	}
	return l
}

// turn is a change of the yard, and all that does not stay the same by it.
type turn struct {
	change func(p *api.Plan)
	want   []api.Diff
}

// turns answers changes of the yard, each by a name.
func turns() map[string]turn {
	out := map[string]turn{}
	for name, change := range routeTurns() {
		out["route: "+name] = turn{func(p *api.Plan) { change(&p.Routes[0]) }, is(4, 1, 1)}
	}
	for name, x := range sectionTurns() {
		out["section: "+name] = x
	}
	for name, x := range otherTurns() {
		out["other: "+name] = x
	}
	return out
}

// routeTurns answers what changes one thing of the yard's first route, each by a name.
func routeTurns() map[string]func(r *api.Route) {
	return map[string]func(r *api.Route){
		"timer":                          func(r *api.Route) { r.Timer = 3 },
		"entry":                          func(r *api.Route) { r.Entry = 4 },
		"exit":                           func(r *api.Route) { r.Exit = 4 },
		"entry and exit trade":           func(r *api.Route) { r.Entry, r.Exit, r.Path = 3, 1, []int{2, 4} },
		"the path's first":               func(r *api.Route) { r.Path[0] = 4 },
		"the path's last":                func(r *api.Route) { r.Path[1] = 4 },
		"the path's order":               func(r *api.Route) { r.Path = []int{3, 2} },
		"the path without its first":     func(r *api.Route) { r.Path = []int{3} },
		"the path without its last":      func(r *api.Route) { r.Path = r.Path[:1] },
		"one more in the path":           func(r *api.Route) { r.Path = append(r.Path, 4) },
		"one more ahead in the path":     func(r *api.Route) { r.Path = []int{4, 2, 3} },
		"the overlap's first":            func(r *api.Route) { r.Over[0] = 7 },
		"the overlap's last":             func(r *api.Route) { r.Over[1] = 7 },
		"the overlap's order":            func(r *api.Route) { r.Over = []int{6, 5} },
		"the overlap without its first":  func(r *api.Route) { r.Over = []int{6} },
		"the overlap without its last":   func(r *api.Route) { r.Over = r.Over[:1] },
		"no overlap":                     func(r *api.Route) { r.Over = nil },
		"an empty overlap":               func(r *api.Route) { r.Over = []int{} },
		"path and overlap trade":         func(r *api.Route) { r.Path, r.Over = r.Over, r.Path },
		"one goes over to the path":      func(r *api.Route) { r.Path, r.Over = []int{2, 3, 5}, []int{6} },
		"all go over to the path":        func(r *api.Route) { r.Path, r.Over = []int{2, 3, 5, 6}, nil },
		"the first flank's point":        func(r *api.Route) { r.Flanks[0].Point = 10 },
		"the last flank's point":         func(r *api.Route) { r.Flanks[1].Point = 50 },
		"the first flank's lie":          func(r *api.Route) { r.Flanks[0].Lie = 2 },
		"the last flank's lie":           func(r *api.Route) { r.Flanks[1].Lie = 1 },
		"the flanks' lies in that order": func(r *api.Route) { r.Flanks[0].Lie, r.Flanks[1].Lie = 2, 1 },
		"without the first flank":        func(r *api.Route) { r.Flanks = r.Flanks[1:] },
		"without the last flank":         func(r *api.Route) { r.Flanks = r.Flanks[:1] },
		"one flank more":                 func(r *api.Route) { r.Flanks = append(r.Flanks, api.Flank{Point: 60, Lie: 1}) },
		"one flank more ahead":           func(r *api.Route) { r.Flanks = slices.Insert(r.Flanks, 0, api.Flank{Point: 10, Lie: 1}) },
		"both flanks' points":            func(r *api.Route) { r.Flanks[0].Point, r.Flanks[1].Point = 10, 30 },
		"no flank":                       func(r *api.Route) { r.Flanks = nil },
		"no exit":                        func(r *api.Route) { r.Exit, r.Over = 0, nil },
		"all but its number":             func(r *api.Route) { *r = api.Route{Id: 1, Entry: 12, Path: []int{11, 10}, Timer: 8} },
		"all of another one's":           func(r *api.Route) { *r = sample.Busy().Routes[1]; r.Id = 1 },
	}
}

// sectionTurns answers changes of the yard's sections, and of what they bring along, each by a name.
func sectionTurns() map[string]turn {
	none := api.Join{}
	s := func(p *api.Plan, id int) *api.Section { return &p.Sections[id-1] }
	return map[string]turn{
		"an end's To":    {func(p *api.Plan) { s(p, 10).Ends[2] = none; sample.Tie(*p, sample.To(11, 0), sample.To(12, 2)) }, is(1, 1, 10, 11, 12)},
		"an end's End":   {func(p *api.Plan) { s(p, 10).Ends[2] = none; sample.Tie(*p, sample.To(11, 0), sample.To(10, 1)) }, is(1, 1, 10, 11)},
		"two ends trade": {func(p *api.Plan) { s(p, 1).Ends[1] = none; sample.Tie(*p, sample.To(1, 0), sample.To(2, 0)) }, is(1, 1, 1, 2)},
		"the legs trade": {func(p *api.Plan) {
			sample.Tie(*p, sample.To(5, 1), sample.To(4, 1))
			sample.Tie(*p, sample.To(5, 2), sample.To(3, 1))
		}, is(1, 1, 3, 4, 5)},
		"an end to nothing":   {func(p *api.Plan) { s(p, 11).Ends[1], s(p, 12).Ends[0] = none, none }, is(1, 1, 11, 12)},
		"an end to a section": {func(p *api.Plan) { sample.Tie(*p, sample.To(1, 0), sample.To(12, 1)) }, is(1, 1, 1, 12)},
		"its point":           {func(p *api.Plan) { s(p, 2).Point, p.Points[2].Id = 31, 31 }, slices.Concat(is(1, 1, 2), is(2, 3, 30), is(2, 2, 31))},
		"two points trade": {func(p *api.Plan) {
			s(p, 8).Point, s(p, 9).Point, p.Points[0].Section, p.Points[3].Section = 40, 10, 9, 8
		}, slices.Concat(is(1, 1, 8, 9), is(2, 1, 10, 40))},
		"it loses its point": {unpointed, slices.Concat(is(1, 1, 12), is(2, 3, 60), is(3, 1, 12))},
		"a point moves":      {moved, slices.Concat(is(1, 1, 11, 12), is(2, 1, 60), is(3, 1, 12))},
		"one more":           {func(p *api.Plan) { p.Sections = append(p.Sections, sample.Bare(13, none, none)) }, is(1, 2, 13)},
		"one more, joined": {func(p *api.Plan) {
			p.Sections = append(p.Sections, sample.Bare(60, none, none))
			sample.Tie(*p, sample.To(60, 1), sample.To(1, 0))
		}, slices.Concat(is(1, 1, 1), is(1, 2, 60))},
		"one more, of a point": {pointed, slices.Concat(is(1, 1, 12), is(1, 2, 13), is(2, 3, 60), is(2, 2, 61), is(3, 1, 12))},
		"its number":           {renumbered, slices.Concat(is(1, 3, 1), is(1, 1, 2), is(1, 2, 99), is(3, 1, 1))},
	}
}

// unpointed takes the point out of section 12.
func unpointed(p *api.Plan) {
	p.Sections[11].Point, p.Sections[11].Ends = 0, p.Sections[11].Ends[:2]
	p.Points = p.Points[:5]
	p.Signals[9].End = 1
}

// moved lays the point of section 12 into 11.
func moved(p *api.Plan) {
	unpointed(p)
	p.Sections[10].Point, p.Sections[10].Ends = 60, append(p.Sections[10].Ends, api.Join{})
	p.Points = append(p.Points, api.Point{Id: 60, Section: 11})
}

// pointed lays a section that is joined to nothing, with a point; there are six points already, so section 12 loses its own.
func pointed(p *api.Plan) {
	unpointed(p)
	p.Sections = append(p.Sections, sample.Pointed(13, 61, api.Join{}, api.Join{}, api.Join{}))
	p.Points = append(p.Points, api.Point{Id: 61, Section: 13})
}

// renumbered makes section 1 section 99.
func renumbered(p *api.Plan) {
	x := p.Sections[0]
	x.Id = 99
	p.Sections = append(p.Sections[1:], x)
	p.Sections[0].Ends[0].To = 99
	p.Signals[0].Section = 99
}

// otherTurns answers changes of the yard's points, signals, several routes and versions, each by a name.
func otherTurns() map[string]turn {
	return map[string]turn{
		"the versions":               {func(p *api.Plan) { p.Version, p.Parent = api.MaxVersion, 77 }, nil},
		"the version that it is of":  {func(p *api.Plan) { p.Parent = 2 }, nil},
		"nothing":                    {func(p *api.Plan) {}, nil},
		"empty lists":                {func(p *api.Plan) { p.Routes[1].Over, p.Routes[1].Flanks = []int{}, []api.Flank{} }, nil},
		"a signal's section":         {func(p *api.Plan) { p.Signals[9].Section = 8 }, is(3, 1, 12)},
		"a signal's end":             {func(p *api.Plan) { p.Signals[9].End = 1 }, is(3, 1, 12)},
		"a signal's section and end": {func(p *api.Plan) { p.Signals[0].Section, p.Signals[0].End = 12, 0 }, is(3, 1, 1)},
		"a signal's number":          {func(p *api.Plan) { p.Signals[9].Id = 99 }, slices.Concat(is(3, 3, 12), is(3, 2, 99))},
		"two signals trade":          {func(p *api.Plan) { p.Signals[1].Section, p.Signals[2].Section = 4, 3 }, is(3, 1, 3, 4)},
		"the last signal":            {func(p *api.Plan) { p.Signals = p.Signals[:9] }, is(3, 3, 12)},
		"some signals":               {func(p *api.Plan) { p.Signals = slices.Delete(p.Signals, 6, 9) }, is(3, 3, 8, 9, 10)},
		"all signals, and routes":    {func(p *api.Plan) { p.Signals, p.Routes = nil, nil }, slices.Concat(is(3, 3, 1, 3, 4, 5, 6, 7, 8, 9, 10, 12), is(4, 3, 1, 2, 10))},
		"all routes":                 {func(p *api.Plan) { p.Routes = []api.Route{} }, is(4, 3, 1, 2, 10)},
		"the first route":            {func(p *api.Plan) { p.Routes = p.Routes[1:] }, is(4, 3, 1)},
		"the last route":             {func(p *api.Plan) { p.Routes = p.Routes[:2] }, is(4, 3, 10)},
		"the one between":            {func(p *api.Plan) { p.Routes = slices.Delete(p.Routes, 1, 2) }, is(4, 3, 2)},
		"a route's number":           {func(p *api.Plan) { p.Routes[0].Id, p.Routes[1].Id = 2, 3 }, slices.Concat(is(4, 3, 1), is(4, 1, 2), is(4, 2, 3))},
		"two routes trade": {func(p *api.Plan) {
			p.Routes[0], p.Routes[1] = p.Routes[1], p.Routes[0]
			p.Routes[0].Id, p.Routes[1].Id = 1, 2
		}, is(4, 1, 1, 2)},
		"one of each kind more, but points": {func(p *api.Plan) {
			p.Sections = append(p.Sections, sample.Bare(50, api.Join{}, api.Join{}))
			p.Signals[9].Id = 50
			p.Routes = append(p.Routes, api.Route{Id: 50, Entry: 1, Path: []int{50}, Timer: 1})
		}, slices.Concat(is(1, 2, 50), is(3, 3, 12), is(3, 2, 50), is(4, 2, 50))},
		"all": {func(p *api.Plan) { *p = api.Plan{Version: 1} }, slices.Concat(
			is(1, 3, 1, 2, 3, 4, 5, 6, 7, 8, 9, 10, 11, 12), is(2, 3, 10, 20, 30, 40, 50, 60), is(3, 3, 1, 3, 4, 5, 6, 7, 8, 9, 10, 12), is(4, 3, 1, 2, 10))},
	}
}

// some answers plans that may be, told and made by chance, each by a name.
func some() map[string]api.Plan {
	return sample.Some(rand.New(rand.NewSource(13)).Intn)
}
