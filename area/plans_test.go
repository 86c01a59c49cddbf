package area_test

import (
	"fmt"
	"math"
	"math/rand"
	"slices"

	"leverframe/api"
	"leverframe/sample"
)

// l is numbers of elements.
type l = []int

// far are numbers that are no element's.
var far = l{math.MinInt, -1 << 32, -1<<32 + 1, -256 + 1, -99, -2, -1, 0, 100, 256 + 1, 256 + 2, 65536 + 1, 1 << 31, 1<<32 + 1, 1<<32 + 2, math.MaxInt}

// these answers the area of those elements.
func these(sections, points, signals, routes l) api.Area {
	return api.Area{Sections: sections, Points: points, Signals: signals, Routes: routes}
}

// lists answers where the lists of x stand, by kind.
func lists(x *api.Area) map[uint8]*l {
	return map[uint8]*l{1: &x.Sections, 2: &x.Points, 3: &x.Signals, 4: &x.Routes}
}

// together answers what is in one of those areas at least, each list rising, each once.
func together(areas ...api.Area) api.Area {
	var out api.Area
	for kind, to := range lists(&out) {
		for _, x := range areas {
			*to = append(*to, *lists(&x)[kind]...)
		}
		slices.Sort(*to)
		*to = slices.Compact(*to)
	}
	return out
}

// alike tells whether each list of a has just what that of b has, in its order.
func alike(a, b api.Area) bool {
	for kind, list := range lists(&a) {
		if !slices.Equal(*list, *lists(&b)[kind]) {
			return false
		}
	}
	return true
}

// texts answers all elements of p, each told as a text, by kind and number.
func texts(p api.Plan) map[uint8]map[int]string {
	out := map[uint8]map[int]string{1: {}, 2: {}, 3: {}, 4: {}}
	for _, x := range p.Sections {
		out[1][x.Id] = fmt.Sprint(x)
	}
	for _, x := range p.Points {
		out[2][x.Id] = fmt.Sprint(x)
	}
	for _, x := range p.Signals {
		out[3][x.Id] = fmt.Sprint(x)
	}
	for _, x := range p.Routes {
		out[4][x.Id] = fmt.Sprint(x)
	}
	return out
}

// changes answers, by the words, what is changed, added or removed from one of two plans that may be to the other one.
func changes(a, b api.Plan) api.Area {
	var out api.Area
	one, other := texts(a), texts(b)
	for kind, to := range lists(&out) {
		for id := 1; id <= 99; id++ {
			if one[kind][id] != other[kind][id] {
				*to = append(*to, id)
			}
		}
	}
	return out
}

// uses answers, by the words, what r uses, one of the routes of p, which may be.
func uses(p api.Plan, r api.Route) api.Area {
	out := these(slices.Concat(r.Path, r.Over), nil, l{r.Entry}, l{r.Id})
	for _, s := range p.Sections {
		if s.Point != 0 && slices.Contains(slices.Concat(r.Path, r.Over), s.Id) {
			out.Points = append(out.Points, s.Point)
		}
		for _, f := range r.Flanks {
			if f.Point == s.Point {
				out.Points, out.Sections = append(out.Points, f.Point), append(out.Sections, s.Id)
			}
		}
	}
	if r.Exit != 0 {
		out.Signals = append(out.Signals, r.Exit)
	}
	return together(out)
}

// meet tells whether a and b have an element in common.
func meet(a, b api.Area) bool {
	for kind, list := range lists(&a) {
		if slices.ContainsFunc(*list, func(id int) bool { return slices.Contains(*lists(&b)[kind], id) }) {
			return true
		}
	}
	return false
}

// words answers, by the words, the area of a change from a to b, which may be, and how many routes are in it that stay the same, and how many are not in it.
func words(a, b api.Plan) (x api.Area, along, left int) {
	unlike := changes(a, b)
	x = unlike
	for _, p := range []api.Plan{a, b} {
		for _, r := range p.Routes {
			what := uses(p, r)
			switch {
			case !meet(what, unlike):
				left++
				continue
			case !slices.Contains(unlike.Routes, r.Id):
				along++
			}
			x = together(x, what)
		}
	}
	return x, along, left
}

// What the routes of the busy yard use.
var (
	one = these(l{2, 3, 5, 6, 9}, l{20, 30, 40}, l{1, 3}, l{1})
	two = these(l{7}, nil, l{6, 7}, l{2})
	ten = these(l{8, 9, 10}, l{10, 40, 50}, l{7}, l{10})
)

// turn is two plans, which are the busy yard till it changes one of them or both, and the area.
type turn struct {
	change func(a, b *api.Plan)
	want   api.Area
}

// turns answers changes, each by a name.
func turns() map[string]turn {
	out := map[string]turn{}
	for name, list := range map[string]map[string]turn{
		"nothing: ": nothingTurns(), "section: ": sectionTurns(), "point: ": pointTurns(), "signal: ": signalTurns(), "route: ": routeTurns(), "several: ": severalTurns(),
	} {
		for each, x := range list {
			out[name+each] = x
		}
	}
	return out
}

// nothingTurns answers changes that change no element.
func nothingTurns() map[string]turn {
	return map[string]turn{
		"at all":                    {func(a, b *api.Plan) {}, api.Area{}},
		"but the versions":          {func(a, b *api.Plan) { b.Version, b.Parent = api.MaxVersion, 77 }, api.Area{}},
		"but the version":           {func(a, b *api.Plan) { b.Version = 4 }, api.Area{}},
		"but what it is a child of": {func(a, b *api.Plan) { b.Parent = 2 }, api.Area{}},
		"but lists that are empty": {func(a, b *api.Plan) {
			b.Routes[1].Over, b.Routes[1].Flanks = l{}, []api.Flank{}
		}, api.Area{}},
		"of no plan's elements": {func(a, b *api.Plan) {
			*a, *b = api.Plan{Version: 1}, api.Plan{Version: 7, Sections: []api.Section{}, Points: []api.Point{}, Signals: []api.Signal{}, Routes: []api.Route{}}
		}, api.Area{}},
	}
}

// sectionTurns answers changes of sections.
func sectionTurns() map[string]turn {
	none := api.Join{}
	s := func(p *api.Plan, id int) *api.Section { return &p.Sections[id-1] }
	cut := func(p *api.Plan, a, b api.Join) { *sample.End(*p, a), *sample.End(*p, b) = none, none }
	return map[string]turn{
		"used by no route":                       {func(a, b *api.Plan) { sample.Tie(*b, sample.To(12, 1), sample.To(12, 2)) }, these(l{12}, nil, nil, nil)},
		"used by one, and one by none":           {func(a, b *api.Plan) { sample.Tie(*b, sample.To(10, 1), sample.To(12, 1)) }, together(ten, these(l{12}, nil, nil, nil))},
		"used by two, by one of them as a flank": {func(a, b *api.Plan) { cut(b, sample.To(9, 0), sample.To(10, 0)) }, together(one, ten)},
		"used by a flank alone": {func(a, b *api.Plan) {
			a.Routes, b.Routes = a.Routes[:2], b.Routes[:2]
			cut(b, sample.To(9, 0), sample.To(10, 0))
		}, together(one, these(l{10}, nil, nil, nil))},
		"used by a flank alone, earlier alone": {func(a, b *api.Plan) {
			a.Routes, b.Routes = a.Routes[:1], nil
			cut(b, sample.To(9, 0), sample.To(10, 0))
		}, together(one, these(l{10}, nil, nil, nil))},
		"used in the overlap alone":           {func(a, b *api.Plan) { cut(b, sample.To(5, 0), sample.To(6, 0)) }, one},
		"used in the overlap, and in a path":  {func(a, b *api.Plan) { cut(b, sample.To(6, 1), sample.To(7, 0)) }, together(one, two)},
		"used in a path alone":                {func(a, b *api.Plan) { cut(b, sample.To(2, 1), sample.To(3, 0)) }, one},
		"the last of a path":                  {func(a, b *api.Plan) { cut(b, sample.To(10, 2), sample.To(11, 0)) }, together(ten, these(l{11}, nil, nil, nil))},
		"where an entry stands, not its path": {func(a, b *api.Plan) { sample.Tie(*b, sample.To(1, 0), sample.To(12, 1)) }, these(l{1, 12}, nil, nil, nil)},
		"where an entry stands, and its path": {func(a, b *api.Plan) { cut(b, sample.To(1, 1), sample.To(2, 0)) }, together(one, these(l{1}, nil, nil, nil))},
		"the legs trade": {func(a, b *api.Plan) {
			sample.Tie(*b, sample.To(5, 1), sample.To(4, 1))
			sample.Tie(*b, sample.To(5, 2), sample.To(3, 1))
		}, together(one, these(l{4}, nil, nil, nil))},
		"two that one route uses, both ways off": {func(a, b *api.Plan) { cut(b, sample.To(8, 1), sample.To(9, 1)) }, together(one, ten)},
		"one more":                               {func(a, b *api.Plan) { b.Sections = append(b.Sections, sample.Bare(13, none, none)) }, these(l{13}, nil, nil, nil)},
		"one more, used by no route": {func(a, b *api.Plan) {
			b.Sections = append(b.Sections, sample.Bare(60, none, none))
			sample.Tie(*b, sample.To(60, 1), sample.To(1, 0))
		}, these(l{1, 60}, nil, nil, nil)},
		"one more, used by a route that is new": {func(a, b *api.Plan) {
			b.Sections = append(b.Sections, sample.Bare(60, none, none))
			b.Routes = append(b.Routes, api.Route{Id: 11, Entry: 12, Path: l{60}, Timer: 1})
		}, these(l{60}, nil, l{12}, l{11})},
		"one more, used by a route that was": {func(a, b *api.Plan) {
			b.Sections = append(b.Sections, sample.Bare(60, none, none))
			b.Routes[1].Path = l{7, 60}
		}, together(two, these(l{60}, nil, nil, nil))},
		"one less": {func(a, b *api.Plan) {
			b.Sections, b.Points, b.Signals = b.Sections[:11], b.Points[:5], b.Signals[:9]
			s(b, 11).Ends[1] = none
		}, these(l{11, 12}, l{60}, l{12}, nil)},
		"one less, of a path": {func(a, b *api.Plan) {
			b.Sections, b.Points, b.Signals = b.Sections[:9], b.Points[:4], b.Signals[:8]
			s(b, 9).Ends[0] = none
			b.Routes[2].Path = l{8, 9}
		}, together(one, ten, these(l{11, 12}, l{60}, l{10, 12}, nil))},
		"its number": {func(a, b *api.Plan) {
			b.Sections = append(b.Sections[1:], sample.Bare(99, none, sample.To(2, 0)))
			b.Sections[0].Ends[0].To = 99
			b.Signals[0].Section = 99
		}, together(one, these(l{1, 99}, nil, nil, nil))},
	}
}

// pointTurns answers changes of points.
func pointTurns() map[string]turn {
	return map[string]turn{
		"used by no route": {unpointed, these(l{12}, l{60}, l{12}, nil)},
		"moves, used by no route": {func(a, b *api.Plan) {
			moved(a, b)
		}, these(l{11, 12}, l{60}, l{12}, nil)},
		"moves, and is a flank": {func(a, b *api.Plan) {
			a.Routes[1].Flanks, b.Routes[1].Flanks = []api.Flank{{Point: 60, Lie: 1}}, []api.Flank{{Point: 60, Lie: 1}}
			moved(a, b)
		}, together(two, these(l{11, 12}, l{60}, l{12}, nil))},
		"moves, and is no flank any more": {func(a, b *api.Plan) {
			a.Routes[1].Flanks = []api.Flank{{Point: 60, Lie: 1}}
			moved(a, b)
		}, together(two, these(l{11, 12}, l{60}, l{12}, nil))},
		"two trade": {func(a, b *api.Plan) {
			b.Sections[7].Point, b.Sections[8].Point, b.Points[0].Section, b.Points[3].Section = 40, 10, 9, 8
		}, together(one, ten)},
		"two trade, the one a flank alone": {func(a, b *api.Plan) {
			a.Routes, b.Routes = a.Routes[:2], b.Routes[:2]
			b.Sections[7].Point, b.Sections[8].Point, b.Points[0].Section, b.Points[3].Section = 40, 10, 9, 8
		}, together(one, these(l{8}, l{10}, nil, nil))},
		"its number, in a path": {func(a, b *api.Plan) {
			b.Sections[1].Point, b.Points[2].Id = 31, 31
		}, together(one, these(nil, l{31}, nil, nil))},
		"its number, in an overlap and a flank": {func(a, b *api.Plan) {
			b.Sections[4].Point, b.Points[1].Id, b.Routes[0].Flanks[0].Point = 21, 21, 21
		}, together(one, these(nil, l{21}, nil, nil))},
		"is gone, in a path": {func(a, b *api.Plan) {
			b.Sections[9] = sample.Bare(10, sample.To(9, 0), sample.To(11, 0))
			b.Sections[10].Ends[0] = sample.To(10, 1)
			b.Points = slices.Delete(b.Points, 4, 5)
			b.Signals[8].End = 1
		}, together(ten, these(l{11}, nil, l{10}, nil))},
		"is new, in a path": {func(a, b *api.Plan) {
			unpointed(a, b)
			b.Sections[6] = sample.Pointed(7, 61, sample.To(6, 1), sample.To(8, 0), api.Join{})
			b.Points = append(b.Points, api.Point{Id: 61, Section: 7})
		}, together(two, these(l{12}, l{60, 61}, l{12}, nil))},
	}
}

// unpointed takes the point out of section 12 of b.
func unpointed(_, b *api.Plan) {
	b.Sections[11].Point, b.Sections[11].Ends = 0, b.Sections[11].Ends[:2]
	b.Points = b.Points[:5]
	b.Signals[9].End = 1
}

// moved lays the point of section 12 of b into 11.
func moved(a, b *api.Plan) {
	unpointed(a, b)
	b.Sections[10].Point, b.Sections[10].Ends = 60, append(b.Sections[10].Ends, api.Join{})
	b.Points = append(b.Points, api.Point{Id: 60, Section: 11})
}

// signalTurns answers changes of signals.
func signalTurns() map[string]turn {
	return map[string]turn{
		"used by no route":                  {func(a, b *api.Plan) { b.Signals[9].End = 1 }, these(nil, nil, l{12}, nil)},
		"in a path, used by no route":       {func(a, b *api.Plan) { b.Signals[6].End = 1 }, these(nil, nil, l{8}, nil)},
		"in an overlap, used by no route":   {func(a, b *api.Plan) { b.Signals[3].Section, b.Signals[3].End = 5, 0 }, these(nil, nil, l{5}, nil)},
		"of a route's number":               {func(a, b *api.Plan) { b.Signals[8].End = 1 }, these(nil, nil, l{10}, nil)},
		"an entry":                          {func(a, b *api.Plan) { b.Signals[0].End = 0 }, one},
		"an exit":                           {func(a, b *api.Plan) { b.Signals[1].End = 0 }, one},
		"an entry, and an exit":             {func(a, b *api.Plan) { b.Signals[5].Section, b.Signals[5].End = 11, 0 }, together(two, ten)},
		"an entry, and an exit, some later": {func(a, b *api.Plan) { a.Routes = a.Routes[:1]; b.Signals[5].Section = 11 }, together(two, ten)},
		"one more":                          {func(a, b *api.Plan) { b.Signals[9].Id = 13 }, these(nil, nil, l{12, 13}, nil)},
		"one less":                          {func(a, b *api.Plan) { b.Signals = b.Signals[:9] }, these(nil, nil, l{12}, nil)},
		"some less":                         {func(a, b *api.Plan) { b.Signals = slices.Delete(b.Signals, 6, 9) }, these(nil, nil, l{8, 9, 10}, nil)},
		"an entry's number":                 {func(a, b *api.Plan) { b.Signals[0].Id, b.Routes[0].Entry = 2, 2 }, together(one, these(nil, nil, l{2}, nil))},
		"an exit's number":                  {func(a, b *api.Plan) { b.Signals[1].Id, b.Routes[0].Exit = 2, 2 }, together(one, these(nil, nil, l{2}, nil))},
		"two trade, neither of them used":   {func(a, b *api.Plan) { b.Signals[6].Section, b.Signals[7].Section = 7, 8 }, these(nil, nil, l{8, 9}, nil)},
	}
}

// routeTurns answers changes of routes.
func routeTurns() map[string]turn {
	return map[string]turn{
		"timer":               {func(a, b *api.Plan) { b.Routes[0].Timer = 3 }, one},
		"timer, no overlap":   {func(a, b *api.Plan) { b.Routes[1].Timer = 3 }, two},
		"timer, no exit":      {func(a, b *api.Plan) { b.Routes[2].Timer = 3 }, ten},
		"entry":               {func(a, b *api.Plan) { b.Routes[1].Entry = 4 }, together(two, these(nil, nil, l{4}, nil))},
		"exit":                {func(a, b *api.Plan) { b.Routes[1].Exit = 12 }, together(two, these(nil, nil, l{12}, nil))},
		"no exit":             {func(a, b *api.Plan) { b.Routes[1].Exit = 0 }, two},
		"no exit, no overlap": {func(a, b *api.Plan) { b.Routes[0].Exit, b.Routes[0].Over = 0, nil }, one},
		"an exit":             {func(a, b *api.Plan) { b.Routes[2].Exit = 12 }, together(ten, these(nil, nil, l{12}, nil))},
		"an exit, an overlap": {func(a, b *api.Plan) { b.Routes[2].Exit, b.Routes[2].Over = 12, l{11, 12} }, together(ten, these(l{11, 12}, l{60}, l{12}, nil))},
		"path":                {func(a, b *api.Plan) { b.Routes[0].Path[1] = 4 }, together(one, these(l{4}, nil, nil, nil))},
		"the path's order":    {func(a, b *api.Plan) { b.Routes[0].Path = l{3, 2} }, one},
		"a shorter path":      {func(a, b *api.Plan) { b.Routes[2].Path = l{8} }, ten},
		"a longer path":       {func(a, b *api.Plan) { b.Routes[1].Path = l{7, 8} }, together(two, these(l{8}, l{10}, nil, nil))},
		"overlap":             {func(a, b *api.Plan) { b.Routes[0].Over[1] = 12 }, together(one, these(l{12}, l{60}, nil, nil))},
		"a longer overlap":    {func(a, b *api.Plan) { b.Routes[1].Over = l{8} }, together(two, these(l{8}, l{10}, nil, nil))},
		"no overlap":          {func(a, b *api.Plan) { b.Routes[0].Over = nil }, one},
		"a flank's lie":       {func(a, b *api.Plan) { b.Routes[0].Flanks[1].Lie = 1 }, one},
		"a flank's point":     {func(a, b *api.Plan) { b.Routes[0].Flanks[1].Point = 60 }, together(one, these(l{12}, l{60}, nil, nil))},
		"a flank more":        {func(a, b *api.Plan) { b.Routes[1].Flanks = []api.Flank{{Point: 60, Lie: 2}} }, together(two, these(l{12}, l{60}, nil, nil))},
		"no flank":            {func(a, b *api.Plan) { b.Routes[0].Flanks = nil }, one},
		"a flank in its path": {func(a, b *api.Plan) { b.Routes[2].Flanks = []api.Flank{{Point: 10, Lie: 2}} }, ten},
		"its number":          {func(a, b *api.Plan) { b.Routes[1].Id = 3 }, together(two, these(nil, nil, nil, l{3}))},
		"one more": {func(a, b *api.Plan) {
			b.Routes = slices.Insert(b.Routes, 2, api.Route{Id: 3, Entry: 5, Path: l{5, 4}, Timer: 1})
		}, these(l{4, 5}, l{20}, l{5}, l{3})},
		"the first one less": {func(a, b *api.Plan) { b.Routes = b.Routes[1:] }, one},
		"the next one less":  {func(a, b *api.Plan) { b.Routes = slices.Delete(b.Routes, 1, 2) }, two},
		"the last one less":  {func(a, b *api.Plan) { b.Routes = b.Routes[:2] }, ten},
		"none at all":        {func(a, b *api.Plan) { b.Routes = nil }, together(one, two, ten)},
		"two trade": {func(a, b *api.Plan) {
			b.Routes[0], b.Routes[1] = b.Routes[1], b.Routes[0]
			b.Routes[0].Id, b.Routes[1].Id = 1, 2
		}, together(one, two)},
		"another one in its place": {func(a, b *api.Plan) {
			b.Routes[1] = api.Route{Id: 2, Entry: 12, Path: l{11}, Timer: 1}
		}, together(two, these(l{11}, nil, l{12}, nil))},
	}
}

// severalTurns answers changes of several elements.
func severalTurns() map[string]turn {
	every := together(one, two, ten, these(l{1, 4, 11, 12}, l{60}, l{4, 5, 8, 9, 10, 12}, nil))
	return map[string]turn{
		"all":              {func(a, b *api.Plan) { *b = api.Plan{Version: 1} }, every},
		"all but sections": {func(a, b *api.Plan) { b.Signals, b.Routes = nil, nil }, together(one, two, ten, these(nil, nil, l{4, 5, 8, 9, 10, 12}, nil))},
		"two used, two not": {func(a, b *api.Plan) {
			b.Routes[1].Timer, b.Signals[0].End, b.Signals[6].End, b.Signals[7].Section = 9, 0, 1, 11
		}, together(one, two, these(nil, nil, l{8, 9}, nil))},
		"one of each kind more, but points": {func(a, b *api.Plan) {
			b.Sections = append(b.Sections, sample.Bare(50, api.Join{}, api.Join{}))
			b.Signals[9].Id = 50
			b.Routes = append(b.Routes, api.Route{Id: 50, Entry: 1, Path: l{50}, Timer: 1})
		}, these(l{50}, nil, l{1, 12, 50}, l{50})},
	}
}

// some answers plans that may be, told and made by chance, each by a name.
func some() map[string]api.Plan {
	return sample.Some(rand.New(rand.NewSource(14)).Intn)
}
