package conflict_test

import (
	"fmt"
	"math"
	"math/rand"

	"leverframe/api"
	"leverframe/plan"
	"leverframe/sample"
	"leverframe/sound"
)

// far are numbers that are no route's.
var far = []int{math.MinInt, math.MinInt + 1, -1 << 32, -1<<32 + 1, -9, -2, -1, 0, 100, 256 + 1, 256 + 2, 1 << 31, 1<<32 + 1, 1<<32 + 2, math.MaxInt - 1, math.MaxInt}

// pair is two routes, of numbers 1 and 2, and whether they conflict. Some signals stand elsewhere than in the yard.
type pair struct {
	a, b  api.Route
	is    bool
	moved map[int]api.Join
}

// route answers a route without an overlap or flanks.
func route(entry, exit int, path []int) api.Route {
	return api.Route{Entry: entry, Exit: exit, Path: path, Timer: 1}
}

// over answers r with that overlap.
func over(r api.Route, sections ...int) api.Route {
	r.Over = sections
	return r
}

// beside answers r with those flanks, told as point and lie by turns.
func beside(r api.Route, flanks ...int) api.Route {
	r.Flanks = nil
	for i := 0; i < len(flanks); i += 2 {
		r.Flanks = append(r.Flanks, api.Flank{Point: flanks[i], Lie: flanks[i+1]})
	}
	return r
}

// has answers the yard with both routes, in new memory.
func (x pair) has() api.Plan {
	return plan.Twin(sample.Having(sample.Moved(sample.Yard(), x.moved), x.a, x.b))
}

// Routes of the yard. What each asks: in asks 30 for 1, out 30 for 2, on and from 20 for the leg by which they come in, right 10, 40 for 1 and 50 for 2, last 60 for 2.
var (
	in    = route(1, 3, []int{2, 3})
	out   = route(1, 4, []int{2, 4})
	on    = route(3, 6, []int{5, 6})
	from  = route(4, 6, []int{5, 6})
	next  = route(6, 7, []int{7})
	right = route(7, 10, []int{8, 9, 10})
	last  = route(10, 12, []int{11, 12})
	back  = route(8, 9, []int{7})
	home  = route(9, 5, []int{6})
	left  = route(5, 0, []int{5, 4, 2, 1})
)

// apart answers pairs that do not conflict, each by a name.
func apart() map[string]pair {
	return map[string]pair{
		"far from each other":                           {a: in, b: last},
		"without points":                                {a: next, b: home},
		"the entry of one stands in the path's last":    {a: in, b: on},
		"the entry of one stands in the path's only":    {a: next, b: right},
		"the entry of one stands in the path's first":   {a: home, b: left},
		"the entry of one stands in the overlap":        {a: over(on, 7), b: right},
		"the entry of one stands in the overlap's last": {a: over(in, 5, 6), b: next},
		"one behind the other":                          {a: home, b: back},
		"an overlap, and far":                           {a: over(in, 5), b: over(next, 8)},
		"two overlaps of two, and far":                  {a: over(in, 5, 6), b: over(next, 8, 9)},
		"a point in the path, and a flank so":           {a: in, b: beside(next, 30, 1)},
		"a point in the path, and a flank so, Reverse":  {a: out, b: beside(next, 30, 2)},
		"a point in the path's last, and a flank so":    {a: last, b: beside(in, 60, 2)},
		"a point in the overlap, and a flank so":        {a: over(in, 5), b: beside(next, 20, 1)},
		"a point in the overlap, Reverse":               {a: over(out, 5), b: beside(next, 20, 2)},
		"a point in the overlap's first, at the toe":    {a: over(next, 8, 9), b: beside(in, 10, 1)},
		"a point in the overlap's last":                 {a: over(next, 8, 9), b: beside(in, 40, 1)},
		"the overlap's last is come into at the toe":    {a: over(next, 8), b: beside(in, 10, 1)},
		"the same, for the other lie":                   {a: over(next, 8), b: beside(in, 10, 2)},
		"the flank's section is of the path":            {a: beside(in, 20, 1), b: on},
		"both flanks for one lie":                       {a: beside(in, 10, 1), b: beside(last, 10, 1)},
		"both flanks for one lie, Reverse":              {a: beside(in, 10, 2), b: beside(last, 10, 2)},
		"three flanks, all for one lie":                 {a: beside(in, 10, 1, 40, 2, 50, 1), b: beside(next, 10, 1, 40, 2, 50, 1)},
		"unlike flanks for unlike lies":                 {a: beside(in, 10, 1, 40, 1), b: beside(next, 20, 2, 50, 2)},
	}
}

// crossing answers pairs that conflict, each by a name.
func crossing() map[string]pair {
	return map[string]pair{
		"of one entry":                                    {a: in, b: out},
		"of one entry, the same":                          {a: in, b: in},
		"of one entry, one section":                       {a: next, b: next},
		"of one entry, unlike overlaps":                   {a: over(in, 5), b: over(in, 5, 6)},
		"of one exit":                                     {a: on, b: from},
		"the only one of both, the other way":             {a: next, b: back},
		"the last of one, the only of the other":          {a: on, b: home},
		"the first of one, the last but one":              {a: in, b: left},
		"the last of one, the second":                     {a: out, b: left},
		"the only of one, the second of the other":        {a: route(4, 3, []int{3}), b: route(5, 0, []int{5, 3, 2, 1}), moved: map[int]api.Join{4: {To: 2, End: 1}}},
		"the last of six, the last of two":                {a: route(1, 7, []int{2, 3, 5, 6, 7, 8}), b: route(12, 8, []int{9, 8}), moved: map[int]api.Join{3: {To: 3}, 6: {To: 4}, 7: {To: 8, End: 1}, 12: {To: 10}}},
		"the path's only, and the overlap's only":         {a: next, b: over(on, 7)},
		"the path's last, and the overlap's last":         {a: on, b: over(in, 5, 6)},
		"the path's only, and the overlap's last":         {a: home, b: over(in, 5, 6)},
		"the path's first, and the overlap's first":       {a: on, b: over(in, 5)},
		"the path's first, and the overlap at the toe":    {a: right, b: over(next, 8)},
		"the path's last, and the overlap's only":         {a: on, b: over(back, 6)},
		"the overlaps' only ones":                         {a: over(on, 7), b: over(route(12, 8, []int{9, 8}), 7), moved: map[int]api.Join{12: {To: 10}}},
		"the overlaps' only ones, come into by both ends": {a: over(next, 8), b: over(route(12, 4, []int{9}), 8), moved: map[int]api.Join{12: {To: 10}, 4: {To: 9, End: 1}}},
		"the first of two, and the last of two":           {a: over(in, 5, 6), b: over(back, 6, 5)},
		"the last of two, and the only one":               {a: over(in, 5, 6), b: over(back, 6)},
		"a point in the path, and a flank":                {a: in, b: beside(next, 30, 2)},
		"a point in the path, Reverse, and a flank":       {a: out, b: beside(next, 30, 1)},
		"a point in the path's last, and a flank":         {a: last, b: beside(in, 60, 1)},
		"a point in the overlap, and a flank":             {a: over(in, 5), b: beside(next, 20, 2)},
		"a point in the overlap, Reverse, and a flank":    {a: over(out, 5), b: beside(next, 20, 1)},
		"a point in the overlap's first, and a flank":     {a: over(next, 8, 9), b: beside(in, 10, 2)},
		"a point in the overlap's last, and a flank":      {a: over(next, 8, 9), b: beside(in, 40, 2)},
		"the flank's section is the path's first":         {a: beside(in, 20, 2), b: on},
		"both flanks":                             {a: beside(in, 10, 1), b: beside(last, 10, 2)},
		"the last of three flanks":                {a: beside(in, 10, 1, 40, 2, 50, 1), b: beside(next, 10, 1, 40, 2, 50, 2)},
		"the first of three flanks":               {a: beside(in, 10, 1, 40, 2, 50, 1), b: beside(next, 10, 2, 40, 2, 50, 1)},
		"the first of one, the last of the other": {a: beside(in, 50, 1), b: beside(next, 10, 1, 40, 1, 50, 2)},
		"two flanks, and two points in the path":  {a: beside(in, 10, 1, 40, 2), b: right},
	}
}

// told answers both kinds of pairs, each by a name.
func told() map[string]pair {
	list := map[string]pair{}
	for name, x := range apart() {
		list["apart: "+name] = x
	}
	for name, x := range crossing() {
		x.is = true
		list["crossing: "+name] = x
	}
	return list
}

// several answers a plan of six routes, whose numbers do not stand one behind the other, and its pairs that conflict.
func several() (api.Plan, [][2]int) {
	p := plan.Twin(sample.Having(sample.Yard(), over(in, 5), out, beside(next, 30, 2, 60, 1), right, left, last))
	for i, id := range []int{2, 7, 30, 31, 98, 99} {
		p.Routes[i].Id = id
	}
	return p, [][2]int{{2, 7}, {2, 30}, {2, 98}, {7, 98}, {30, 99}}
}

// odd answers plans that may not be, or are not sound, each by a name.
func odd() map[string]api.Plan {
	list := map[string]api.Plan{"no plan": {}}
	for name, change := range map[string]func(p *api.Plan){
		"version 0":                 func(p *api.Plan) { p.Version, p.Parent = 0, -1 },
		"a section joined one way":  func(p *api.Plan) { p.Sections[5].Ends[1] = api.Join{} },
		"no section":                func(p *api.Plan) { p.Sections = nil },
		"no signal":                 func(p *api.Plan) { p.Signals = nil },
		"a path's section nowhere":  func(p *api.Plan) { p.Routes[2].Path = []int{77} },
		"routes that do not rise":   func(p *api.Plan) { p.Routes[0], p.Routes[1] = p.Routes[1], p.Routes[0] },
		"two routes of one number":  func(p *api.Plan) { p.Routes[1].Id = p.Routes[0].Id },
		"a route beyond all":        func(p *api.Plan) { p.Routes[5].Id = 100 },
		"the last one's timer":      func(p *api.Plan) { p.Routes[5].Timer = 10 },
		"the first one is apart":    func(p *api.Plan) { p.Routes[0].Path = []int{3} },
		"the last one is apart":     func(p *api.Plan) { p.Routes[5].Path = []int{12} },
		"the first one asks twice":  func(p *api.Plan) { p.Routes[0] = beside(p.Routes[0], 30, 1) },
		"the last one asks twice":   func(p *api.Plan) { p.Routes[5] = beside(p.Routes[5], 60, 1) },
		"a signal on the third way": func(p *api.Plan) { *p = sample.Moved(*p, map[int]api.Join{9: sample.To(2, 1)}) },
	} {
		p, _ := several()
		change(&p)
		list[name] = p
	}
	return list
}

// some answers sound plans, told and made by chance; the latter's routes are those that are sound.
func some() map[string]api.Plan {
	all, _ := several()
	list := map[string]api.Plan{"station": sample.Station(), "yard": sample.Yard(), "several": all, "no section": {Version: 1}}
	for name, x := range told() {
		list[name] = x.has()
	}
	r := rand.New(rand.NewSource(11))
	for i := range 300 {
		p := sample.Grown(r.Intn)
		var routes []api.Route
		for _, x := range p.Routes {
			if sound.Route(p, x.Id) == api.OK {
				routes = append(routes, x)
			}
		}
		p.Routes = routes
		list[fmt.Sprint("grown ", i)] = p
	}
	return list
}
