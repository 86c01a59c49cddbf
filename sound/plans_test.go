package sound_test

import (
	"fmt"
	"math"
	"math/rand"

	"leverframe/api"
	"leverframe/sample"
)

// far are numbers that are no route's.
var far = []int{math.MinInt, math.MinInt + 1, -1 << 32, -9, -1, 0, 100, 256 + 1, 1 << 31, 1<<32 + 1, 1<<32 + 9, math.MaxInt - 1, math.MaxInt}

// one is a plan, and a route of number 1 in it alone.
type one struct {
	plan api.Plan
	r    api.Route
}

// in answers a yard in which signal 9 stands at that end (of no section: where it is), with a route of number 1.
func in(section, end int, entry, exit int, path, over []int, flanks ...api.Flank) one {
	p := sample.Yard()
	if section != 0 {
		p = sample.Moved(p, map[int]api.Join{9: sample.To(section, end)})
	}
	return one{p, api.Route{Entry: entry, Exit: exit, Path: path, Over: over, Flanks: flanks, Timer: 1}}
}

// has answers the plan with the route.
func (x one) has() api.Plan {
	return sample.Having(x.plan, x.r)
}

// flank answers a flank.
func flank(point, lie int) api.Flank {
	return api.Flank{Point: point, Lie: lie}
}

// sounds answers routes that are sound, each by a name.
func sounds() map[string]one {
	return map[string]one{
		"an exit":                   in(0, 0, 1, 3, []int{2, 3}, nil),
		"an exit and an overlap":    in(0, 0, 1, 4, []int{2, 4}, []int{5}),
		"an overlap of two":         in(0, 0, 1, 3, []int{2, 3}, []int{5, 6}),
		"one section":               in(0, 0, 6, 7, []int{7}, nil),
		"no exit":                   in(0, 0, 10, 0, []int{11, 12}, nil),
		"no exit, to the left":      in(0, 0, 5, 0, []int{5, 3, 2, 1}, nil),
		"no exit, a leg":            in(0, 0, 7, 0, []int{8, 9, 10}, nil),
		"an exit at the leg beside": in(0, 0, 7, 10, []int{8, 9, 10}, nil),
		"an exit at an end that leads to nothing":    in(0, 0, 10, 12, []int{11, 12}, nil),
		"a flank elsewhere":                          in(0, 0, 1, 3, []int{2, 3}, nil, flank(10, 1)),
		"a flank elsewhere, the other way":           in(0, 0, 1, 3, []int{2, 3}, nil, flank(10, 2)),
		"three flanks elsewhere":                     in(0, 0, 1, 3, []int{2, 3}, nil, flank(10, 1), flank(20, 2), flank(40, 2)),
		"a flank right behind the path":              in(0, 0, 1, 3, []int{2, 3}, nil, flank(20, 2)),
		"a flank right behind the overlap":           in(0, 0, 6, 7, []int{7}, []int{8}, flank(40, 1)),
		"a flank at the overlap's toe":               in(0, 0, 6, 7, []int{7}, []int{8}, flank(10, 2)),
		"a flank at the toe of an overlap of two":    in(0, 0, 3, 6, []int{5, 6}, []int{7, 8}, flank(10, 1)),
		"a flank where the entry stands":             in(9, 0, 9, 0, []int{10}, nil, flank(40, 1)),
		"a signal at the out of the overlap's first": in(5, 0, 1, 3, []int{2, 3}, []int{5, 6}),
		"a signal at an end of the overlap's last":   in(0, 0, 1, 3, []int{2, 3}, []int{5, 6}),
		"a signal at a leg of the overlap's last":    in(8, 1, 6, 7, []int{7}, []int{8}),
		"a signal at the in of the first one":        in(2, 0, 1, 3, []int{2, 3}, nil),
		"a signal at the other leg":                  in(2, 2, 1, 3, []int{2, 3}, nil),
		"a signal at the in of the last one":         in(3, 0, 1, 3, []int{2, 3}, nil),
		"a signal at the other leg, no exit":         in(0, 0, 10, 0, []int{11, 12}, nil),
		"a signal at the leg beside, on the way":     in(8, 2, 7, 10, []int{8, 9, 10}, nil),
		"a signal at the leg by which one comes in":  in(9, 1, 7, 10, []int{8, 9, 10}, nil),
		"a signal at the in, on the way":             in(0, 0, 5, 0, []int{5, 4, 2, 1}, nil),
		"a signal elsewhere":                         in(12, 0, 1, 3, []int{2, 3}, []int{5}),
	}
}

// odds answers routes that are not sound, though their sections hang together, each by a name.
func odds() map[string]one {
	return map[string]one{
		"a flank in the first one, for the same lie":     in(0, 0, 1, 3, []int{2, 3}, nil, flank(30, 1)),
		"a flank in the first one, for the other one":    in(0, 0, 1, 3, []int{2, 3}, nil, flank(30, 2)),
		"a flank on the way, for the same lie":           in(0, 0, 5, 0, []int{5, 4, 2, 1}, nil, flank(30, 2)),
		"a flank on the way, for the other one":          in(0, 0, 5, 0, []int{5, 4, 2, 1}, nil, flank(30, 1)),
		"a flank in the last one, for the same lie":      in(0, 0, 10, 12, []int{11, 12}, nil, flank(60, 2)),
		"a flank in the last one, for the other one":     in(0, 0, 10, 12, []int{11, 12}, nil, flank(60, 1)),
		"a flank in the last one, no exit":               in(0, 0, 10, 0, []int{11, 12}, nil, flank(60, 1)),
		"a flank in the overlap, for the same lie":       in(0, 0, 1, 4, []int{2, 4}, []int{5}, flank(20, 2)),
		"a flank in the overlap, for the other one":      in(0, 0, 1, 4, []int{2, 4}, []int{5}, flank(20, 1)),
		"a flank in the overlap's first one":             in(0, 0, 1, 3, []int{2, 3}, []int{5, 6}, flank(20, 1)),
		"a flank in the overlap's first one, otherwise":  in(0, 0, 1, 3, []int{2, 3}, []int{5, 6}, flank(20, 2)),
		"a flank at the toe of the overlap's first one":  in(0, 0, 6, 7, []int{7}, []int{8, 9}, flank(10, 1)),
		"a flank in the overlap's last one":              in(0, 0, 6, 7, []int{7}, []int{8, 9}, flank(40, 1)),
		"a flank in the overlap's last one, otherwise":   in(0, 0, 6, 7, []int{7}, []int{8, 9}, flank(40, 2)),
		"the last one of three flanks":                   in(0, 0, 1, 3, []int{2, 3}, nil, flank(10, 1), flank(20, 1), flank(30, 1)),
		"the second one of three flanks":                 in(0, 0, 1, 3, []int{2, 3}, []int{5}, flank(10, 1), flank(20, 1), flank(40, 1)),
		"the first one of three flanks":                  in(0, 0, 7, 10, []int{8, 9, 10}, nil, flank(10, 1), flank(20, 1), flank(60, 1)),
		"a signal at the first out":                      in(2, 1, 1, 3, []int{2, 3}, nil),
		"a signal at the first out, an overlap":          in(2, 1, 1, 3, []int{2, 3}, []int{5}),
		"a signal at the first out, no exit":             in(11, 1, 10, 0, []int{11, 12}, nil),
		"a signal at the first out, a leg":               in(8, 1, 7, 10, []int{8, 9, 10}, nil),
		"a signal on the way":                            in(9, 0, 7, 10, []int{8, 9, 10}, nil),
		"a signal on the way, no exit":                   in(4, 0, 5, 0, []int{5, 4, 2, 1}, nil),
		"a signal at the toe on the way":                 in(2, 0, 5, 0, []int{5, 3, 2, 1}, nil),
		"a signal at the last out, no exit":              in(12, 1, 10, 0, []int{11, 12}, nil),
		"a signal at the out of the only one, no exit":   in(12, 1, 10, 0, []int{11, 12}, nil).from(11, 1, []int{12}),
		"a signal of six sections on the way":            in(0, 0, 6, 0, []int{7, 8, 9, 10, 11, 12}, nil),
		"a signal ahead of the exit":                     in(0, 0, 3, 7, []int{5, 6, 7}, nil),
		"a signal ahead of the exit, and an overlap":     in(0, 0, 3, 7, []int{5, 6, 7}, []int{8}),
		"a signal at the last but one, of six":           in(8, 2, 1, 9, []int{2, 3, 5, 6, 7, 8}, nil),
		"a signal at the exit of another one, and flank": in(0, 0, 3, 7, []int{5, 6, 7}, []int{8}, flank(20, 1)),
	}
}

// from answers x whose entry stands at that end, with that path.
func (x one) from(section, end int, path []int) one {
	x.plan = sample.Moved(x.plan, map[int]api.Join{x.r.Entry: sample.To(section, end)})
	x.r.Path = path
	return x
}

// apart answers routes whose sections do not hang together, each by a name.
func apart() map[string]one {
	return map[string]one{
		"the entry leads elsewhere":          in(0, 0, 1, 3, []int{3}, nil),
		"the entry leads to nothing":         in(0, 0, 12, 0, []int{11}, nil),
		"a gap":                              in(0, 0, 6, 0, []int{7, 8, 10, 11, 12}, nil),
		"a turn":                             in(0, 0, 3, 0, []int{5, 4, 2, 1}, nil),
		"an exit elsewhere":                  in(0, 0, 1, 4, []int{2, 3}, nil),
		"an exit on the way":                 in(0, 0, 1, 3, []int{2, 3, 5, 6}, nil),
		"an exit beside the overlap":         in(0, 0, 1, 3, []int{2, 3}, []int{6}),
		"a gap in the overlap":               in(0, 0, 1, 3, []int{2, 3}, []int{5, 7}),
		"no exit, and all leads on":          in(0, 0, 1, 0, []int{2, 3}, nil),
		"no exit, and a flank in the middle": in(0, 0, 1, 0, []int{2, 3}, nil, flank(10, 1)),
	}
}

// several answers a plan with four routes that are sound.
func several() api.Plan {
	var list []api.Route
	for _, name := range []string{"an exit", "an overlap of two", "no exit, to the left", "three flanks elsewhere"} {
		list = append(list, sounds()[name].r)
	}
	return sample.Having(sample.Yard(), list...)
}

// broken answers plans that may not be, each by a name.
func broken() map[string]api.Plan {
	out := map[string]api.Plan{"no plan": {}}
	for name, change := range map[string]func(p *api.Plan){
		"version 0":                func(p *api.Plan) { p.Version, p.Parent = 0, -1 },
		"a section joined one way": func(p *api.Plan) { p.Sections[5].Ends[1] = api.Join{} },
		"no section":               func(p *api.Plan) { p.Sections = nil },
		"no end":                   func(p *api.Plan) { p.Sections[0].Ends = nil },
		"a point elsewhere":        func(p *api.Plan) { p.Points[0].Section = 9 },
		"no signal":                func(p *api.Plan) { p.Signals = nil },
		"a signal nowhere":         func(p *api.Plan) { p.Signals[0].End = 2 },
		"two signals at one end":   func(p *api.Plan) { p.Signals[1] = p.Signals[0]; p.Signals[1].Id = 2 },
		"no entry":                 func(p *api.Plan) { p.Routes[1].Entry = 0 },
		"an exit that isn't there": func(p *api.Plan) { p.Routes[1].Exit = 99 },
		"an overlap, but no exit":  func(p *api.Plan) { p.Routes[1].Exit = 0 },
		"no path":                  func(p *api.Plan) { p.Routes[1].Path = nil },
		"a section twice":          func(p *api.Plan) { p.Routes[1].Over = []int{5, 5} },
		"a flank of no point":      func(p *api.Plan) { p.Routes[3].Flanks[0].Point = 11 },
		"a flank twice":            func(p *api.Plan) { p.Routes[3].Flanks[1].Point = 10 },
		"timer 10":                 func(p *api.Plan) { p.Routes[1].Timer = 10 },
		"two routes of one number": func(p *api.Plan) { p.Routes[1].Id = 1 },
		"the last one may not be":  func(p *api.Plan) { p.Routes[3].Timer = 0 },
	} {
		p := several()
		change(&p)
		out[name] = p
	}
	return out
}

// some answers plans that may be, told and made by chance.
func some() map[string]api.Plan {
	out := map[string]api.Plan{"station": sample.Station(), "yard": sample.Yard(), "several": several(), "no section": {Version: 1}}
	for kind, list := range map[string]map[string]one{"sound": sounds(), "odd": odds(), "apart": apart()} {
		for name, x := range list {
			out[kind+": "+name] = x.has()
		}
	}
	r := rand.New(rand.NewSource(10))
	for i := range 200 {
		out[fmt.Sprint("grown ", i)] = sample.Grown(r.Intn)
	}
	return out
}
