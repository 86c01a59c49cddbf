package way_test

import (
	"fmt"
	"math"
	"math/rand"
	"reflect"
	"slices"

	"leverframe/api"
	"leverframe/sample"
)

// far are numbers that are no route's.
var far = []int{math.MinInt, math.MinInt + 1, -1 << 32, -9, -1, 0, 100, 256 + 1, 1 << 31, 1<<32 + 1, 1<<32 + 9, math.MaxInt - 1, math.MaxInt}

var nothing = api.Join{}

// What the tables are told by.
var (
	bare    = sample.Bare
	pointed = sample.Pointed
	to      = sample.To
	yard    = sample.Yard
	moved   = sample.Moved
	having  = sample.Having
	endOf   = sample.End
	join    = sample.Tie
)

// ask answers what is asked of a point.
func ask(point, lie, at int) api.Ask {
	return api.Ask{Point: point, Lie: lie, At: at}
}

// example answers the chapter's plan.
func example() api.Plan {
	p := sample.Example()
	p.Signals = append(p.Signals, api.Signal{Id: 6, Section: 3, End: 1})
	p.Routes = append(p.Routes, api.Route{Id: 9, Entry: 4, Exit: 6, Path: []int{2, 3}, Timer: 1})
	return p
}

// fork answers a plan without routes: both legs of 2 lead into 3, the first one to a leg of it, the other one to its toe; a leg of 3 leads on to 4, and the legs of 5 to each other.
func fork() api.Plan {
	return api.Plan{
		Version: 1,
		Sections: []api.Section{
			bare(1, nothing, to(2, 0)), pointed(2, 1, to(1, 1), to(3, 1), to(3, 0)), pointed(3, 2, to(2, 2), to(2, 1), to(4, 0)), bare(4, to(3, 2), to(5, 0)), pointed(5, 3, to(4, 1), to(5, 2), to(5, 1)),
		},
		Points:  []api.Point{{Id: 1, Section: 2}, {Id: 2, Section: 3}, {Id: 3, Section: 5}},
		Signals: []api.Signal{{Id: 1, Section: 1, End: 1}, {Id: 2, Section: 2, End: 2}, {Id: 4, Section: 4, End: 1}, {Id: 5, Section: 5, End: 1}},
	}
}

// route answers a route of number 1.
func route(entry, exit int, path, over []int, flanks ...api.Flank) api.Route {
	return api.Route{Id: 1, Entry: entry, Exit: exit, Path: path, Over: over, Flanks: flanks, Timer: 1}
}

// right is a route of a plan whose sections hang together, and what it comes to.
type right struct {
	plan api.Plan
	r    api.Route
	asks []api.Ask
	near int
	outs []api.Join
}

// rights answers such routes, each by a name.
func rights() map[string]right {
	return map[string]right{
		"an exit":                       {yard(), route(1, 3, []int{2, 3}, nil), []api.Ask{ask(30, 1, 0)}, 1, []api.Join{to(2, 1), to(3, 1)}},
		"an overlap entered at a leg":   {yard(), route(1, 3, []int{2, 3}, []int{5}), []api.Ask{ask(30, 1, 0), ask(20, 1, 2)}, 1, []api.Join{to(2, 1), to(3, 1)}},
		"one entered at the other leg":  {yard(), route(1, 4, []int{2, 4}, []int{5}), []api.Ask{ask(30, 2, 0), ask(20, 2, 2)}, 1, []api.Join{to(2, 2), to(4, 1)}},
		"an overlap of two":             {yard(), route(1, 4, []int{2, 4}, []int{5, 6}), []api.Ask{ask(30, 2, 0), ask(20, 2, 2)}, 1, []api.Join{to(2, 2), to(4, 1), to(5, 0)}},
		"an overlap that ends at a toe": {yard(), route(3, 6, []int{5, 6}, []int{7, 8}), []api.Ask{ask(20, 1, 0)}, 3, []api.Join{to(5, 0), to(6, 1), to(7, 1)}},
		"an overlap of a toe":           {yard(), route(6, 7, []int{7}, []int{8}), nil, 6, []api.Join{to(7, 1)}},
		"two points in the overlap":     {yard(), route(6, 7, []int{7}, []int{8, 9}), []api.Ask{ask(10, 1, 1), ask(40, 1, 2)}, 6, []api.Join{to(7, 1), to(8, 1)}},
		"to the left":                   {yard(), route(5, 0, []int{5, 3, 2, 1}, nil), []api.Ask{ask(20, 1, 0), ask(30, 1, 2)}, 6, []api.Join{to(5, 1), to(3, 0), to(2, 0), to(1, 0)}},
		"the other way":                 {yard(), route(5, 0, []int{5, 4, 2, 1}, nil), []api.Ask{ask(20, 2, 0), ask(30, 2, 2)}, 6, []api.Join{to(5, 2), to(4, 0), to(2, 0), to(1, 0)}},
		"an end that leads to nothing":  {yard(), route(7, 0, []int{8, 9, 10}, nil), []api.Ask{ask(10, 1, 0), ask(40, 1, 1), ask(50, 1, 2)}, 7, []api.Join{to(8, 1), to(9, 0), to(10, 1)}},
		"an exit beside it":             {yard(), route(7, 10, []int{8, 9, 10}, nil), []api.Ask{ask(10, 1, 0), ask(40, 1, 1), ask(50, 2, 2)}, 7, []api.Join{to(8, 1), to(9, 0), to(10, 2)}},
		"an exit beside it, an overlap": {yard(), route(7, 10, []int{8, 9, 10}, []int{11, 12}), []api.Ask{ask(10, 1, 0), ask(40, 1, 1), ask(50, 2, 2)}, 7, []api.Join{to(8, 1), to(9, 0), to(10, 2), to(11, 1)}},
		"two ends that lead to nothing": {yard(), route(10, 0, []int{11, 12}, nil), []api.Ask{ask(60, 1, 1)}, 10, []api.Join{to(11, 1), to(12, 1)}},
		"an exit that leads to nothing": {yard(), route(10, 12, []int{11, 12}, nil), []api.Ask{ask(60, 2, 1)}, 10, []api.Join{to(11, 1), to(12, 2)}},
		"six sections":                  {yard(), route(6, 0, []int{7, 8, 9, 10, 11, 12}, nil), []api.Ask{ask(10, 1, 1), ask(40, 1, 2), ask(50, 2, 3), ask(60, 1, 5)}, 6, []api.Join{to(7, 1), to(8, 1), to(9, 0), to(10, 2), to(11, 1), to(12, 1)}},
		"one section":                   {moved(yard(), map[int]api.Join{3: to(2, 0)}), route(3, 0, []int{1}, nil), nil, 2, []api.Join{to(1, 0)}},
		"one section with a point":      {moved(yard(), map[int]api.Join{3: to(11, 1)}), route(3, 0, []int{12}, nil), []api.Ask{ask(60, 1, 0)}, 11, []api.Join{to(12, 1)}},
		"an entry at a toe":             {yard(), route(8, 9, []int{7}, []int{6, 5}), nil, 8, []api.Join{to(7, 0), to(6, 0)}},
		"an entry at a leg":             {moved(yard(), map[int]api.Join{3: to(9, 2)}), route(3, 9, []int{8, 7}, nil), []api.Ask{ask(10, 2, 0)}, 9, []api.Join{to(8, 0), to(7, 0)}},
		"flanks":                        {yard(), route(6, 7, []int{7}, nil, api.Flank{Point: 10, Lie: 2}, api.Flank{Point: 20, Lie: 1}, api.Flank{Point: 60, Lie: 2}), []api.Ask{ask(10, 2, -1), ask(20, 1, -1), ask(60, 2, -1)}, 6, []api.Join{to(7, 1)}},
		"a flank in the path":           {yard(), route(1, 3, []int{2, 3}, []int{5}, api.Flank{Point: 10, Lie: 1}, api.Flank{Point: 20, Lie: 2}, api.Flank{Point: 30, Lie: 1}), []api.Ask{ask(30, 1, 0), ask(20, 1, 2), ask(10, 1, -1), ask(20, 2, -1), ask(30, 1, -1)}, 1, []api.Join{to(2, 1), to(3, 1)}},
		"a flank at the overlap's toe":  {yard(), route(6, 7, []int{7}, []int{8}, api.Flank{Point: 10, Lie: 2}), []api.Ask{ask(10, 2, -1)}, 6, []api.Join{to(7, 1)}},
		"six, an overlap, an exit at 2": {moved(yard(), map[int]api.Join{9: to(8, 2)}), route(1, 9, []int{2, 3, 5, 6, 7, 8}, []int{9, 10}), []api.Ask{ask(30, 1, 0), ask(20, 1, 2), ask(10, 2, 5), ask(40, 2, 6)}, 1, []api.Join{to(2, 1), to(3, 1), to(5, 0), to(6, 1), to(7, 1), to(8, 2), to(9, 0)}},
		"an overlap of a leg, of six":   {moved(yard(), map[int]api.Join{9: to(8, 1)}), route(1, 9, []int{2, 3, 5, 6, 7, 8}, []int{9}), []api.Ask{ask(30, 1, 0), ask(20, 1, 2), ask(10, 1, 5), ask(40, 1, 6)}, 1, []api.Join{to(2, 1), to(3, 1), to(5, 0), to(6, 1), to(7, 1), to(8, 1)}},
		"the least of two ends":         {moved(fork(), map[int]api.Join{5: to(3, 0)}), route(1, 5, []int{2, 3}, nil), []api.Ask{ask(1, 1, 0), ask(2, 1, 1)}, 1, []api.Join{to(2, 1), to(3, 0)}},
		"the greater one by the exit":   {fork(), route(1, 2, []int{2}, []int{3, 4}), []api.Ask{ask(1, 2, 0), ask(2, 2, 1)}, 1, []api.Join{to(2, 2), to(3, 2)}},
		"the greater one, to a toe":     {fork(), route(1, 2, []int{2}, []int{3}), []api.Ask{ask(1, 2, 0)}, 1, []api.Join{to(2, 2)}},
		"an exit that leads back home":  {fork(), route(4, 5, []int{5}, nil), []api.Ask{ask(3, 1, 0)}, 4, []api.Join{to(5, 1)}},
		"a toe, entered from a leg":     {fork(), route(2, 4, []int{3, 4}, []int{5}), []api.Ask{ask(2, 2, 0)}, 2, []api.Join{to(3, 2), to(4, 1)}},
	}
}

// wrong is a route of a plan that may be, whose sections do not hang together.
type wrong struct {
	plan api.Plan
	r    api.Route
}

// wrongs answers such routes, each by a name.
func wrongs() map[string]wrong {
	return map[string]wrong{
		"the entry leads elsewhere":               {yard(), route(1, 3, []int{3}, nil)},
		"the entry leads behind the first one":    {yard(), route(1, 3, []int{3, 2}, nil)},
		"the entry leads the other way":           {moved(yard(), map[int]api.Join{4: to(3, 0)}), route(4, 0, []int{5, 6, 7}, nil)},
		"the entry leads to nothing":              {moved(yard(), map[int]api.Join{1: to(1, 0)}), route(1, 3, []int{2, 3}, nil)},
		"the entry leads home":                    {fork(), route(5, 0, []int{4}, nil)},
		"an entry at a leg that leads to nothing": {moved(yard(), map[int]api.Join{1: to(12, 1)}), route(1, 0, []int{11}, nil)},
		"a gap behind the first one":              {yard(), route(1, 3, []int{2, 5, 3}, nil)},
		"a gap on the way":                        {yard(), route(6, 0, []int{7, 8, 10, 11, 12}, nil)},
		"a gap at the end":                        {yard(), route(6, 0, []int{7, 8, 9, 12}, nil)},
		"a turn":                                  {yard(), route(1, 4, []int{2, 3, 4}, nil)},
		"a path that is turned round":             {yard(), route(6, 0, []int{12, 11, 10, 9, 8, 7}, nil)},
		"from leg to leg":                         {yard(), route(3, 0, []int{5, 4, 2, 1}, nil)},
		"from leg to leg on the way":              {yard(), route(1, 0, []int{2, 3, 5, 4}, nil)},
		"from leg to leg, to the exit":            {moved(yard(), map[int]api.Join{9: to(4, 0)}), route(3, 9, []int{5, 4}, nil)},
		"from leg to leg, to nothing":             {moved(yard(), map[int]api.Join{1: to(11, 0)}), route(1, 0, []int{10}, nil)},
		"from leg to leg behind the least end":    {fork(), route(1, 4, []int{2, 3, 4}, nil)},
		"an exit elsewhere":                       {yard(), route(1, 4, []int{2, 3}, nil)},
		"an exit on the way":                      {yard(), route(1, 3, []int{2, 3, 5, 6}, nil)},
		"an exit at the entry's section":          {moved(yard(), map[int]api.Join{9: to(1, 0)}), route(1, 9, []int{2}, nil)},
		"an exit in the overlap":                  {yard(), route(1, 3, []int{2}, []int{3})},
		"an exit behind it":                       {yard(), route(1, 6, []int{2, 3}, []int{5, 6})},
		"an exit at the in":                       {moved(yard(), map[int]api.Join{9: to(3, 0)}), route(1, 9, []int{2, 3}, nil)},
		"an exit at the in, a toe":                {moved(yard(), map[int]api.Join{9: to(2, 0)}), route(1, 9, []int{2}, nil)},
		"an exit at the in, a leg":                {moved(yard(), map[int]api.Join{9: to(5, 1)}), route(3, 9, []int{5}, nil)},
		"an exit at the other leg":                {moved(yard(), map[int]api.Join{9: to(5, 2)}), route(3, 9, []int{5}, nil)},
		"an exit at the other leg, an overlap":    {moved(yard(), map[int]api.Join{9: to(5, 2)}), route(3, 9, []int{5}, []int{4})},
		"an exit that leads beside the overlap":   {yard(), route(1, 3, []int{2, 3}, []int{6})},
		"an exit that leads behind the overlap":   {yard(), route(1, 3, []int{2, 3}, []int{6, 5})},
		"an exit at the leg beside the overlap":   {moved(yard(), map[int]api.Join{9: to(2, 1)}), route(1, 9, []int{2}, []int{4})},
		"an exit to nothing, an overlap":          {yard(), route(10, 12, []int{11, 12}, []int{1})},
		"an exit to nothing beside the overlap":   {moved(yard(), map[int]api.Join{9: to(10, 1)}), route(7, 9, []int{8, 9, 10}, []int{11})},
		"a gap in the overlap":                    {yard(), route(1, 3, []int{2, 3}, []int{5, 7})},
		"a turn in the overlap":                   {yard(), route(1, 3, []int{2, 3}, []int{5, 4})},
		"no exit, and all leads on":               {yard(), route(1, 0, []int{2, 3}, nil)},
		"no exit, and both legs lead on":          {yard(), route(1, 0, []int{2}, nil)},
		"no exit, a signal behind the last one":   {yard(), route(3, 0, []int{5, 6}, nil)},
		"no exit, and the legs lead home":         {fork(), route(4, 0, []int{5}, nil)},
	}
}

// broken answers plans that may not be, each by a name.
func broken() map[string]api.Plan {
	out := map[string]api.Plan{"no plan": {}}
	for name, change := range map[string]func(p *api.Plan){
		"version 0":                func(p *api.Plan) { p.Version, p.Parent = 0, -1 },
		"version 3 of 3":           func(p *api.Plan) { p.Parent = 3 },
		"a section joined one way": func(p *api.Plan) { p.Sections[5].Ends[1] = nothing },
		"no section":               func(p *api.Plan) { p.Sections = nil },
		"an end too many":          func(p *api.Plan) { p.Sections[0].Ends = make([]api.Join, 3) },
		"no end":                   func(p *api.Plan) { p.Sections[0].Ends = nil },
		"a point elsewhere":        func(p *api.Plan) { p.Points[0].Section = 9 },
		"no signal":                func(p *api.Plan) { p.Signals = nil },
		"a signal nowhere":         func(p *api.Plan) { p.Signals[0].End = 2 },
		"a signal below":           func(p *api.Plan) { p.Signals[0].End = -1 },
		"two signals at one end":   func(p *api.Plan) { p.Signals[1] = p.Signals[0]; p.Signals[1].Id = 2 },
		"no entry":                 func(p *api.Plan) { p.Routes[1].Entry = 0 },
		"an exit that isn't there": func(p *api.Plan) { p.Routes[1].Exit = 99 },
		"an overlap, but no exit":  func(p *api.Plan) { p.Routes[1].Exit = 0 },
		"no path":                  func(p *api.Plan) { p.Routes[1].Path = nil },
		"a section of no number":   func(p *api.Plan) { p.Routes[1].Path[1] = 13 },
		"a section twice":          func(p *api.Plan) { p.Routes[1].Over = []int{5, 5} },
		"the entry's section":      func(p *api.Plan) { p.Routes[1].Over = []int{1} },
		"a path of seven":          func(p *api.Plan) { p.Routes[1].Path = []int{2, 3, 5, 6, 7, 8, 9} },
		"an overlap of three":      func(p *api.Plan) { p.Routes[1].Over = []int{5, 6, 7} },
		"a flank of no point":      func(p *api.Plan) { p.Routes[1].Flanks = []api.Flank{{Point: 11, Lie: 1}} },
		"a flank of no lie":        func(p *api.Plan) { p.Routes[1].Flanks = []api.Flank{{Point: 10, Lie: 3}} },
		"timer 10":                 func(p *api.Plan) { p.Routes[1].Timer = 10 },
		"two routes of one number": func(p *api.Plan) { p.Routes[1].Id = 1 },
		"the last one may not be":  func(p *api.Plan) { p.Routes[2].Timer = 0 },
		"17 routes": func(p *api.Plan) {
			p.Routes = having(*p, slices.Repeat(p.Routes[:1], 17)...).Routes
		},
	} {
		p := several()
		change(&p)
		out[name] = p
	}
	return out
}

// several answers a plan with three routes whose sections hang together.
func several() api.Plan {
	return having(yard(), route(1, 3, []int{2, 3}, nil), route(1, 4, []int{2, 4}, []int{5}, api.Flank{Point: 10, Lie: 1}), route(6, 0, []int{7, 8, 9, 10, 11, 12}, nil))
}

// some answers plans that may be, told and made by chance.
func some() map[string]api.Plan {
	out := map[string]api.Plan{"example": example(), "several": several(), "no route": yard(), "no section": {Version: 1}}
	for name, x := range rights() {
		out[name] = having(x.plan, x.r)
	}
	for name, x := range wrongs() {
		out["wrong: "+name] = having(x.plan, x.r)
	}
	r := rand.New(rand.NewSource(9))
	for i := range 100 {
		out[fmt.Sprint("grown ", i)] = sample.Grown(r.Intn)
	}
	return out
}

// comes tells, by the words, what r comes to in p, and its outs, and whether its sections hang together.
func comes(p api.Plan, r api.Route) (w api.Way, outs []api.Join, ok bool) {
	points, signals := map[int]int{}, map[int]api.Join{}
	for _, s := range p.Sections {
		points[s.Id] = s.Point
	}
	for _, s := range p.Signals {
		signals[s.Id] = to(s.Section, s.End)
	}
	w = api.Way{Path: r.Path, Over: r.Over, Near: signals[r.Entry].To}
	in := *endOf(p, signals[r.Entry])
	all := slices.Concat(r.Path, r.Over)
	for i, id := range all {
		if in.To != id {
			return api.Way{}, nil, false
		}
		var lie int
		if i == len(all)-1 && len(r.Over) > 0 {
			lie = map[int]int{0: 0, 1: 1, 2: 2}[in.End]
		} else {
			var ends []int
			for end := range 3 {
				here := to(id, end)
				lead := endOf(p, here)
				if lead == nil || between(points[id], in.End, end) < 0 {
					continue
				}
				is := false
				switch {
				case i < len(all)-1 && i != len(r.Path)-1:
					is = lead.To == all[i+1]
				case r.Exit == 0:
					is = *lead == nothing
				default:
					is = signals[r.Exit] == here && (len(r.Over) == 0 || lead.To == r.Over[0])
				}
				if is {
					ends = append(ends, end)
				}
			}
			if len(ends) == 0 {
				return api.Way{}, nil, false
			}
			out := slices.Min(ends)
			outs = append(outs, to(id, out))
			lie = between(points[id], in.End, out)
			in = *endOf(p, to(id, out))
		}
		if points[id] != 0 && lie != 0 {
			w.Asks = append(w.Asks, ask(points[id], lie, i))
		}
	}
	for _, f := range r.Flanks {
		w.Asks = append(w.Asks, ask(f.Point, f.Lie, -1))
	}
	return w, outs, true
}

// between tells how a section's point lies for the way from one end to another one; 0 without a point; -1, if there is none.
func between(point, from, to int) int {
	switch {
	case from == to:
		return -1
	case point == 0:
		return 0
	case from == 0 || to == 0:
		return from + to
	}
	return -1
}

// text answers all that a structure has: two of one kind have one text if, and only if, they are the same.
func text(x any) string {
	return fmt.Sprint(x)
}

// numbers answers where all numbers of what x points to stand, those in its lists' spare room too.
func numbers(x any) []*int {
	var out []*int
	var gather func(v reflect.Value)
	gather = func(v reflect.Value) {
		switch v.Kind() {
		case reflect.Int:
			out = append(out, v.Addr().Interface().(*int))
		case reflect.Struct:
			for i := range v.NumField() {
				gather(v.Field(i))
			}
		case reflect.Slice:
			for i := range v.Cap() {
				gather(v.Slice(0, v.Cap()).Index(i))
			}
		}
	}
	gather(reflect.ValueOf(x).Elem())
	return out
}

// renewed answers x in new memory, with numbers from 1000 on in the spare room that each of its lists has for so many more.
func renewed[T any](x T, room int) T {
	odd := 1000
	var renew func(v reflect.Value)
	renew = func(v reflect.Value) {
		switch v.Kind() {
		case reflect.Struct:
			for i := range v.NumField() {
				renew(v.Field(i))
			}
		case reflect.Slice:
			n := v.Len()
			list := reflect.MakeSlice(v.Type(), n+room, n+room)
			reflect.Copy(list, v)
			for i := range n + room {
				renew(list.Index(i))
			}
			for i := range room {
				for _, at := range numbers(list.Index(n + i).Addr().Interface()) {
					*at = odd
					odd++
				}
			}
			v.Set(list.Slice(0, n))
		}
	}
	renew(reflect.ValueOf(&x).Elem())
	return x
}

// spare answers x in new memory, each list of it with something in its spare room.
func spare[T any](x T) T {
	return renewed(x, 1)
}

// tight answers x in new memory, without spare room.
func tight[T any](x T) T {
	return renewed(x, 0)
}
