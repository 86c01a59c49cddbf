package way_test

import (
	"fmt"
	"math"
	"slices"
	"testing"

	"leverframe/api"
	"leverframe/plan"
	"leverframe/track"
	"leverframe/way"
)

// told asks that Of and Outs of that route answer so.
func told(t *testing.T, name string, p api.Plan, id int, want api.Way, outs []api.Join, e api.Errno) {
	t.Helper()
	if got, f := way.Of(p, id); f != e || text(got) != text(want) {
		t.Errorf("%s: Of(%d): %v, %d; want %v, %d: %v", name, id, got, int(f), want, int(e), p)
	}
	if got, f := way.Outs(p, id); f != e || text(got) != text(outs) {
		t.Errorf("%s: Outs(%d): %v, %d; want %v, %d: %v", name, id, got, int(f), outs, int(e), p)
	}
}

// toldAll asks that All answers so.
func toldAll(t *testing.T, name string, p api.Plan, want []api.Way, outs [][]api.Join, e api.Errno) {
	t.Helper()
	got, other, f := way.All(p)
	if f != e || text(got) != text(want) || text(other) != text(outs) {
		t.Errorf("%s: All: %v, %v, %d; want %v, %v, %d: %v", name, got, other, int(f), want, outs, int(e), p)
	}
}

// asked asks that all calls about p, any plan, answer as the words say, and answers how many routes of it hang together, and how many do not.
func asked(t *testing.T, name string, p api.Plan) (right, wrong int) {
	t.Helper()
	if e := plan.Check(p); e != api.OK {
		told(t, name, p, 1, api.Way{}, nil, e)
		toldAll(t, name, p, nil, nil, e)
		return 0, 0
	}
	var ways []api.Way
	var all [][]api.Join
	for _, r := range p.Routes {
		w, outs, ok := comes(p, r)
		if !ok {
			wrong++
			told(t, name, p, r.Id, api.Way{}, nil, api.ErrWay)
			continue
		}
		right++
		told(t, name, p, r.Id, w, outs, api.OK)
		ways, all = append(ways, w), append(all, outs)
	}
	if wrong == 0 {
		toldAll(t, name, p, ways, all, api.OK)
	} else {
		toldAll(t, name, p, nil, nil, api.ErrWay)
	}
	return right, wrong
}

// P9.1: what routes come to whose sections hang together.
func TestRight(t *testing.T) {
	for name, x := range rights() {
		p := having(x.plan, x.r)
		want := api.Way{Path: x.r.Path, Over: x.r.Over, Asks: x.asks, Near: x.near}
		told(t, name, p, 1, want, x.outs, api.OK)
		toldAll(t, name, p, []api.Way{want}, [][]api.Join{x.outs}, api.OK)
		asked(t, name, p)
	}
}

// P9.1: routes whose sections do not hang together are ErrWay in all calls, and nothing stands beside the error.
func TestWrong(t *testing.T) {
	for name, x := range wrongs() {
		p := having(x.plan, x.r)
		if e := plan.Check(p); e != api.OK {
			t.Errorf("%s: the plan may not be: %d", name, int(e))
		}
		told(t, name, p, 1, api.Way{}, nil, api.ErrWay)
		toldAll(t, name, p, nil, nil, api.ErrWay)
		asked(t, name, p)
	}
}

// P9.1: a route that isn't there is ErrNone, whether the others hang together or not.
func TestNone(t *testing.T) {
	for name, p := range some() {
		for _, id := range slices.Concat(far, []int{1, 2, 3, 4, 5, 6, 7, 8, 9, 10, 11, 12, 13, 20, 30, 60, 98, 99}) {
			if !slices.ContainsFunc(p.Routes, func(r api.Route) bool { return r.Id == id }) {
				told(t, name, p, id, api.Way{}, nil, api.ErrNone)
			}
		}
	}
}

// P9.1: plans that may not be are ErrBad, whatever route is asked for.
func TestBroken(t *testing.T) {
	for name, p := range broken() {
		if e := plan.Check(p); e != api.ErrBad {
			t.Errorf("%s: the plan may be: %d", name, int(e))
		}
		for _, id := range slices.Concat(far, []int{1, 2, 3, 4, 99}) {
			told(t, name, p, id, api.Way{}, nil, api.ErrBad)
		}
		toldAll(t, name, p, nil, nil, api.ErrBad)
	}
}

// P9.1: All of plans with no route, with several, and with as many as there may be.
func TestAll(t *testing.T) {
	toldAll(t, "no section", api.Plan{Version: 1}, nil, nil, api.OK)
	toldAll(t, "no route", yard(), nil, nil, api.OK)
	p := several()
	ways := []api.Way{
		{Path: []int{2, 3}, Asks: []api.Ask{ask(30, 1, 0)}, Near: 1},
		{Path: []int{2, 4}, Over: []int{5}, Asks: []api.Ask{ask(30, 2, 0), ask(20, 2, 2), ask(10, 1, -1)}, Near: 1},
		{Path: []int{7, 8, 9, 10, 11, 12}, Asks: []api.Ask{ask(10, 1, 1), ask(40, 1, 2), ask(50, 2, 3), ask(60, 1, 5)}, Near: 6},
	}
	outs := [][]api.Join{{to(2, 1), to(3, 1)}, {to(2, 2), to(4, 1)}, {to(7, 1), to(8, 1), to(9, 0), to(10, 2), to(11, 1), to(12, 1)}}
	toldAll(t, "several", p, ways, outs, api.OK)
	for i := range p.Routes {
		told(t, "several", p, i+1, ways[i], outs[i], api.OK)
	}
	p.Routes[0].Id, p.Routes[1].Id, p.Routes[2].Id = 3, 50, 99
	toldAll(t, "other numbers", p, ways, outs, api.OK)
	full := having(yard(), slices.Concat(slices.Repeat(p.Routes, 5), p.Routes[:1])...)
	toldAll(t, "as many as may be", full, slices.Concat(slices.Repeat(ways, 5), ways[:1]), slices.Concat(slices.Repeat(outs, 5), outs[:1]), api.OK)
}

// P9.1: one of several routes that does not hang together, the first, the last or another one, is ErrWay for All; the others are told.
func TestOneOfSeveral(t *testing.T) {
	for i := range 3 {
		p := several()
		p.Routes[i] = api.Route{Id: i + 1, Entry: 1, Path: []int{2, 3}, Timer: 1}
		toldAll(t, fmt.Sprint("route ", i+1), p, nil, nil, api.ErrWay)
		if right, wrong := asked(t, fmt.Sprint("route ", i+1), p); right != 2 || wrong != 1 {
			t.Errorf("route %d: %d hang together, %d do not", i+1, right, wrong)
		}
	}
}

// P9.1: as the words say, of plans told and made by chance.
func TestSome(t *testing.T) {
	right, wrong := 0, 0
	for name, p := range some() {
		a, b := asked(t, name, p)
		right, wrong = right+a, wrong+b
		p.Routes = slices.DeleteFunc(p.Routes, func(r api.Route) bool {
			_, _, ok := comes(p, r)
			return !ok
		})
		asked(t, name+", what hangs together alone", p)
	}
	if right < 300 || wrong < 300 {
		t.Errorf("but %d hang together, and %d do not", right, wrong)
	}
}

// P9.1: one number that is changed, each in turn, in plans whose routes hang together.
func TestChanged(t *testing.T) {
	right, wrong := 0, 0
	for name, x := range rights() {
		p := tight(having(x.plan, x.r))
		for i, at := range numbers(&p) {
			was := *at
			for _, n := range []int{math.MinInt, -1, 0, 1, 2, 3, 4, 5, 6, 7, 8, 9, 10, 11, 12, 20, 30, math.MaxInt} {
				*at = n
				a, b := asked(t, fmt.Sprint(name, ", number ", i), p)
				right, wrong = right+a, wrong+b
			}
			*at = was
		}
	}
	if right < 1000 || wrong < 1000 {
		t.Errorf("but %d hang together, and %d do not", right, wrong)
	}
}

// P9.1: each pair of ends of a plan that is joined otherwise, and each signal that stands at another end.
func TestJoinedOtherwise(t *testing.T) {
	right, wrong := 0, 0
	each := func(name string, p api.Plan) {
		a, b := asked(t, name, p)
		right, wrong = right+a, wrong+b
	}
	for name, x := range rights() {
		p := tight(having(x.plan, x.r))
		var ends []api.Join
		for _, s := range p.Sections {
			for end := range s.Ends {
				ends = append(ends, to(s.Id, end))
			}
		}
		for i, a := range ends {
			for k := range p.Signals {
				q := tight(p)
				q.Signals[k].Section, q.Signals[k].End = a.To, a.End
				each(name, q)
			}
			for _, b := range ends[:i] {
				q := tight(p)
				for _, j := range []api.Join{*endOf(q, a), *endOf(q, b)} {
					if j != nothing {
						*endOf(q, j) = nothing
					}
				}
				join(q, a, b)
				each(name, q)
			}
		}
	}
	if right < 1000 || wrong < 1000 {
		t.Errorf("but %d hang together, and %d do not", right, wrong)
	}
}

// ways answers ways of routes, and others that are none's, each by a name.
func ways() map[string]api.Way {
	out := map[string]api.Way{
		"none": {}, "near alone": {Near: 1}, "below": {Near: -1}, "path alone": {Path: []int{1}}, "overlap alone": {Over: []int{1}}, "two alike": {Path: []int{1, 1}}, "one in each": {Path: []int{1}, Over: []int{1}},
		"an ask alone": {Asks: []api.Ask{ask(1, 2, 3)}}, "an ask of nothing": {Asks: make([]api.Ask, 1)}, "two of nothing": {Asks: make([]api.Ask, 2)}, "a section of nothing": {Path: []int{0}}, "an overlap of nothing": {Over: []int{0}},
		"odd": {Path: []int{math.MinInt, 4, -1, 4, math.MaxInt, 0, 7, 8, 9}, Over: []int{5, 5, -5, 5}, Asks: []api.Ask{ask(-1, 1<<40, math.MinInt), ask(0, 0, 0), ask(1, 2, 3)}, Near: 1 << 50},
	}
	for name, x := range rights() {
		out[name], _ = way.Of(having(x.plan, x.r), 1)
	}
	return out
}

// same asks that Same tells of a and b, either way round, whether they are.
func same(t *testing.T, name string, a, b api.Way, want bool) {
	t.Helper()
	if way.Same(a, b) != want || way.Same(b, a) != want {
		t.Errorf("%s: Same: %v, %v; want %v: %v; %v", name, way.Same(a, b), way.Same(b, a), want, a, b)
	}
}

// P9.1: a way is the same as one like it in other memory, and not as one of which a number is another one, of any ways.
func TestSame(t *testing.T) {
	for name, a := range ways() {
		b := tight(a)
		same(t, name, a, a, true)
		same(t, name, a, b, true)
		same(t, name, a, spare(a), true)
		for i, at := range numbers(&b) {
			was := *at
			for _, n := range []int{was + 1, was - 1, was ^ 1<<40, ^was} {
				*at = n
				same(t, fmt.Sprint(name, ", number ", i), a, b, false)
			}
			*at = was
		}
		same(t, name, a, b, true)
	}
	same(t, "nil and empty", api.Way{}, api.Way{Path: []int{}, Over: []int{}, Asks: []api.Ask{}}, true)
}

// P9.1: no two unlike ways are the same, nor is one with a list that is longer, shorter, or the other way round.
func TestSameOthers(t *testing.T) {
	list := ways()
	for name, a := range ways() {
		for other, change := range map[string]func(w *api.Way){
			"path longer": func(w *api.Way) { w.Path = append(w.Path, 0) }, "overlap longer": func(w *api.Way) { w.Over = append(w.Over, 0) }, "asks longer": func(w *api.Way) { w.Asks = append(w.Asks, api.Ask{}) },
			"path shorter": func(w *api.Way) { w.Path = w.Path[:max(len(w.Path), 1)-1] }, "overlap shorter": func(w *api.Way) { w.Over = w.Over[:max(len(w.Over), 1)-1] }, "asks shorter": func(w *api.Way) { w.Asks = w.Asks[:max(len(w.Asks), 1)-1] },
			"path round": func(w *api.Way) { slices.Reverse(w.Path) }, "overlap round": func(w *api.Way) { slices.Reverse(w.Over) }, "asks round": func(w *api.Way) { slices.Reverse(w.Asks) },
			"no path": func(w *api.Way) { w.Path = nil }, "no overlap": func(w *api.Way) { w.Over = nil }, "no asks": func(w *api.Way) { w.Asks = nil },
			"path and overlap change places": func(w *api.Way) { w.Path, w.Over = w.Over, w.Path },
		} {
			b := tight(a)
			change(&b)
			list[name+", "+other] = b
		}
	}
	texts := map[string]string{}
	for name, w := range list {
		texts[name] = text(w)
	}
	for a := range list {
		for b := range list {
			if want := texts[a] == texts[b]; way.Same(list[a], list[b]) != want {
				t.Errorf("%s and %s: %v; want %v", a, b, !want, want)
			}
		}
	}
}

// answers is all that is answered about a plan.
type answers struct {
	Ways []api.Way
	Outs [][]api.Join
	All  []api.Way
	Each [][]api.Join
	E    []int
}

// answer asks all that can be asked of p.
func answer(p api.Plan) answers {
	var out answers
	for id := range 101 {
		w, e := way.Of(p, id)
		outs, f := way.Outs(p, id)
		out.Ways, out.Outs, out.E = append(out.Ways, w), append(out.Outs, outs), append(out.E, int(e), int(f))
		way.Same(w, out.Ways[0])
	}
	all, each, e := way.All(p)
	out.All, out.Each, out.E = all, each, append(out.E, int(e))
	return out
}

// values answers the numbers that stand there.
func values(list []*int) []int {
	out := make([]int, len(list))
	for i, at := range list {
		out[i] = *at
	}
	return out
}

// P9.2: what is handed in is only read, its spare room too.
func TestOnlyRead(t *testing.T) {
	list := some()
	for name, p := range broken() {
		list["broken: "+name] = p
	}
	for name, p := range list {
		in := spare(p)
		was := values(numbers(&in))
		answer(in)
		if now := values(numbers(&in)); !slices.Equal(now, was) {
			t.Errorf("%s: changed", name)
		}
	}
	for name, w := range ways() {
		a, b := spare(w), spare(api.Way{Path: []int{1}})
		was := slices.Concat(values(numbers(&a)), values(numbers(&b)))
		way.Same(a, b)
		way.Same(b, a)
		if !slices.Equal(slices.Concat(values(numbers(&a)), values(numbers(&b))), was) {
			t.Errorf("%s: Same changed it", name)
		}
	}
}

// P9.2: what is answered shares no memory with the plan, spare room neither, nor with another answer, and no two lists of it share any, even if two of the plan do.
func TestApart(t *testing.T) {
	list := some()
	knot := several()
	path := []int{2, 3, 5, 6}
	knot.Routes[0].Path, knot.Routes[0].Over, knot.Routes[1].Path, knot.Routes[1].Exit = path[:2], path[2:], path[:2], 3
	list["knot"] = knot
	for name, p := range list {
		in := p
		if name != "knot" {
			in = spare(p)
		}
		a, b := answer(in), answer(in)
		seen := map[*int]bool{}
		for _, at := range numbers(&in) {
			seen[at] = true
		}
		for i, at := range slices.Concat(numbers(&a), numbers(&b)) {
			if seen[at] {
				t.Errorf("%s: number %d has no memory of its own", name, i)
			}
			seen[at] = true
		}
	}
}

// R2: asked again it is the same, whatever was asked between.
func TestAgain(t *testing.T) {
	for name, p := range some() {
		was := text(answer(p))
		answer(several())
		answer(api.Plan{})
		if text(answer(p)) != was {
			t.Errorf("%s: another answer", name)
		}
	}
}

// both answers what Of and Outs tell of that route, and asks that they have one error.
func both(t *testing.T, name string, p api.Plan, id int) (api.Way, []api.Join, api.Errno) {
	t.Helper()
	w, e := way.Of(p, id)
	outs, f := way.Outs(p, id)
	if e != f {
		t.Errorf("%s: route %d: Of: %d, Outs: %d", name, id, int(e), int(f))
	}
	return w, outs, e
}

// lieAt answers how the point at that place is asked to lie; 0, if it is not asked.
func lieAt(w api.Way, place int) int {
	for _, a := range w.Asks {
		if a.At == place {
			return a.Lie
		}
	}
	return 0
}

// goes asks that a train goes over just the sections of w by its outs, from the entry to the exit, with all points as asked.
func goes(t *testing.T, name string, p api.Plan, r api.Route, w api.Way, outs []api.Join) {
	t.Helper()
	entry, _ := plan.Signal(p, r.Entry)
	all := slices.Concat(w.Path, w.Over)
	many := len(all)
	if len(w.Over) > 0 {
		many--
	}
	if w.Near != entry.Section || len(outs) != many {
		t.Errorf("%s: route %d: near %d, outs %v", name, r.Id, w.Near, outs)
		return
	}
	at, _ := track.Next(p.Sections, entry.Section, entry.End)
	for i, id := range all {
		s, e := track.Find(p.Sections, id)
		if e != api.OK || at.To != id {
			t.Errorf("%s: route %d: comes into %v; want %d", name, r.Id, at, id)
			return
		}
		lie := lieAt(w, i)
		if i == many {
			if want, _ := track.Through(s, at.End, 0); lie != want {
				t.Errorf("%s: route %d: %d is asked to lie %d; want %d", name, r.Id, id, lie, want)
			}
			return
		}
		end, e := track.Out(s, at.End, lie)
		if through, f := track.Through(s, at.End, outs[i].End); e != api.OK || f != api.OK || outs[i] != to(id, end) || through != lie {
			t.Errorf("%s: route %d: through %d to %d, %d, by lie %d; want %v, %d, by %d", name, r.Id, id, end, int(e), lie, outs[i], int(f), through)
		}
		if i == len(w.Path)-1 {
			stands, _ := plan.Stands(p, id, end)
			leads, _ := track.Next(p.Sections, id, end)
			if r.Exit != 0 && stands != r.Exit || r.Exit == 0 && leads != nothing {
				t.Errorf("%s: route %d: leaves at %v", name, r.Id, outs[i])
			}
		}
		at, _ = track.Next(p.Sections, id, end)
	}
}

// P9.3: from the entry on each out leads into the next section, and with all points as asked a train goes over just these, to the exit.
func TestGoes(t *testing.T) {
	many := 0
	for name, p := range some() {
		for _, r := range p.Routes {
			w, outs, e := both(t, name, p, r.Id)
			if e == api.OK {
				goes(t, name, p, r, w, outs)
				many++
			}
		}
	}
	if many < 300 {
		t.Errorf("but %d go", many)
	}
}

// P9.3: what is asked of a point hangs on no other route, nor on this one's number.
func TestAlone(t *testing.T) {
	for name, p := range some() {
		for i, r := range p.Routes {
			w, outs, e := both(t, name, p, r.Id)
			q := p
			q.Routes = []api.Route{r}
			told(t, name+", alone", q, r.Id, w, outs, e)
			q.Routes = slices.Concat(p.Routes[:i], []api.Route{r})
			told(t, name+", the last one", q, r.Id, w, outs, e)
			q.Routes = having(q, r, r, r).Routes
			told(t, name+", three times", q, 3, w, outs, e)
		}
	}
}

// The chapter's examples.
func TestExamples(t *testing.T) {
	p := example()
	told(t, "Of 8", p, 8, api.Way{}, nil, api.ErrWay)
	told(t, "Of 9", p, 9, api.Way{Path: []int{2, 3}, Asks: []api.Ask{{Point: 5, Lie: api.Normal, At: 0}}, Near: 1}, []api.Join{{To: 2, End: 1}, {To: 3, End: 1}}, api.OK)
	told(t, "Of 7", p, 7, api.Way{}, nil, api.ErrNone)
	toldAll(t, "All", p, nil, nil, api.ErrWay)
}
