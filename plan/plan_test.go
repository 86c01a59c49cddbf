package plan_test

import (
	"fmt"
	"math/rand"
	"slices"
	"testing"

	"leverframe/api"
	"leverframe/plan"
	"leverframe/track"
)

// checks asks that Check of p answers as the words say, and answers whether p may be.
func checks(t *testing.T, name string, p api.Plan) bool {
	t.Helper()
	want := api.OK
	if !mayBe(p) {
		want = api.ErrBad
	}
	if e := plan.Check(p); e != want {
		t.Errorf("%s: Check: %d; want %d: %v", name, int(e), int(want), p)
	}
	return want == api.OK
}

// P8.1: plans that may be.
func TestRight(t *testing.T) {
	for name, p := range some() {
		if e := plan.Check(p); e != api.OK || !mayBe(p) {
			t.Errorf("%s: Check: %d: %v", name, int(e), p)
		}
	}
}

// P8.1: all numbers that the elements and versions may have.
func TestRightNumbers(t *testing.T) {
	for id := 1; id <= 99; id++ {
		p := api.Plan{Version: id, Parent: id - 1, Sections: []api.Section{bare(min(id, 98), nothing, nothing), pointed(99, id, nothing, nothing, nothing)}}
		p.Points = []api.Point{{Id: id, Section: 99}}
		p.Signals = []api.Signal{{Id: id, Section: 99, End: id % 3}}
		p.Routes = []api.Route{{Id: id, Entry: id, Path: []int{min(id, 98)}, Flanks: []api.Flank{{Point: id, Lie: 1 + id%2}}, Timer: 1 + id%9}}
		if !checks(t, fmt.Sprint(id), p) {
			t.Errorf("%d may not be", id)
		}
	}
}

// P8.1: there may be as many of each kind as the limits tell, and not one more.
func TestLimits(t *testing.T) {
	if e := plan.Check(big(most)); e != api.OK {
		t.Fatalf("as many as may be: %d", int(e))
	}
	for name, more := range map[string]func(n *sizes) *int{
		"sections": func(n *sizes) *int { return &n.sections }, "points": func(n *sizes) *int { return &n.points }, "signals": func(n *sizes) *int { return &n.signals }, "routes": func(n *sizes) *int { return &n.routes },
		"path": func(n *sizes) *int { return &n.path }, "over": func(n *sizes) *int { return &n.over }, "flanks": func(n *sizes) *int { return &n.flanks },
	} {
		n := most
		*more(&n)++
		if e := plan.Check(big(n)); e != api.ErrBad {
			t.Errorf("one more: %s: %d", name, int(e))
		}
		*more(&n) -= 2
		if e := plan.Check(big(n)); e != api.OK {
			t.Errorf("one less: %s: %d", name, int(e))
		}
	}
}

// P8.1, P8.2: plans that may not be are ErrBad in all calls, whatever else is asked, and nothing stands beside the error.
func TestWrong(t *testing.T) {
	for name, p := range wrongs() {
		if e := plan.Check(p); e != api.ErrBad || mayBe(p) {
			t.Errorf("%s: Check: %d", name, int(e))
		}
		for _, id := range slices.Concat(far, near) {
			if x, e := plan.Point(p, id); e != api.ErrBad || x != (api.Point{}) {
				t.Errorf("%s: Point(%d): %v, %d", name, id, x, int(e))
			}
			if x, e := plan.Signal(p, id); e != api.ErrBad || x != (api.Signal{}) {
				t.Errorf("%s: Signal(%d): %v, %d", name, id, x, int(e))
			}
			if x, e := plan.Route(p, id); e != api.ErrBad || text(x) != text(api.Route{}) {
				t.Errorf("%s: Route(%d): %v, %d", name, id, x, int(e))
			}
			for _, end := range []int{-1, 0, 1, 2, 3} {
				if x, e := plan.Stands(p, id, end); e != api.ErrBad || x != 0 {
					t.Errorf("%s: Stands(%d, %d): %d, %d", name, id, end, x, int(e))
				}
			}
		}
	}
}

// P8.1: one number that is changed in a plan that may be, each in turn.
func TestChanged(t *testing.T) {
	right, wrong := 0, 0
	for name, p := range rights() {
		if name == "fewer" || name == "no overlap, no flank" {
			continue
		}
		x := twin(p)
		for i, at := range numbers(&x) {
			was := *at
			for _, n := range slices.Concat(far, near) {
				*at = n
				if checks(t, fmt.Sprint(name, ", number ", i), x) {
					right++
				} else {
					wrong++
				}
			}
			*at = was
		}
	}
	if right < 1000 || wrong < 1000 {
		t.Errorf("but %d may be, and %d may not", right, wrong)
	}
}

// P8.1: one list that is changed in a plan that may be, each in turn.
func TestEdited(t *testing.T) {
	right, wrong := 0, 0
	for name, p := range some() {
		for _, x := range edited(p) {
			if checks(t, name, x) {
				right++
			} else {
				wrong++
			}
		}
	}
	if right < 1000 || wrong < 1000 {
		t.Errorf("but %d may be, and %d may not", right, wrong)
	}
}

// P8.1: plans made by chance of which some numbers were changed by chance.
func TestGrown(t *testing.T) {
	r := rand.New(rand.NewSource(18))
	right, wrong := 0, 0
	for range 5000 {
		p := grown(r)
		list := numbers(&p)
		for range 1 + r.Intn(2) {
			at, other := list[r.Intn(len(list))], list[r.Intn(len(list))]
			switch r.Intn(3) {
			case 0:
				*at = *other
			case 1:
				*at, *other = *other, *at
			case 2:
				*at += r.Intn(3) - 1
			}
		}
		if checks(t, "changed", p) {
			right++
		} else {
			wrong++
		}
	}
	if right < 200 || wrong < 1000 {
		t.Errorf("but %d may be, and %d may not", right, wrong)
	}
}

// ids answers all numbers that elements may have, and some that they may not.
func ids() []int {
	out := slices.Clone(far)
	for id := range 102 {
		out = append(out, id)
	}
	return out
}

// found asks that a call's answer about id is the one of list that has this number, or ErrNone.
func found[T any](t *testing.T, name string, list []T, number func(T) int, id int, got T, e api.Errno) {
	t.Helper()
	var want T
	f := api.ErrNone
	for _, x := range list {
		if number(x) == id {
			want, f = x, api.OK
		}
	}
	if e != f || text(got) != text(want) {
		t.Errorf("%s: %d: %v, %d; want %v, %d", name, id, got, int(e), want, int(f))
	}
}

// P8.2: each point, signal and route is found by its number, whichever numbers there are, and no other one.
func TestFound(t *testing.T) {
	for name, p := range some() {
		for _, id := range ids() {
			x, e := plan.Point(p, id)
			found(t, name+", point", p.Points, func(x api.Point) int { return x.Id }, id, x, e)
			s, e := plan.Signal(p, id)
			found(t, name+", signal", p.Signals, func(x api.Signal) int { return x.Id }, id, s, e)
			r, e := plan.Route(p, id)
			found(t, name+", route", p.Routes, func(x api.Route) int { return x.Id }, id, r, e)
		}
	}
}

// P8.2: at each end stands the signal that says so, or none; ends that aren't there are ErrArg, but sections ahead of them ErrNone.
func TestStands(t *testing.T) {
	for name, p := range some() {
		for _, section := range ids() {
			for _, end := range append(slices.Clone(far), 0, 1, 2, 3, 4) {
				want, e := 0, api.ErrNone
				if endOf(p, to(section, 0)) != nil {
					e = api.ErrArg
				}
				if endOf(p, to(section, end)) != nil {
					e = api.OK
				}
				for _, s := range p.Signals {
					if s.Section == section && s.End == end {
						want = s.Id
					}
				}
				if id, f := plan.Stands(p, section, end); id != want || f != e {
					t.Errorf("%s: Stands(%d, %d): %d, %d; want %d, %d", name, section, end, id, int(f), want, int(e))
				}
			}
		}
	}
}

// all answers plans that may be and such that may not.
func all() map[string]api.Plan {
	out := some()
	for name, p := range wrongs() {
		out["wrong: "+name] = p
	}
	out["wrong: odd"] = odd()
	return out
}

// odd answers a plan of which nothing may be.
func odd() api.Plan {
	p := api.Plan{Version: -1, Parent: 1 << 40, Sections: []api.Section{{}, {Id: -5, Point: 7, Ends: make([]api.Join, 20)}, {Id: -5}}, Points: make([]api.Point, 30), Signals: make([]api.Signal, 30), Routes: make([]api.Route, 3)}
	p.Routes[2] = api.Route{Id: 1 << 50, Path: []int{-1, -1, 4, 4, 9, 9, 9, 9}, Over: []int{7, 7, 7, 7}, Flanks: make([]api.Flank, 9)}
	return p
}

// same asks that Same tells of a and b, either way round, whether they are.
func same(t *testing.T, name string, a, b api.Plan, want bool) {
	t.Helper()
	if plan.Same(a, b) != want || plan.Same(b, a) != want {
		t.Errorf("%s: Same: %v, %v; want %v: %v; %v", name, plan.Same(a, b), plan.Same(b, a), want, a, b)
	}
}

// P8.1: a plan is the same as one like it in other memory, and not as one of which a number is another one, of any plans.
func TestSame(t *testing.T) {
	for name, p := range all() {
		x := twin(p)
		same(t, name, p, p, true)
		same(t, name, p, x, true)
		same(t, name, p, spare(p), true)
		for i, at := range numbers(&x) {
			for _, n := range []int{*at + 1, *at - 1, *at ^ 1<<40, ^*at} {
				was := *at
				*at = n
				same(t, fmt.Sprint(name, ", number ", i), p, x, false)
				*at = was
			}
		}
		same(t, name, p, x, true)
	}
}

// P8.1: plans of which a list is another one are not the same, of any plans; a list that is nil is the same as one of no elements.
func TestSameLists(t *testing.T) {
	list := rights()
	list["odd"] = odd()
	for name, p := range list {
		was := text(p)
		for _, x := range edited(p) {
			same(t, name, p, x, was == text(x))
		}
	}
	r := api.Route{Id: 1}
	empty := api.Route{Id: 1, Path: []int{}, Over: []int{}, Flanks: []api.Flank{}}
	same(t, "nil and empty", api.Plan{}, api.Plan{Sections: []api.Section{}, Points: []api.Point{}, Signals: []api.Signal{}, Routes: []api.Route{}}, true)
	same(t, "nil and empty", api.Plan{Sections: []api.Section{{Id: 1}}, Routes: []api.Route{r}}, api.Plan{Sections: []api.Section{{Id: 1, Ends: []api.Join{}}}, Routes: []api.Route{empty}}, true)
}

// P8.1: no two of many unlike plans are the same.
func TestSameOthers(t *testing.T) {
	list := all()
	texts := map[string]string{}
	for name, p := range list {
		texts[name] = text(p)
	}
	for a, p := range list {
		for b, q := range list {
			if want := texts[a] == texts[b]; plan.Same(p, q) != want {
				t.Errorf("%s and %s: %v; want %v", a, b, !want, want)
			}
		}
	}
}

// P8.1: a twin has all that the plan has, of any plans.
func TestTwin(t *testing.T) {
	for name, p := range all() {
		if q := plan.Twin(p); text(q) != text(p) {
			t.Errorf("%s: Twin: %v; want %v", name, q, p)
		}
	}
}

// apart asks that each number of p and of q stands in memory of its own: where one is changed no other one is, in q or in the others.
func apart(t *testing.T, name string, q api.Plan, others ...*api.Plan) {
	t.Helper()
	list := numbers(&q)
	for _, o := range others {
		*o = shown(*o)
		list = append(list, numbers(o)...)
	}
	seen := map[*int]bool{}
	for i, at := range list {
		if seen[at] {
			t.Errorf("%s: number %d has no memory of its own", name, i)
		}
		seen[at] = true
	}
}

// P8.1, P8.3: a twin shares no memory with the plan, spare room neither, nor with another twin; no two lists of it share any, even if two of the plan do.
func TestTwinApart(t *testing.T) {
	for name, p := range all() {
		in := spare(p)
		a, b := plan.Twin(in), plan.Twin(in)
		apart(t, name, shown(a), &b, &in)
	}
	ends, path := []api.Join{nothing, nothing, nothing}, []int{1, 2, 3, 4}
	flanks := make([]api.Flank, 4)
	knot := api.Plan{
		Sections: []api.Section{{Id: 1, Ends: ends}, {Id: 2, Ends: ends}, {Id: 3, Ends: ends[1:]}},
		Routes:   []api.Route{{Path: path, Over: path, Flanks: flanks}, {Path: path[:2], Over: path[2:], Flanks: flanks[1:2]}, {Path: path[1:3], Over: path[:0], Flanks: flanks[:0]}},
	}
	q := plan.Twin(knot)
	if text(q) != text(knot) {
		t.Errorf("knot: %v", q)
	}
	apart(t, "knot", shown(q))
}

// P8.3: a route that is answered shares no memory with the plan, spare room neither, nor with another answer.
func TestRouteApart(t *testing.T) {
	for name, p := range some() {
		in := spare(p)
		for _, want := range p.Routes {
			a, _ := plan.Route(in, want.Id)
			b, _ := plan.Route(in, want.Id)
			lists := api.Plan{Routes: []api.Route{a, b}}
			apart(t, name, shown(lists), &in)
		}
	}
	path := []int{2, 3, 6}
	p := station()
	p.Routes[0].Path, p.Routes[0].Over, p.Routes[1].Path = path[:1], path[1:2], path[:2]
	r, e := plan.Route(p, 1)
	if e != api.OK {
		t.Fatalf("Route: %d", int(e))
	}
	apart(t, "one array", shown(api.Plan{Routes: []api.Route{r}}))
}

// call asks all that can be asked of p.
func call(p api.Plan) {
	plan.Check(p)
	plan.Twin(p)
	plan.Same(p, p)
	for id := range 101 {
		plan.Point(p, id)
		plan.Signal(p, id)
		plan.Route(p, id)
		plan.Stands(p, id, id%4)
	}
	plan.Same(p, example())
	plan.Same(example(), p)
}

// P8.3: what is handed in is only read, its spare room too.
func TestOnlyRead(t *testing.T) {
	for name, p := range all() {
		in := spare(p)
		was := text(shown(in))
		call(in)
		if text(shown(in)) != was {
			t.Errorf("%s: changed", name)
		}
	}
}

// R2: asked again it is the same, whatever was asked between.
func TestAgain(t *testing.T) {
	answers := func(p api.Plan) string {
		out := text(plan.Check(p)) + text(plan.Twin(p))
		for id := range 101 {
			x, e := plan.Point(p, id)
			s, f := plan.Signal(p, id)
			r, g := plan.Route(p, id)
			at, h := plan.Stands(p, id, id%4)
			out += fmt.Sprint(x, s, r, at, int(e), int(f), int(g), int(h))
		}
		return out
	}
	for name, p := range rights() {
		was := answers(p)
		call(station())
		call(api.Plan{})
		if answers(p) != was {
			t.Errorf("%s: another answer", name)
		}
	}
}

// P8.4: each point lies in the section that says so, and no other one.
func TestPointsLie(t *testing.T) {
	for name, p := range some() {
		many := 0
		for _, s := range p.Sections {
			if s.Point == 0 {
				continue
			}
			many++
			if x, e := plan.Point(p, s.Point); e != api.OK || x.Section != s.Id {
				t.Errorf("%s: section %d: %v, %d", name, s.Id, x, int(e))
			}
		}
		for _, x := range p.Points {
			if s, e := track.Find(p.Sections, x.Section); e != api.OK || s.Point != x.Id {
				t.Errorf("%s: point %d: %v, %d", name, x.Id, s, int(e))
			}
		}
		if many != len(p.Points) {
			t.Errorf("%s: %d points in %d sections", name, len(p.Points), many)
		}
	}
}

// P8.4: each signal stands where it says, and nobody else does.
func TestSignalsStand(t *testing.T) {
	for name, p := range some() {
		at := map[int]api.Join{}
		for _, s := range p.Sections {
			for end := range s.Ends {
				id, e := plan.Stands(p, s.Id, end)
				if e != api.OK {
					t.Errorf("%s: Stands(%d, %d): %d", name, s.Id, end, int(e))
				}
				if old, ok := at[id]; ok && id != 0 {
					t.Errorf("%s: signal %d stands at %v and at %d, %d", name, id, old, s.Id, end)
				}
				at[id] = to(s.Id, end)
			}
		}
		delete(at, 0)
		for _, s := range p.Signals {
			if at[s.Id] != to(s.Section, s.End) {
				t.Errorf("%s: %v stands at %v", name, s, at[s.Id])
			}
		}
		if len(at) != len(p.Signals) {
			t.Errorf("%s: %d signals stand; there are %d", name, len(at), len(p.Signals))
		}
	}
}

// P8.4: a plan without one of its routes may be, and the others are as they were.
func TestWithoutRoute(t *testing.T) {
	for name, p := range some() {
		for i, gone := range p.Routes {
			x := twin(p)
			x.Routes = slices.Delete(x.Routes, i, i+1)
			if e := plan.Check(x); e != api.OK {
				t.Errorf("%s without route %d: %d", name, gone.Id, int(e))
			}
			for _, r := range p.Routes {
				want := api.OK
				if r.Id == gone.Id {
					r, want = api.Route{}, api.ErrNone
				}
				id := max(r.Id, gone.Id*int(want)/int(api.ErrNone))
				if got, e := plan.Route(x, id); e != want || text(got) != text(r) {
					t.Errorf("%s without route %d: Route(%d): %v, %d", name, gone.Id, id, got, int(e))
				}
			}
		}
	}
}

// The chapter's examples.
func TestExamples(t *testing.T) {
	p := example()
	if e := plan.Check(p); e != api.OK {
		t.Errorf("Check: %d", int(e))
	}
	if x, e := plan.Point(p, 5); x != (api.Point{Id: 5, Section: 2}) || e != api.OK {
		t.Errorf("Point 5: %v, %d", x, int(e))
	}
	if x, e := plan.Signal(p, 4); x != (api.Signal{Id: 4, Section: 1, End: 0}) || e != api.OK {
		t.Errorf("Signal 4: %v, %d", x, int(e))
	}
	if x, e := plan.Route(p, 9); text(x) != text(api.Route{}) || e != api.ErrNone {
		t.Errorf("Route 9: %v, %d", x, int(e))
	}
	for _, c := range []struct {
		section, end, want int
		e                  api.Errno
	}{{1, 0, 4, api.OK}, {2, 0, 0, api.OK}, {9, 0, 0, api.ErrNone}, {1, 2, 0, api.ErrArg}} {
		if id, e := plan.Stands(p, c.section, c.end); id != c.want || e != c.e {
			t.Errorf("Stands(%d, %d): %d, %d", c.section, c.end, id, int(e))
		}
	}
	for name, change := range map[string]func(p *api.Plan){
		"Parent 2":  func(p *api.Plan) { p.Parent = 2 },
		"Path 1, 2": func(p *api.Plan) { p.Routes[0].Path = []int{1, 2} },
		"Timer 10":  func(p *api.Plan) { p.Routes[0].Timer = 10 },
	} {
		if e := plan.Check(with(example(), change)); e != api.ErrBad {
			t.Errorf("Check with %s: %d", name, int(e))
		}
	}
}
