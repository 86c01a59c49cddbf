package sound_test

import (
	"fmt"
	"math"
	"slices"
	"testing"

	"leverframe/api"
	"leverframe/plan"
	"leverframe/sample"
	"leverframe/sound"
	"leverframe/track"
	"leverframe/way"
)

// told asks that Route of that number answers so.
func told(t *testing.T, name string, p api.Plan, id int, want api.Errno) {
	t.Helper()
	if e := sound.Route(p, id); e != want {
		t.Errorf("%s: Route(%d): %d; want %d: %v", name, id, int(e), int(want), p)
	}
}

// checked asks that Check answers so.
func checked(t *testing.T, name string, p api.Plan, want api.Errno) {
	t.Helper()
	if e := sound.Check(p); e != want {
		t.Errorf("%s: Check: %d; want %d: %v", name, int(e), int(want), p)
	}
}

// judged tells, by the words, whether r, a route of p, which may be, is sound.
func judged(p api.Plan, r api.Route) bool {
	w, e := way.Of(p, r.Id)
	outs, f := way.Outs(p, r.Id)
	if e != api.OK || f != api.OK {
		return false
	}
	asked := map[int]int{}
	for _, a := range w.Asks {
		asked[a.Point]++
	}
	for _, n := range asked {
		if n > 1 {
			return false
		}
	}
	for i, section := range r.Path {
		at := 0
		if outs[i].To == section {
			at, _ = plan.Stands(p, section, outs[i].End)
		}
		if at != 0 && (at != r.Exit || i != len(r.Path)-1) {
			return false
		}
	}
	return true
}

// asked asks that both calls about p, any plan, answer as the words say, and answers how many routes of it are sound, and how many are not.
func asked(t *testing.T, name string, p api.Plan) (right, wrong int) {
	t.Helper()
	if plan.Check(p) != api.OK {
		checked(t, name, p, api.ErrPlan)
		told(t, name, p, 1, api.ErrBad)
		return 0, 0
	}
	for _, r := range p.Routes {
		if judged(p, r) {
			right++
			told(t, name, p, r.Id, api.OK)
		} else {
			wrong++
			told(t, name, p, r.Id, api.ErrPlan)
		}
	}
	if wrong > 0 {
		checked(t, name, p, api.ErrPlan)
	} else {
		checked(t, name, p, api.OK)
	}
	return right, wrong
}

// P10.1: routes that are sound, with and without an exit, an overlap, flanks.
func TestSound(t *testing.T) {
	for name, x := range sounds() {
		told(t, name, x.has(), 1, api.OK)
		checked(t, name, x.has(), api.OK)
	}
}

// P10.1: routes that are not sound, though their sections hang together.
func TestOdd(t *testing.T) {
	for name, x := range odds() {
		if _, e := way.Of(x.has(), 1); e != api.OK {
			t.Errorf("%s: the sections do not hang together: %d", name, int(e))
		}
		told(t, name, x.has(), 1, api.ErrPlan)
		checked(t, name, x.has(), api.ErrPlan)
	}
}

// P10.1: routes whose sections do not hang together are told by this layer's error.
func TestApart(t *testing.T) {
	for name, x := range apart() {
		if _, e := way.Of(x.has(), 1); e != api.ErrWay {
			t.Errorf("%s: the sections hang together: %d", name, int(e))
		}
		told(t, name, x.has(), 1, api.ErrPlan)
		checked(t, name, x.has(), api.ErrPlan)
	}
}

// P10.1: plans without a route are sound, if they may be.
func TestNoRoute(t *testing.T) {
	checked(t, "no section", api.Plan{Version: 1}, api.OK)
	checked(t, "no route", sample.Yard(), api.OK)
	checked(t, "no plan", api.Plan{}, api.ErrPlan)
}

// P10.1: a route that isn't there is ErrNone, whether the others are sound or not.
func TestNone(t *testing.T) {
	for name, p := range some() {
		for _, id := range slices.Concat(far, []int{1, 2, 3, 4, 5, 6, 7, 8, 9, 10, 20, 30, 60, 98, 99}) {
			if !slices.ContainsFunc(p.Routes, func(r api.Route) bool { return r.Id == id }) {
				told(t, name, p, id, api.ErrNone)
			}
		}
	}
}

// P10.1: plans that may not be are not sound, and ErrBad for Route, whatever number it is asked for.
func TestBroken(t *testing.T) {
	for name, p := range broken() {
		if e := plan.Check(p); e != api.ErrBad {
			t.Errorf("%s: the plan may be: %d", name, int(e))
		}
		checked(t, name, p, api.ErrPlan)
		for _, id := range slices.Concat(far, []int{1, 2, 3, 4, 99}) {
			told(t, name, p, id, api.ErrBad)
		}
	}
}

// P10.1: one of several routes that is not sound, whichever it is, and whatever is odd about it; the others are sound.
func TestOneOfSeveral(t *testing.T) {
	for name, x := range map[string]one{"a flank": odds()["a flank in the first one, for the same lie"], "a signal": odds()["a signal ahead of the exit"], "apart": apart()["a gap"]} {
		for i := range several().Routes {
			p := several()
			p.Routes[i] = x.r
			p = sample.Having(p, p.Routes...)
			checked(t, name, p, api.ErrPlan)
			for k := range p.Routes {
				want := api.OK
				if k == i {
					want = api.ErrPlan
				}
				told(t, fmt.Sprint(name, " at ", i), p, k+1, want)
			}
		}
	}
}

// P10.1: as many routes as there may be, under any numbers.
func TestFull(t *testing.T) {
	p := sample.Having(sample.Yard(), slices.Repeat(several().Routes, 4)...)
	for i := range p.Routes {
		p.Routes[i].Id = 99 - 15 + i
	}
	checked(t, "full", p, api.OK)
	told(t, "full", p, 99, api.OK)
	p.Routes[15].Flanks = []api.Flank{flank(30, 1)}
	checked(t, "full, the last one odd", p, api.ErrPlan)
	told(t, "full, the last one odd", p, 99, api.ErrPlan)
	told(t, "full, the last one odd", p, 98, api.OK)
}

// P10.1: as the words say, of plans told and made by chance.
func TestSome(t *testing.T) {
	right, wrong := 0, 0
	for name, p := range some() {
		a, b := asked(t, name, p)
		right, wrong = right+a, wrong+b
	}
	if right < 200 || wrong < 200 {
		t.Errorf("but %d are sound, and %d are not", right, wrong)
	}
}

// P10.1: one number that is changed, each in turn, in plans whose route is sound; and each signal that stands at any other end.
func TestChanged(t *testing.T) {
	right, wrong := 0, 0
	each := func(name string, p api.Plan) {
		a, b := asked(t, name, p)
		right, wrong = right+a, wrong+b
	}
	for name, x := range sounds() {
		p := plan.Twin(x.has())
		sample.Changed(&p, []int{math.MinInt, -1, 0, 1, 2, 3, 5, 7, 8, 9, 10, 12, 20, 30, math.MaxInt}, func(place int) {
			each(fmt.Sprint(name, ", number ", place), p)
		})
		for _, s := range p.Sections {
			for end := range s.Ends {
				for _, signal := range p.Signals {
					each(fmt.Sprint(name, ", signal ", signal.Id), sample.Moved(p, map[int]api.Join{signal.Id: sample.To(s.Id, end)}))
				}
			}
		}
	}
	if right < 1000 || wrong < 1000 {
		t.Errorf("but %d are sound, and %d are not", right, wrong)
	}
}

// P10.2: what is handed in is only read, its spare room too.
func TestOnlyRead(t *testing.T) {
	list := some()
	for name, p := range broken() {
		list["broken: "+name] = p
	}
	for name, p := range list {
		handed := sample.Spare(p)
		was := sample.Whole(handed)
		sound.Check(handed)
		for id := range 101 {
			sound.Route(handed, id)
		}
		if !plan.Same(sample.Whole(handed), was) {
			t.Errorf("%s: changed", name)
		}
	}
}

// R2: asked again it is the same, whatever was asked between.
func TestAgain(t *testing.T) {
	for name, p := range some() {
		was := sound.Check(p)
		sound.Check(several())
		sound.Check(api.Plan{})
		sound.Route(p, 1)
		checked(t, name, p, was)
	}
}

// P10.3: a plan is sound just if each of its routes is, and is so without any of them.
func TestEach(t *testing.T) {
	many := 0
	for name, p := range some() {
		want := api.OK
		for _, r := range p.Routes {
			want = max(want, sound.Route(p, r.Id))
		}
		checked(t, name, p, want)
		p.Routes = slices.DeleteFunc(plan.Twin(p).Routes, func(r api.Route) bool { return sound.Route(p, r.Id) != api.OK })
		checked(t, name+", what is sound alone", p, api.OK)
		for i, r := range p.Routes {
			many++
			q := p
			q.Routes = slices.Delete(slices.Clone(p.Routes), i, i+1)
			checked(t, fmt.Sprint(name, ", without ", r.Id), q, api.OK)
			told(t, name, q, r.Id, api.ErrNone)
		}
	}
	if many < 200 {
		t.Errorf("but %d are sound", many)
	}
}

// rides asks that a train which goes from r's entry on over the points as asked comes to r's exit, or to an end that leads to nothing, by no other signal. It needs one lie for each point.
func rides(t *testing.T, name string, p api.Plan, r api.Route) {
	t.Helper()
	w, e := way.Of(p, r.Id)
	lies := map[int]int{}
	for _, a := range w.Asks {
		if lies[a.Point] != 0 {
			t.Errorf("%s: route %d asks %d twice", name, r.Id, a.Point)
		}
		lies[a.Point] = a.Lie
	}
	entry, f := plan.Signal(p, r.Entry)
	if e != api.OK || f != api.OK {
		t.Errorf("%s: route %d: %d, %d", name, r.Id, int(e), int(f))
	}
	at, _ := track.Next(p.Sections, entry.Section, entry.End)
	for i, id := range r.Path {
		s, _ := track.Find(p.Sections, id)
		end, e := track.Out(s, at.End, lies[s.Point])
		if e != api.OK || at.To != id {
			t.Errorf("%s: route %d: comes to %v, not %d: %d", name, r.Id, at, id, int(e))
			return
		}
		want := 0
		if i == len(r.Path)-1 {
			want = r.Exit
		}
		if stands, _ := plan.Stands(p, id, end); stands != want {
			t.Errorf("%s: route %d: comes to signal %d at %d; want %d", name, r.Id, stands, id, want)
		}
		at, _ = track.Next(p.Sections, id, end)
	}
	if r.Exit == 0 && at != (api.Join{}) {
		t.Errorf("%s: route %d: leads on to %v", name, r.Id, at)
	}
}

// P10.3: on the way of a sound route a train comes to no signal but its exit, and finds each point asked for one lie.
func TestRides(t *testing.T) {
	many := 0
	for name, p := range some() {
		for _, r := range p.Routes {
			if sound.Route(p, r.Id) == api.OK {
				many++
				rides(t, name, p, r)
			}
		}
	}
	if many < 200 {
		t.Errorf("but %d are sound", many)
	}
}

// P10.3: sound routes of one entry have their first section in common.
func TestOneEntry(t *testing.T) {
	pairs := 0
	for name, p := range some() {
		first := map[int]int{}
		for _, r := range p.Routes {
			if sound.Route(p, r.Id) != api.OK {
				continue
			}
			if was, ok := first[r.Entry]; ok {
				pairs++
				if r.Path[0] != was {
					t.Errorf("%s: from %d to %d and %d", name, r.Entry, was, r.Path[0])
				}
			}
			first[r.Entry] = r.Path[0]
		}
	}
	if pairs < 30 {
		t.Errorf("but %d pairs", pairs)
	}
}

// The chapter's examples.
func TestExamples(t *testing.T) {
	checked(t, "as it is", sample.Station(), api.OK)
	told(t, "as it is", sample.Station(), 1, api.OK)
	told(t, "as it is", sample.Station(), 9, api.ErrNone)
	for i, want := range map[int]api.Errno{1: api.OK, 0: api.ErrPlan} {
		p := sample.Station()
		p.Routes[i].Flanks = []api.Flank{flank(2, api.Normal)}
		checked(t, fmt.Sprint("a flank at route ", p.Routes[i].Id), p, want)
	}
	for section, want := range map[int]api.Errno{2: api.ErrPlan, 5: api.OK} {
		p := sample.Station()
		p.Signals = append(p.Signals, api.Signal{Id: 9, Section: section, End: 1})
		checked(t, fmt.Sprint("a signal at ", section), p, want)
	}
}
