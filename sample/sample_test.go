package sample_test

import (
	"fmt"
	"maps"
	"math/rand"
	"slices"
	"testing"

	"leverframe/api"
	"leverframe/conflict"
	"leverframe/plan"
	"leverframe/sample"
	"leverframe/sound"
	"leverframe/state"
)

// The plans that are told may be.
func TestTold(t *testing.T) {
	for i, p := range []api.Plan{sample.Example(), sample.Another(), sample.Small(), sample.Station(), sample.Yard(), sample.Busy(), sample.Full(), sample.Big(3, 1, 2, 1, 1, 0, 1), sample.Big(1, 0, 0, 0, 0, 0, 0), sample.Having(sample.Station(), sample.Station().Routes[2], sample.Station().Routes[0]), sample.Moved(sample.Station(), map[int]api.Join{1: sample.To(1, 0)})} {
		if e := plan.Check(p); e != api.OK {
			t.Errorf("plan %d may not be: %d", i, int(e))
		}
	}
}

// The greatest plan has as many of each kind as there may be; with one more of any it may not be.
func TestFull(t *testing.T) {
	most := [7]int{api.MaxSections, api.MaxPoints, api.MaxSignals, api.MaxRoutes, api.MaxPath, api.MaxOver, api.MaxFlanks}
	p := sample.Full()
	r := p.Routes[len(p.Routes)-1]
	if got := [7]int{len(p.Sections), len(p.Points), len(p.Signals), len(p.Routes), len(r.Path), len(r.Over), len(r.Flanks)}; got != most || p.Version != api.MaxVersion {
		t.Errorf("%v of each, version %d; want %v", got, p.Version, most)
	}
	for i := range most {
		n := most
		n[i]++
		if e := plan.Check(sample.Big(n[0], n[1], n[2], n[3], n[4], n[5], n[6])); e != api.ErrBad {
			t.Errorf("%v of each: %d", n, int(e))
		}
	}
}

// The plans that are made by chance may be, and many of them have routes, points and overlaps.
func TestGrown(t *testing.T) {
	r := rand.New(rand.NewSource(1))
	routes, points, overlaps := 0, 0, 0
	for range 300 {
		p := sample.Grown(r.Intn)
		if e := plan.Check(p); e != api.OK {
			t.Errorf("a plan that may not be: %d: %v", int(e), p)
		}
		routes, points = routes+len(p.Routes), points+len(p.Points)
		for _, x := range p.Routes {
			overlaps += len(x.Over)
		}
	}
	if routes < 1000 || points < 500 || overlaps < 300 {
		t.Errorf("but %d routes, %d points, %d sections of overlaps", routes, points, overlaps)
	}
}

// A plan with spare room is the same one; what stands there is told by Whole.
func TestSpare(t *testing.T) {
	p := sample.Station()
	q := sample.Spare(p)
	if !plan.Same(p, q) || plan.Same(sample.Whole(q), p) {
		t.Errorf("%v, %v", q, sample.Whole(q))
	}
	was := sample.Whole(q)
	q.Routes[0].Over[:2][1]++
	if plan.Same(sample.Whole(q), was) {
		t.Errorf("a number in the spare room was changed, and is not told")
	}
}

// Each number of a plan is told, once: to change it is to have another plan.
func TestNumbers(t *testing.T) {
	p := sample.Station()
	p.Routes[0].Flanks = []api.Flank{{Point: 5, Lie: 1}}
	was := plan.Twin(p)
	list := sample.Numbers(&p)
	for i, at := range list {
		*at++
		if plan.Same(p, was) {
			t.Errorf("number %d is none of the plan", i)
		}
		*at--
	}
	if want := 2 + 6*6 + 2*2 + 2*2 + 4*3 + 3*4 + 3 + 2 + 4 + 2; len(list) != want || !plan.Same(p, was) {
		t.Errorf("%d numbers; want %d", len(list), want)
	}
}

// A plan is changed in one number at a time, and is then as it was.
func TestChanged(t *testing.T) {
	p := sample.Station()
	was := plan.Twin(p)
	calls := 0
	sample.Changed(&p, []int{-7, 1001}, func(place int) {
		unlike := 0
		for i, at := range sample.Numbers(&p) {
			if *at != *sample.Numbers(&was)[i] {
				unlike++
				if i != place || *at != []int{-7, 1001}[calls%2] {
					t.Errorf("call %d: number %d is %d", calls, i, *at)
				}
			}
		}
		if unlike != 1 {
			t.Errorf("call %d: %d numbers are changed", calls, unlike)
		}
		calls++
	})
	if calls != 2*len(sample.Numbers(&p)) || !plan.Same(p, was) {
		t.Errorf("%d calls; then it is %v", calls, p)
	}
}

// The plans that may be do, the odd ones do not, and there are some of both.
func TestLists(t *testing.T) {
	some, odd := sample.Some(rand.New(rand.NewSource(2)).Intn), sample.Odd()
	for name, p := range some {
		if e := plan.Check(p); e != api.OK {
			t.Errorf("%s: may not be: %d: %v", name, int(e), p)
		}
	}
	for name, p := range odd {
		if e := plan.Check(p); e != api.ErrBad {
			t.Errorf("%s: may be: %d: %v", name, int(e), p)
		}
	}
	if len(some) < 20 || len(odd) < 30 {
		t.Errorf("but %d that may be, and %d odd ones", len(some), len(odd))
	}
}

// What drifts still may be, and is mostly another plan; the one that it was is as it was.
func TestDrifted(t *testing.T) {
	r := rand.New(rand.NewSource(3))
	unlike, odd := 0, 0
	for range 200 {
		p := sample.Grown(r.Intn)
		was := plan.Twin(p)
		q := sample.Drifted(p, r.Intn)
		if plan.Check(q) != api.OK || !plan.Same(p, was) {
			t.Errorf("%v became %v; it was %v", p, q, was)
		}
		if !plan.Same(p, q) {
			unlike++
		}
		sample.Drift(&q, r.Intn)
		if plan.Check(q) != api.OK {
			odd++
		}
	}
	if unlike < 100 || odd < 20 {
		t.Errorf("but %d are other ones, and %d may not be", unlike, odd)
	}
}

// The plans that are told as sound are, each route alone too; those that are told as unsound are not.
func TestSounds(t *testing.T) {
	for i, p := range []api.Plan{sample.Rails(), sample.Ring(), sample.Station(), sample.Small()} {
		if e := sound.Check(p); e != api.OK {
			t.Errorf("plan %d is not sound: %d", i, int(e))
		}
	}
	routes := 0
	for name, p := range sample.Sounds(rand.New(rand.NewSource(4)).Intn) {
		if e := sound.Check(p); e != api.OK {
			t.Errorf("%s: not sound: %d: %v", name, int(e), p)
		}
		routes += len(p.Routes)
	}
	may := 0
	for name, p := range sample.Unsound() {
		if e := sound.Check(p); e != api.ErrPlan {
			t.Errorf("%s: sound: %d: %v", name, int(e), p)
		}
		if plan.Check(p) == api.OK {
			may++
		}
	}
	if routes < 60 || may != 8 {
		t.Errorf("but %d routes, and %d unsound plans that may be", routes, may)
	}
}

// Of a plan those routes alone are left that are sound, as they were.
func TestSound(t *testing.T) {
	r := rand.New(rand.NewSource(5))
	left, gone := 0, 0
	for range 100 {
		p := sample.Grown(r.Intn)
		was := plan.Twin(p)
		q := sample.Sound(p)
		for _, x := range p.Routes {
			_, e := plan.Route(q, x.Id)
			if (e == api.OK) != (sound.Route(p, x.Id) == api.OK) {
				t.Errorf("route %d: %d: %v", x.Id, int(e), p)
			}
		}
		left, gone = left+len(q.Routes), gone+len(p.Routes)-len(q.Routes)
		q.Routes = p.Routes
		if !plan.Same(p, q) || !plan.Same(p, was) {
			t.Errorf("%v; it was %v", p, was)
		}
	}
	if left < 100 || gone < 100 {
		t.Errorf("but %d are left, and %d are gone", left, gone)
	}
}

// The ring has as many of each kind as there may be, and each half of its sections is held by a route of the one kind.
func TestRing(t *testing.T) {
	p := sample.Ring()
	if got := [4]int{len(p.Sections), len(p.Points), len(p.Signals), len(p.Routes)}; got != [4]int{api.MaxSections, api.MaxPoints, api.MaxSignals, api.MaxRoutes} {
		t.Errorf("%v of each", got)
	}
	for i, r := range p.Routes {
		if got := [3]int{len(r.Path), len(r.Over), len(r.Flanks)}; got != [3]int{api.MaxPath, api.MaxOver, api.MaxFlanks} {
			t.Errorf("route %d: %v of each", r.Id, got)
		}
		for _, x := range p.Routes[:i] {
			clash, e := conflict.Two(p, r.Id, x.Id)
			if want := r.Id%2 == x.Id%2 || r.Id >= 96; clash != want || e != api.OK {
				t.Errorf("routes %d and %d: %v, %d", r.Id, x.Id, clash, int(e))
			}
		}
	}
}

// The states that are made by chance have routes in each phase, several at a time, and each holds and asks by itself.
func TestLived(t *testing.T) {
	r := rand.New(rand.NewSource(6))
	phases, most := [5]int{}, 0
	list := sample.Sounds(r.Intn)
	for _, name := range slices.Sorted(maps.Keys(list)) {
		p := list[name]
		for range 50 {
			s := sample.Lived(p, r.Intn)
			if len(s.Tracks) != len(p.Sections) || len(s.Switches) != len(p.Points) || len(s.Locks) != len(p.Routes) {
				t.Fatalf("%s: %v of %v", name, s, p)
			}
			held, calls, locked := map[int]int{}, map[int]int{}, 0
			for _, x := range s.Switches {
				calls[x.Id] = x.Call
			}
			for _, l := range s.Locks {
				phases[l.Phase]++
				sections, asks := sample.Holds(p, l)
				for _, id := range sections {
					if held[id] != 0 {
						t.Errorf("%s: section %d is held twice: %v", name, id, s)
					}
					held[id] = l.Id
				}
				for _, a := range asks {
					if calls[a.Point] != a.Lie {
						t.Errorf("%s: point %d is asked otherwise: %v", name, a.Point, s)
					}
				}
				if l.Phase != api.Rest {
					locked++
				}
			}
			most = max(most, locked)
		}
	}
	if slices.Min(phases[:]) < 100 || most < 3 {
		t.Errorf("but phases %v, and at most %d at a time", phases, most)
	}
}

// Each number of a state is changed, each list is another one, in turn; what stands in spare room is told by WholeState.
func TestStates(t *testing.T) {
	p := sample.Station()
	s := sample.Lived(p, rand.New(rand.NewSource(7)).Intn)
	was, calls, seen := fmt.Sprint(s), 0, map[string]int{}
	sample.Turned(&s, []int{77, 1<<8 + 88}, func(place int) {
		calls++
		seen[fmt.Sprint(s)]++
	})
	if want := 2 * (2*6 + 3*2 + 4*3); calls != want || len(seen) != want || fmt.Sprint(s) != was {
		t.Errorf("%d calls, %d states; want %d; then it is %v", calls, len(seen), want, s)
	}
	calls = 0
	clear(seen)
	sample.Listed(&s, func() {
		calls++
		seen[fmt.Sprint(s)]++
	})
	if want := 3*(6+2+3) - 3 + 3; calls != want || len(seen) != want || seen[was] != 0 || fmt.Sprint(s) != was {
		t.Errorf("%d calls, %d states; want %d; then it is %v", calls, len(seen), want, s)
	}
	spare := sample.SpareState(s)
	whole := sample.WholeState(spare)
	if fmt.Sprint(spare) != was || whole.Tracks[6] != (api.Track{Id: 1101, Is: 102}) || whole.Switches[2].Id != 1103 || whole.Locks[3].Id != 1106 {
		t.Errorf("%v, %v", spare, whole)
	}
}

// What strays differs in one thing at most; some of it has another phase.
func TestStray(t *testing.T) {
	r := rand.New(rand.NewSource(8))
	p := sample.Rails()
	same, phase := 0, 0
	for range 300 {
		s := sample.Unlocked(p, r.Intn)
		was := sample.WholeState(s)
		sample.Stray(p, &s, r.Intn)
		unlike := 0
		for i := range s.Tracks {
			if s.Tracks[i] != was.Tracks[i] {
				unlike++
			}
		}
		for i := range s.Switches {
			if s.Switches[i] != was.Switches[i] {
				unlike++
			}
		}
		for i := range s.Locks {
			if s.Locks[i] != was.Locks[i] {
				unlike++
			}
			if s.Locks[i].Phase != api.Rest {
				phase++
			}
		}
		if unlike > 1 {
			t.Errorf("%v became %v", was, s)
		}
		if unlike == 0 {
			same++
		}
	}
	if same > 100 || phase < 50 {
		t.Errorf("but %d are the same, and %d have another phase", same, phase)
	}
	empty := api.State{}
	sample.Stray(api.Plan{Version: 1}, &empty, r.Intn)
}

// The states that are told may be, and have each phase, place and number left; those that are dead may not, though the plan may run.
func TestStands(t *testing.T) {
	r := rand.New(rand.NewSource(9))
	list := sample.Sounds(r.Intn)
	for _, name := range slices.Sorted(maps.Keys(list)) {
		p := list[name]
		alone := 1
		for _, x := range p.Routes {
			alone += 1 + len(x.Path) + 2*x.Timer
		}
		seen := map[string]int{}
		for _, s := range sample.Alone(p) {
			seen[fmt.Sprint(s)]++
		}
		if len(seen) != alone {
			t.Errorf("%s: %d states; want %d", name, len(seen), alone)
		}
		for other, s := range sample.Lives(p, r.Intn) {
			if e := state.Check(p, s); e != api.OK {
				t.Errorf("%s, %s: %d: %v: %v", name, other, int(e), s, p)
			}
		}
	}
	for name, s := range sample.Together() {
		locked := 0
		for _, l := range s.Locks {
			if l.Phase != api.Rest {
				locked++
			}
		}
		if _, ok := sample.Lives(sample.Rails(), r.Intn)[name]; !ok || locked < 2 {
			t.Errorf("%s: %v, but %d: %v", name, ok, locked, s)
		}
	}
	for name, s := range sample.Dead() {
		if e := state.Check(sample.Rails(), s); e != api.ErrBad {
			t.Errorf("%s: %d: %v", name, int(e), s)
		}
	}
}
