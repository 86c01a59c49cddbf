package sample_test

import (
	"math/rand"
	"testing"

	"leverframe/api"
	"leverframe/plan"
	"leverframe/sample"
)

// The plans that are told may be.
func TestTold(t *testing.T) {
	for i, p := range []api.Plan{sample.Example(), sample.Another(), sample.Small(), sample.Station(), sample.Yard(), sample.Busy(), sample.Full(), sample.Big(3, 1, 2, 1, 1, 0, 1), sample.Big(1, 0, 0, 0, 0, 0, 0), sample.Having(sample.Station(), sample.Station().Routes[2], sample.Station().Routes[0]), sample.Moved(sample.Station(), map[int]api.Join{1: sample.To(1, 0)})} {
		if e := plan.Check(p); e != api.OK {
			t.Errorf("plan %d may not be: %d", i, int(e))
		}
	}
}

// The greatest plan has as many of each kind as there may be; with one more of any it may not be.
func TestFull(t *testing.T) {
	most := [7]int{api.MaxSections, api.MaxPoints, api.MaxSignals, api.MaxRoutes, api.MaxPath, api.MaxOver, api.MaxFlanks}
	p := sample.Full()
	r := p.Routes[len(p.Routes)-1]
	if got := [7]int{len(p.Sections), len(p.Points), len(p.Signals), len(p.Routes), len(r.Path), len(r.Over), len(r.Flanks)}; got != most || p.Version != api.MaxVersion {
		t.Errorf("%v of each, version %d; want %v", got, p.Version, most)
	}
	for i := range most {
		n := most
		n[i]++
		if e := plan.Check(sample.Big(n[0], n[1], n[2], n[3], n[4], n[5], n[6])); e != api.ErrBad {
			t.Errorf("%v of each: %d", n, int(e))
		}
	}
}

// The plans that are made by chance may be, and many of them have routes, points and overlaps.
func TestGrown(t *testing.T) {
	r := rand.New(rand.NewSource(1))
	routes, points, overlaps := 0, 0, 0
	for range 300 {
		p := sample.Grown(r.Intn)
		if e := plan.Check(p); e != api.OK {
			t.Errorf("a plan that may not be: %d: %v", int(e), p)
		}
		routes, points = routes+len(p.Routes), points+len(p.Points)
		for _, x := range p.Routes {
			overlaps += len(x.Over)
		}
	}
	if routes < 1000 || points < 500 || overlaps < 300 {
		t.Errorf("but %d routes, %d points, %d sections of overlaps", routes, points, overlaps)
	}
}

// A plan with spare room is the same one; what stands there is told by Whole.
func TestSpare(t *testing.T) {
	p := sample.Station()
	q := sample.Spare(p)
	if !plan.Same(p, q) || plan.Same(sample.Whole(q), p) {
		t.Errorf("%v, %v", q, sample.Whole(q))
	}
	was := sample.Whole(q)
	q.Routes[0].Over[:2][1]++
	if plan.Same(sample.Whole(q), was) {
		t.Errorf("a number in the spare room was changed, and is not told")
	}
}

// Each number of a plan is told, once: to change it is to have another plan.
func TestNumbers(t *testing.T) {
	p := sample.Station()
	p.Routes[0].Flanks = []api.Flank{{Point: 5, Lie: 1}}
	was := plan.Twin(p)
	list := sample.Numbers(&p)
	for i, at := range list {
		*at++
		if plan.Same(p, was) {
			t.Errorf("number %d is none of the plan", i)
		}
		*at--
	}
	if want := 2 + 6*6 + 2*2 + 2*2 + 4*3 + 3*4 + 3 + 2 + 4 + 2; len(list) != want || !plan.Same(p, was) {
		t.Errorf("%d numbers; want %d", len(list), want)
	}
}

// A plan is changed in one number at a time, and is then as it was.
func TestChanged(t *testing.T) {
	p := sample.Station()
	was := plan.Twin(p)
	calls := 0
	sample.Changed(&p, []int{-7, 1001}, func(place int) {
		unlike := 0
		for i, at := range sample.Numbers(&p) {
			if *at != *sample.Numbers(&was)[i] {
				unlike++
				if i != place || *at != []int{-7, 1001}[calls%2] {
					t.Errorf("call %d: number %d is %d", calls, i, *at)
				}
			}
		}
		if unlike != 1 {
			t.Errorf("call %d: %d numbers are changed", calls, unlike)
		}
		calls++
	})
	if calls != 2*len(sample.Numbers(&p)) || !plan.Same(p, was) {
		t.Errorf("%d calls; then it is %v", calls, p)
	}
}

// The plans that may be do, the odd ones do not, and there are some of both.
func TestLists(t *testing.T) {
	some, odd := sample.Some(rand.New(rand.NewSource(2)).Intn), sample.Odd()
	for name, p := range some {
		if e := plan.Check(p); e != api.OK {
			t.Errorf("%s: may not be: %d: %v", name, int(e), p)
		}
	}
	for name, p := range odd {
		if e := plan.Check(p); e != api.ErrBad {
			t.Errorf("%s: may be: %d: %v", name, int(e), p)
		}
	}
	if len(some) < 20 || len(odd) < 30 {
		t.Errorf("but %d that may be, and %d odd ones", len(some), len(odd))
	}
}

// What drifts still may be, and is mostly another plan; the one that it was is as it was.
func TestDrifted(t *testing.T) {
	r := rand.New(rand.NewSource(3))
	unlike, odd := 0, 0
	for range 200 {
		p := sample.Grown(r.Intn)
		was := plan.Twin(p)
		q := sample.Drifted(p, r.Intn)
		if plan.Check(q) != api.OK || !plan.Same(p, was) {
			t.Errorf("%v became %v; it was %v", p, q, was)
		}
		if !plan.Same(p, q) {
			unlike++
		}
		sample.Drift(&q, r.Intn)
		if plan.Check(q) != api.OK {
			odd++
		}
	}
	if unlike < 100 || odd < 20 {
		t.Errorf("but %d are other ones, and %d may not be", unlike, odd)
	}
}
