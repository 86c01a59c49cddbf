package diff_test

import (
	"fmt"
	"math/rand"
	"slices"
	"testing"

	"leverframe/api"
	"leverframe/diff"
	"leverframe/plan"
	"leverframe/sample"
)

// of asks that Of answers just that.
func of(t *testing.T, name string, a, b api.Plan, want []api.Diff, err api.Errno) {
	t.Helper()
	if got, e := diff.Of(a, b); !slices.Equal(got, want) || e != err {
		t.Errorf("%s: Of: %v, %d; want %v, %d: %v, %v", name, got, int(e), want, int(err), a, b)
	}
}

// one asks that One answers that.
func one(t *testing.T, name string, a, b api.Plan, kind uint8, id int, want uint8, err api.Errno) {
	t.Helper()
	if got, e := diff.One(a, b, kind, id); got != want || e != err {
		t.Errorf("%s: One(%d, %d): %d, %d; want %d, %d: %v, %v", name, kind, id, got, int(e), want, int(err), a, b)
	}
}

// answers asks that both calls about two plans that may be answer want, of all elements: of each of these, of numbers that no element of that kind has, and of what is no kind.
func answers(t *testing.T, name string, a, b api.Plan, want []api.Diff) {
	t.Helper()
	of(t, name, a, b, want, api.OK)
	has := map[[2]int]bool{}
	ids := slices.Clone(far)
	for _, x := range want {
		one(t, name, a, b, x.Kind, x.Id, x.Is, api.OK)
		has[[2]int{int(x.Kind), x.Id}] = true
		ids = append(ids, x.Id, x.Id+1)
	}
	slices.Sort(ids)
	for _, id := range slices.Compact(ids) {
		for _, kind := range kinds {
			if !has[[2]int{int(kind), id}] {
				one(t, name, a, b, kind, id, 0, api.ErrNone)
			}
		}
	}
	for _, kind := range []uint8{0, 5, 255} {
		one(t, name, a, b, kind, 1, 0, api.ErrArg)
	}
}

// refused asks that a and b, one of which may not be, are ErrBad, whatever is asked for.
func refused(t *testing.T, name string, a, b api.Plan) {
	t.Helper()
	of(t, name, a, b, nil, api.ErrBad)
	for _, kind := range []uint8{0, 1, 2, 3, 4, 5, 255} {
		for _, id := range []int{-1, 0, 1, 2, 10, 77, 100} {
			one(t, name, a, b, kind, id, 0, api.ErrBad)
		}
	}
}

// counts are how many elements were the same, changed, added and removed, and how often a plan could not be.
type counts struct{ is, bad [4]int }

// asked asks that both calls about two plans, any ones, answer as the words say, and the other way round.
func (c *counts) asked(t *testing.T, name string, a, b api.Plan) {
	t.Helper()
	if plan.Check(a) != api.OK || plan.Check(b) != api.OK {
		refused(t, name, a, b)
		refused(t, name+", back", b, a)
		c.bad[0]++
		return
	}
	want := words(a, b)
	for _, x := range want {
		c.is[x.Is]++
	}
	answers(t, name, a, b, want)
	of(t, name+", back", b, a, back(want), api.OK)
}

// P13.1, P13.3: the yard, changed in one thing: just that is told, all else is the same; the other way round too.
func TestTurns(t *testing.T) {
	for name, x := range turns() {
		a, b := sample.Busy(), sample.Busy()
		x.change(&b)
		if e := plan.Check(b); e != api.OK {
			t.Errorf("%s: may not be: %d: %v", name, int(e), b)
		}
		want := words(a, b)
		unlike := slices.DeleteFunc(slices.Clone(want), func(x api.Diff) bool { return x.Is == api.IsSame })
		if !slices.Equal(unlike, x.want) {
			t.Errorf("%s: the words tell %v; want %v", name, unlike, x.want)
		}
		answers(t, name, a, b, want)
		answers(t, name+", back", b, a, back(want))
	}
}

// P13.1: answers, told one by one.
func TestTold(t *testing.T) {
	least := api.Plan{Version: 1}
	all := slices.Concat(is(1, 0, 1, 2), is(2, 0, 1), is(3, 0, 1), is(4, 0, 1))
	answers(t, "nothing", least, api.Plan{Version: 7, Parent: 3}, nil)
	answers(t, "small", sample.Small(), sample.Small(), all)
	answers(t, "small, added", least, sample.Small(), slices.Concat(is(1, 2, 1, 2), is(2, 2, 1), is(3, 2, 1), is(4, 2, 1)))
	answers(t, "small, removed", sample.Small(), least, slices.Concat(is(1, 3, 1, 2), is(2, 3, 1), is(3, 3, 1), is(4, 3, 1)))
	for name, x := range map[string]struct {
		change func(p *api.Plan)
		want   []api.Diff
	}{
		"the signal":   {func(p *api.Plan) { p.Signals[0].End = 1 }, slices.Concat(is(1, 0, 1, 2), is(2, 0, 1), is(3, 1, 1), is(4, 0, 1))},
		"the route":    {func(p *api.Plan) { p.Routes[0].Timer = 2 }, slices.Concat(is(1, 0, 1, 2), is(2, 0, 1), is(3, 0, 1), is(4, 1, 1))},
		"the sections": {func(p *api.Plan) { p.Sections[0].Ends[0], p.Sections[1].Ends[0] = api.Join{}, api.Join{} }, slices.Concat(is(1, 1, 1, 2), is(2, 0, 1), is(3, 0, 1), is(4, 0, 1))},
		"the point": {func(p *api.Plan) {
			p.Sections = []api.Section{sample.Pointed(1, 1, sample.To(2, 0), api.Join{}, api.Join{}), sample.Bare(2, sample.To(1, 0), api.Join{})}
			p.Points[0].Section = 1
		}, slices.Concat(is(1, 1, 1, 2), is(2, 1, 1), is(3, 0, 1), is(4, 0, 1))},
		"the signal's number": {func(p *api.Plan) { p.Signals[0].Id, p.Routes[0].Entry = 2, 2 }, slices.Concat(is(1, 0, 1, 2), is(2, 0, 1), is(3, 3, 1), is(3, 2, 2), is(4, 1, 1))},
		"the route's number":  {func(p *api.Plan) { p.Routes[0].Id = 99 }, slices.Concat(is(1, 0, 1, 2), is(2, 0, 1), is(3, 0, 1), is(4, 3, 1), is(4, 2, 99))},
		"no point":            {func(p *api.Plan) { p.Sections[1] = sample.Bare(2, sample.To(1, 0), api.Join{}); p.Points = nil }, slices.Concat(is(1, 0, 1), is(1, 1, 2), is(2, 3, 1), is(3, 0, 1), is(4, 0, 1))},
		"no route":            {func(p *api.Plan) { p.Routes = nil }, slices.Concat(is(1, 0, 1, 2), is(2, 0, 1), is(3, 0, 1), is(4, 3, 1))},
		"no signal":           {func(p *api.Plan) { p.Routes, p.Signals = nil, nil }, slices.Concat(is(1, 0, 1, 2), is(2, 0, 1), is(3, 3, 1), is(4, 3, 1))},
	} {
		b := sample.Small()
		x.change(&b)
		answers(t, name, sample.Small(), b, x.want)
		answers(t, name+", back", b, sample.Small(), back(x.want))
	}
}

// P13.1, P13.3: each plan beside each other one, and beside itself.
func TestEach(t *testing.T) {
	var c counts
	list := some()
	for name, a := range list {
		for other, b := range list {
			c.asked(t, name+", "+other, a, b)
		}
	}
	if slices.Min(c.is[:]) < 300 || c.bad[0] != 0 {
		t.Errorf("but %v", c)
	}
}

// P13.1: each number of a plan changed by itself, in turn.
func TestChanged(t *testing.T) {
	var c counts
	for _, name := range []string{"small", "example", "another", "station", "yard", "one of each", "least"} {
		p := some()[name]
		was := plan.Twin(p)
		sample.Changed(&p, []int{-1, 0, 1, 2, 3, 5, 6, 11, 20, 99, 100, 1 << 31}, func(place int) {
			c.asked(t, fmt.Sprint(name, ", number ", place), was, p)
		})
	}
	if c.is[1] < 100 || c.is[2] < 20 || c.is[3] < 20 || c.bad[0] < 1000 {
		t.Errorf("but %v", c)
	}
}

// P13.1, P13.3: plans made by chance, and changed by chance.
func TestDrifted(t *testing.T) {
	var c counts
	r := rand.New(rand.NewSource(131))
	for i := range 150 {
		a := sample.Grown(r.Intn)
		b := sample.Drifted(a, r.Intn)
		c.asked(t, fmt.Sprint("drifted ", i), a, b)
		c.asked(t, fmt.Sprint("drifted ", i, ", again"), b, sample.Drifted(b, r.Intn))
	}
	if slices.Min(c.is[:]) < 200 || c.bad[0] != 0 {
		t.Errorf("but %v", c)
	}
}

// P13.1: all numbers from 1 to 99, of all kinds, of plans with as many elements as there may be.
func TestGreatest(t *testing.T) {
	a := sample.Full()
	b := plan.Twin(a)
	b.Sections[0].Ends[2], b.Sections[15].Ends[1] = sample.To(b.Sections[15].Id, 1), sample.To(b.Sections[0].Id, 2)
	b.Signals[0].Id = 1
	b.Routes[0].Id = 1
	b.Routes[15].Flanks[2].Lie = api.Normal
	want := slices.Concat(
		is(1, 1, 84), is(1, 0, 85, 86, 87, 88, 89, 90, 91, 92, 93, 94, 95, 96, 97, 98), is(1, 1, 99),
		is(2, 0, 94, 95, 96, 97, 98, 99),
		is(3, 2, 1), is(3, 3, 90), is(3, 0, 91, 92, 93, 94, 95, 96, 97, 98, 99),
		is(4, 2, 1), is(4, 3, 84), is(4, 0, 85, 86, 87, 88, 89, 90, 91, 92, 93, 94, 95, 96, 97, 98), is(4, 1, 99))
	answers(t, "greatest", a, b, want)
	answers(t, "greatest, back", b, a, back(want))
	for _, kind := range kinds {
		for id := 1; id <= 99; id++ {
			if i := slices.IndexFunc(want, func(x api.Diff) bool { return x.Kind == kind && x.Id == id }); i >= 0 {
				one(t, "greatest", a, b, kind, id, want[i].Is, api.OK)
			} else {
				one(t, "greatest", a, b, kind, id, 0, api.ErrNone)
			}
		}
	}
	// No kind has a number of the other plan's here, so there are twice as many elements as a plan may have.
	low := api.Plan{Version: 1}
	for id := 1; id <= api.MaxSections; id++ {
		s := sample.Bare(id, api.Join{}, api.Join{})
		if id <= api.MaxPoints {
			s = sample.Pointed(id, id, api.Join{}, api.Join{}, api.Join{})
			low.Points = append(low.Points, api.Point{Id: id, Section: id})
		}
		if id <= api.MaxSignals {
			low.Signals = append(low.Signals, api.Signal{Id: id, Section: id})
		}
		low.Sections = append(low.Sections, s)
		low.Routes = append(low.Routes, api.Route{Id: id, Entry: 1, Path: []int{2}, Timer: 1})
	}
	if got, e := diff.Of(a, low); len(got) != 96 || e != api.OK {
		t.Errorf("%d elements of two plans that have nothing in common, %d", len(got), int(e))
	}
	answers(t, "nothing in common", a, low, words(a, low))
	answers(t, "nothing in common, back", low, a, back(words(a, low)))
}

// P13.1: one number in several kinds is as many elements; what is asked of the one tells nothing of the other ones.
func TestOneNumber(t *testing.T) {
	a, b := sample.Busy(), sample.Busy()
	b.Routes = b.Routes[:2]
	b.Sections[9].Ends[1], b.Sections[11].Ends[1] = sample.To(12, 1), sample.To(10, 1)
	b.Signals = slices.Delete(b.Signals, 8, 9)
	one(t, "section 10", a, b, 1, 10, 1, api.OK)
	one(t, "point 10", a, b, 2, 10, 0, api.OK)
	one(t, "signal 10", a, b, 3, 10, 3, api.OK)
	one(t, "route 10", a, b, 4, 10, 3, api.OK)
	one(t, "section 20", a, b, 1, 20, 0, api.ErrNone)
	one(t, "point 20", a, b, 2, 20, 0, api.OK)
	one(t, "signal 20", a, b, 3, 20, 0, api.ErrNone)
	one(t, "route 20", a, b, 4, 20, 0, api.ErrNone)
}

// Both: a plan that may not be, as the first one, as the second one and as both, whatever else is wrong.
func TestOdd(t *testing.T) {
	for name, x := range sample.Odd() {
		if e := plan.Check(x); e != api.ErrBad {
			t.Errorf("%s: may be: %d", name, int(e))
		}
		for _, p := range []api.Plan{sample.Busy(), {Version: 1}, sample.Full()} {
			refused(t, name+" first", x, p)
			refused(t, name+" second", p, x)
		}
		refused(t, name+" twice", x, x)
		refused(t, name+", and no plan", x, api.Plan{})
		refused(t, "no plan, and "+name, api.Plan{}, x)
	}
}

// One: of two errors the one that is looked for first is told.
func TestTwoErrors(t *testing.T) {
	a, bad := sample.Busy(), api.Plan{}
	for kind := range 256 {
		for _, id := range append(slices.Clone(far), 1, 10, 50, 77, 99) {
			kind := uint8(kind)
			if kind < 1 || kind > 4 {
				one(t, "no kind", a, sample.Another(), kind, id, 0, api.ErrArg)
				one(t, "no kind, no plan", a, bad, kind, id, 0, api.ErrBad)
				one(t, "no plan, no kind", bad, a, kind, id, 0, api.ErrBad)
			}
		}
	}
	for _, kind := range kinds {
		for _, id := range append(slices.Clone(far), 77) {
			one(t, "none", a, sample.Another(), kind, id, 0, api.ErrNone)
			one(t, "none, no plan", a, bad, kind, id, 0, api.ErrBad)
			one(t, "no plan, none", bad, a, kind, id, 0, api.ErrBad)
		}
	}
}

// P13.1: lists without elements may be nil or not, and what stands in spare room tells nothing.
func TestLists(t *testing.T) {
	for name, p := range some() {
		empty := plan.Twin(p)
		for i := range p.Routes {
			r, other := &p.Routes[i], &empty.Routes[i]
			if len(r.Over) == 0 {
				r.Over, other.Over = nil, []int{}
			}
			if len(r.Flanks) == 0 {
				r.Flanks, other.Flanks = nil, []api.Flank{}
			}
		}
		same := words(p, p)
		answers(t, name, p, empty, same)
		answers(t, name+", back", empty, p, same)
		answers(t, name+", spare room", sample.Spare(p), p, same)
		answers(t, name+", spare room, back", p, sample.Spare(p), same)
	}
}

// P13.2: what is handed in is only read, its spare room too, also where two plans stand in one memory.
func TestOnlyRead(t *testing.T) {
	list := some()
	for name, p := range sample.Odd() {
		list["odd: "+name] = p
	}
	for name, x := range turns() {
		p := sample.Busy()
		x.change(&p)
		list["turn: "+name] = p
	}
	calls := func(a, b api.Plan) {
		diff.Of(a, b)
		for kind := range uint8(6) {
			for _, id := range []int{0, 1, 2, 10, 60, 99, 100} {
				diff.One(a, b, kind, id)
			}
		}
	}
	for name, p := range list {
		a, b := sample.Spare(p), sample.Spare(sample.Busy())
		was, other := sample.Whole(a), sample.Whole(b)
		calls(a, b)
		calls(b, a)
		calls(a, a)
		part := b
		part.Sections, part.Points, part.Signals, part.Routes = b.Sections[1:], b.Points[:2], b.Signals[:9], b.Routes[:1]
		calls(b, part)
		calls(part, b)
		if !plan.Same(sample.Whole(a), was) || !plan.Same(sample.Whole(b), other) {
			t.Errorf("%s: changed", name)
		}
	}
}

// P13.1, P13.2: two plans in one memory, lists of the one being parts of the other one's.
func TestOneMemory(t *testing.T) {
	a := sample.Busy()
	b := a
	b.Routes = slices.Clone(a.Routes)
	b.Routes[0].Path = a.Routes[0].Path[:1]
	b.Routes[0].Over = a.Routes[0].Over[1:]
	b.Routes[2].Path = a.Routes[2].Path[1:]
	b.Signals = a.Signals[:9]
	want := slices.Concat(is(1, 0, 1, 2, 3, 4, 5, 6, 7, 8, 9, 10, 11, 12), is(2, 0, 10, 20, 30, 40, 50, 60), is(3, 0, 1, 3, 4, 5, 6, 7, 8, 9, 10), is(3, 3, 12), is(4, 1, 1), is(4, 0, 2), is(4, 1, 10))
	answers(t, "one memory", a, b, want)
	answers(t, "one memory, back", b, a, back(want))
}

// P13.2: what is answered is new memory, each time, and hangs on the plans no longer.
func TestApart(t *testing.T) {
	for name, p := range some() {
		a, b := plan.Twin(p), sample.Busy()
		want := words(a, b)
		one, _ := diff.Of(a, b)
		other, _ := diff.Of(a, b)
		one = one[:cap(one)]
		for i := range one {
			one[i] = api.Diff{Kind: 77, Id: 77, Is: 77}
		}
		of(t, name+", asked again", a, b, want, api.OK)
		for _, p := range []*api.Plan{&a, &b} {
			for _, at := range sample.Numbers(p) {
				*at = 77
			}
		}
		if !slices.Equal(other, want) {
			t.Errorf("%s: changed along: %v; want %v", name, other, want)
		}
	}
}

// R2: asked again it is the same, whatever was asked between.
func TestAgain(t *testing.T) {
	for name, p := range some() {
		want := words(p, sample.Busy())
		for i := range 20 {
			of(t, fmt.Sprint(name, ", time ", i), p, sample.Busy(), want, api.OK)
			diff.Of(sample.Busy(), p)
			diff.Of(p, api.Plan{})
			diff.One(sample.Full(), p, 4, 99)
		}
	}
}

// P13.3: from a plan to itself, or to one that is it but for the versions, all is the same.
func TestItself(t *testing.T) {
	for name, p := range some() {
		q := plan.Twin(p)
		q.Version, q.Parent = api.MaxVersion, api.MaxVersion-1
		low := plan.Twin(p)
		low.Version, low.Parent = 1, 0
		many := len(p.Sections) + len(p.Points) + len(p.Signals) + len(p.Routes)
		for _, two := range [][2]api.Plan{{p, p}, {p, plan.Twin(p)}, {p, q}, {q, p}, {q, low}} {
			l, e := diff.Of(two[0], two[1])
			if len(l) != many || e != api.OK || slices.ContainsFunc(l, func(x api.Diff) bool { return x.Is != api.IsSame }) {
				t.Errorf("%s: %v, %d; %d elements", name, l, int(e), many)
			}
		}
	}
}

// P13.3: two plans, of which nothing became another one, are one but for their versions; no other ones are.
func TestNothingBecame(t *testing.T) {
	r := rand.New(rand.NewSource(133))
	var pairs [][2]api.Plan
	for _, a := range some() {
		for _, b := range some() {
			pairs = append(pairs, [2]api.Plan{a, b})
		}
	}
	for range 400 {
		a := sample.Grown(r.Intn)
		b := plan.Twin(a)
		sample.Drift(&b, r.Intn)
		if plan.Check(b) == api.OK {
			pairs = append(pairs, [2]api.Plan{a, b})
		}
	}
	like, unlike := 0, 0
	for _, x := range pairs {
		a, b := x[0], x[1]
		l, e := diff.Of(a, b)
		if e != api.OK {
			t.Errorf("%d: %v, %v", int(e), a, b)
		}
		became := slices.ContainsFunc(l, func(x api.Diff) bool { return x.Is != api.IsSame })
		b.Version, b.Parent = a.Version, a.Parent
		if plan.Same(a, b) == became {
			t.Errorf("%v: %v, %v", l, a, b)
		}
		if became {
			unlike++
		} else {
			like++
		}
	}
	if like < 30 || unlike < 100 {
		t.Errorf("but %d are one, and %d are not", like, unlike)
	}
}

// The chapter's examples.
func TestExamples(t *testing.T) {
	p, q := sample.Example(), sample.Another()
	want := slices.Concat(is(1, 0, 1, 2, 3), is(2, 0, 5), is(3, 0, 4), is(3, 2, 7), is(4, 1, 8))
	answers(t, "P, Q", p, q, want)
	one(t, "P, Q", p, q, 3, 7, api.IsAdded, api.OK)
	one(t, "Q, P", q, p, 3, 7, api.IsRemoved, api.OK)
	one(t, "route 9", p, q, 4, 9, 0, api.ErrNone)
	one(t, "kind 5", p, q, 5, 8, 0, api.ErrArg)
}
