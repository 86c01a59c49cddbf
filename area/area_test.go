package area_test

import (
	"fmt"
	"math/rand"
	"slices"
	"testing"

	"leverframe/api"
	"leverframe/area"
	"leverframe/diff"
	"leverframe/plan"
	"leverframe/sample"
)

// of asks that Of answers just that.
func of(t *testing.T, name string, a, b api.Plan, want api.Area, err api.Errno) {
	t.Helper()
	if got, e := area.Of(a, b); !alike(got, want) || e != err {
		t.Errorf("%s: Of: %v, %d; want %v, %d: %v, %v", name, got, int(e), want, int(err), a, b)
	}
}

// use asks that Uses answers just that.
func use(t *testing.T, name string, p api.Plan, id int, want api.Area, err api.Errno) {
	t.Helper()
	if got, e := area.Uses(p, id); !alike(got, want) || e != err {
		t.Errorf("%s: Uses(%d): %v, %d; want %v, %d: %v", name, id, got, int(e), want, int(err), p)
	}
}

// has asks of x, of that kind, whether Has tells of numbers what its list has.
func has(t *testing.T, name string, x api.Area, kind uint8, list l) {
	t.Helper()
	ids := slices.Concat(far, list, x.Sections, x.Points, x.Signals, x.Routes)
	for id := range 102 {
		ids = append(ids, id)
	}
	for _, id := range ids {
		if got := area.Has(x, kind, id); got != slices.Contains(list, id) {
			t.Errorf("%s: Has(%d, %d): %v: %v", name, kind, id, got, x)
		}
	}
}

// same asks that Same answers that of a and b, the other way round too.
func same(t *testing.T, name string, a, b api.Area, want bool) {
	t.Helper()
	if area.Same(a, b) != want || area.Same(b, a) != want {
		t.Errorf("%s: Same: %v, %v; want %v: %v, %v", name, area.Same(a, b), area.Same(b, a), want, a, b)
	}
}

// refused asks that a and b, one of which may not be, are ErrBad.
func refused(t *testing.T, name string, a, b api.Plan) {
	t.Helper()
	of(t, name, a, b, api.Area{}, api.ErrBad)
	for _, p := range []api.Plan{a, b} {
		if plan.Check(p) != api.OK {
			for _, id := range []int{-1, 0, 1, 2, 10, 77, 99, 100} {
				use(t, name, p, id, api.Area{}, api.ErrBad)
			}
		}
	}
}

// counts are how many pairs of plans had nothing that changes, and had something, how many routes stay the same but are in an area, how many are in none, and how many pairs were refused.
type counts struct{ nothing, something, along, left, bad int }

// asked asks that Of and Uses answer of two plans, any ones, as the words say, and Of the other way round too.
func (c *counts) asked(t *testing.T, name string, a, b api.Plan) {
	t.Helper()
	if plan.Check(a) != api.OK || plan.Check(b) != api.OK {
		refused(t, name, a, b)
		refused(t, name+", back", b, a)
		c.bad++
		return
	}
	want, along, left := words(a, b)
	of(t, name, a, b, want, api.OK)
	of(t, name+", back", b, a, want, api.OK)
	for _, r := range b.Routes {
		use(t, name, b, r.Id, uses(b, r), api.OK)
	}
	c.along, c.left = c.along+along, c.left+left
	if alike(want, api.Area{}) {
		c.nothing++
	} else {
		c.something++
	}
}

// P14.1: what routes use, told one by one: with and without an exit, an overlap, flanks.
func TestUses(t *testing.T) {
	p := sample.Busy()
	use(t, "exit, overlap, flanks", p, 1, one, api.OK)
	use(t, "exit alone", p, 2, two, api.OK)
	use(t, "path alone", p, 10, ten, api.OK)
	for name, x := range map[string]struct {
		route api.Route
		want  api.Area
	}{
		"one section":              {api.Route{Entry: 1, Path: l{3}}, these(l{3}, nil, l{1}, l{1})},
		"one with a point":         {api.Route{Entry: 1, Path: l{2}}, these(l{2}, l{30}, l{1}, l{1})},
		"numbers that fall":        {api.Route{Entry: 12, Exit: 4, Path: l{11, 10, 9}, Over: l{4, 2}}, these(l{2, 4, 9, 10, 11}, l{30, 40, 50}, l{4, 12}, l{1})},
		"the exit below the entry": {api.Route{Entry: 9, Exit: 8, Path: l{6}}, these(l{6}, nil, l{8, 9}, l{1})},
		"a flank beside":           {api.Route{Entry: 1, Path: l{3}, Flanks: []api.Flank{{Point: 60, Lie: 1}}}, these(l{3, 12}, l{60}, l{1}, l{1})},
		"a flank in the path":      {api.Route{Entry: 1, Path: l{2, 3}, Flanks: []api.Flank{{Point: 30, Lie: 2}}}, these(l{2, 3}, l{30}, l{1}, l{1})},
		"a flank in the overlap":   {api.Route{Entry: 1, Exit: 3, Path: l{3}, Over: l{5}, Flanks: []api.Flank{{Point: 20, Lie: 2}}}, these(l{3, 5}, l{20}, l{1, 3}, l{1})},
		"a flank at the entry":     {api.Route{Entry: 10, Path: l{11}, Flanks: []api.Flank{{Point: 50, Lie: 1}}}, these(l{10, 11}, l{50}, l{10}, l{1})},
		"three flanks":             {api.Route{Entry: 1, Path: l{3}, Flanks: []api.Flank{{Point: 10, Lie: 1}, {Point: 20, Lie: 2}, {Point: 40, Lie: 1}}}, these(l{3, 5, 8, 9}, l{10, 20, 40}, l{1}, l{1})},
		"its entry's section":      {api.Route{Entry: 8, Path: l{7}}, these(l{7}, nil, l{8}, l{1})},
		"nothing hangs together":   {api.Route{Entry: 1, Exit: 12, Path: l{12, 3}, Over: l{8}}, these(l{3, 8, 12}, l{10, 60}, l{1, 12}, l{1})},
		"one number four times":    {api.Route{Entry: 10, Exit: 1, Path: l{8, 1}}, these(l{1, 8}, l{10}, l{1, 10}, l{1})},
	} {
		x.route.Timer = 1
		p := sample.Having(sample.Yard(), x.route)
		use(t, name, p, 1, x.want, api.OK)
		p.Routes[0].Id, x.want.Routes = 99, l{99}
		use(t, name+", 99", p, 99, x.want, api.OK)
	}
}

// P14.1: the routes of plans told and made by chance, each by its number; numbers that no route has.
func TestUsesSome(t *testing.T) {
	many, none := 0, 0
	for name, p := range some() {
		of := map[int]api.Route{}
		for _, r := range p.Routes {
			of[r.Id] = r
		}
		for id := range 100 {
			if r, ok := of[id]; ok {
				use(t, name, p, id, uses(p, r), api.OK)
				many++
			} else {
				use(t, name, p, id, api.Area{}, api.ErrNone)
				none++
			}
		}
		for _, id := range far {
			use(t, name, p, id, api.Area{}, api.ErrNone)
		}
	}
	if many < 100 || none < 1000 {
		t.Errorf("but %d routes, and %d that are none", many, none)
	}
}

// P14.1: ErrNone of what is another kind's number alone.
func TestOtherKinds(t *testing.T) {
	p := sample.Busy()
	for _, id := range []int{12, 20, 60, 3, 9, 11} {
		use(t, "another kind's", p, id, api.Area{}, api.ErrNone)
	}
	p.Routes = nil
	use(t, "no route", p, 1, api.Area{}, api.ErrNone)
	use(t, "nothing", api.Plan{Version: 1}, 1, api.Area{}, api.ErrNone)
}

// P14.1, P14.4: changes told one by one, the other way round too.
func TestTurns(t *testing.T) {
	for name, x := range turns() {
		a, b := sample.Busy(), sample.Busy()
		x.change(&a, &b)
		if plan.Check(a) != api.OK || plan.Check(b) != api.OK {
			t.Errorf("%s: may not be: %v, %v", name, a, b)
		}
		if want, _, _ := words(a, b); !alike(want, x.want) {
			t.Errorf("%s: the words tell %v; want %v", name, want, x.want)
		}
		of(t, name, a, b, x.want, api.OK)
		of(t, name+", back", b, a, x.want, api.OK)
	}
}

// P14.1: each plan beside each other one, and beside itself.
func TestEach(t *testing.T) {
	var c counts
	list := some()
	for name, a := range list {
		for other, b := range list {
			c.asked(t, name+", "+other, a, b)
		}
	}
	if c.nothing < 20 || c.something < 300 || c.along < 50 || c.left < 200 || c.bad != 0 {
		t.Errorf("but %v", c)
	}
}

// P14.1: each number of a plan changed by itself, in turn.
func TestChanged(t *testing.T) {
	var c counts
	list := some()
	for _, name := range []string{"small", "example", "another", "station", "yard", "one of each", "least"} {
		p := list[name]
		was := plan.Twin(p)
		sample.Changed(&p, []int{-1, 0, 1, 2, 3, 5, 6, 11, 20, 99, 100, 1 << 31}, func(place int) {
			c.asked(t, fmt.Sprint(name, ", number ", place), was, p)
		})
	}
	if c.nothing < 50 || c.something < 100 || c.along < 10 || c.left < 100 || c.bad < 1000 {
		t.Errorf("but %v", c)
	}
}

// P14.1: plans made by chance, and changed by chance.
func TestDrifted(t *testing.T) {
	var c counts
	r := rand.New(rand.NewSource(141))
	for i := range 300 {
		a := sample.Grown(r.Intn)
		b := sample.Drifted(a, r.Intn)
		c.asked(t, fmt.Sprint("drifted ", i), a, b)
		c.asked(t, fmt.Sprint("drifted ", i, ", again"), b, sample.Drifted(b, r.Intn))
	}
	if c.something < 300 || c.along < 300 || c.left < 300 || c.bad != 0 {
		t.Errorf("but %v", c)
	}
}

// P14.1: plans with as many elements as there may be, and areas of twice as many.
func TestGreatest(t *testing.T) {
	p := sample.Full()
	for id := 84; id <= 99; id++ {
		use(t, "greatest", p, id, these(l{84, 85, 86, 87, 88, 89, 90, 91}, l{94, 95, 96, 97, 98, 99}, l{98, 99}, l{id}), api.OK)
	}
	use(t, "greatest", p, 83, api.Area{}, api.ErrNone)
	use(t, "greatest", p, 100, api.Area{}, api.ErrNone)
	q := plan.Twin(p)
	q.Routes[7].Path, q.Routes[7].Over = l{87, 88, 89, 90, 91, 92}, l{93, 94}
	q.Routes[7].Flanks = []api.Flank{{Point: 97, Lie: 1}, {Point: 98, Lie: 1}, {Point: 99, Lie: 1}}
	most := these(l{84, 85, 86, 87, 88, 89, 90, 91, 92, 93, 94}, l{94, 95, 96, 97, 98, 99}, l{98, 99}, l{91})
	use(t, "as much as a route may use", q, 91, most, api.OK)
	of(t, "one route of the greatest", p, q, most, api.OK)
	of(t, "one route of the greatest, back", q, p, most, api.OK)

	low := api.Plan{Version: 1}
	all := api.Area{}
	for id := 1; id <= api.MaxSections; id++ {
		s := sample.Bare(id, api.Join{}, api.Join{})
		if id <= api.MaxPoints {
			s = sample.Pointed(id, id, api.Join{}, api.Join{}, api.Join{})
			low.Points, all.Points = append(low.Points, api.Point{Id: id, Section: id}), append(all.Points, id)
		}
		if id <= api.MaxSignals {
			low.Signals, all.Signals = append(low.Signals, api.Signal{Id: id, Section: id}), append(all.Signals, id)
		}
		low.Sections, all.Sections = append(low.Sections, s), append(all.Sections, id)
		low.Routes, all.Routes = append(low.Routes, api.Route{Id: id, Entry: 1, Path: l{2}, Timer: 1}), append(all.Routes, id)
	}
	for id := 84; id <= 99; id++ {
		all.Sections, all.Routes = append(all.Sections, id), append(all.Routes, id)
	}
	all.Points = append(all.Points, 94, 95, 96, 97, 98, 99)
	all.Signals = append(all.Signals, 90, 91, 92, 93, 94, 95, 96, 97, 98, 99)
	of(t, "nothing in common", p, low, all, api.OK)
	of(t, "nothing in common, back", low, p, all, api.OK)
}

// P14.1: a plan that may not be, as the first one, as the second one and as both, whatever else is wrong.
func TestOdd(t *testing.T) {
	for name, x := range sample.Odd() {
		for _, p := range []api.Plan{sample.Busy(), {Version: 1}, sample.Full()} {
			refused(t, name+" first", x, p)
			refused(t, name+" second", p, x)
		}
		refused(t, name+" twice", x, x)
		refused(t, name+", and no plan", x, api.Plan{})
		refused(t, "no plan, and "+name, api.Plan{}, x)
		for _, id := range far {
			use(t, name+", a number that no route has", x, id, api.Area{}, api.ErrBad)
		}
	}
}

// P14.1: lists without elements may be nil or not, and what stands in spare room tells nothing.
func TestLists(t *testing.T) {
	for name, p := range some() {
		empty := plan.Twin(p)
		for i := range p.Routes {
			r, other := &p.Routes[i], &empty.Routes[i]
			if len(r.Over) == 0 {
				r.Over, other.Over = nil, l{}
			}
			if len(r.Flanks) == 0 {
				r.Flanks, other.Flanks = nil, []api.Flank{}
			}
		}
		want, _, _ := words(p, sample.Busy())
		for _, q := range []api.Plan{p, empty, sample.Spare(p), sample.Spare(empty)} {
			of(t, name+", itself", p, q, api.Area{}, api.OK)
			of(t, name+", another one", q, sample.Busy(), want, api.OK)
			for _, r := range p.Routes {
				use(t, name, q, r.Id, uses(p, r), api.OK)
			}
		}
	}
}

// P14.2: of areas of all kinds, what each list has; what no kind has.
func TestHas(t *testing.T) {
	for name, x := range areas() {
		has(t, name, x, api.KindSection, x.Sections)
		has(t, name, x, api.KindPoint, x.Points)
		has(t, name, x, api.KindSignal, x.Signals)
		has(t, name, x, api.KindRoute, x.Routes)
		has(t, name, x, 0, nil)
		for kind := 5; kind < 256; kind++ {
			has(t, name, x, uint8(kind), nil)
		}
	}
}

// areas answers areas, each by a name: what Of and Uses answer, and such as none of them does.
func areas() map[string]api.Area {
	list := map[string]api.Area{
		"nothing": {}, "empty lists": these(l{}, l{}, l{}, l{}),
		"one": one, "two": two, "ten": ten,
		"one number":         these(l{1}, l{1}, l{1}, l{1}),
		"falling":            these(l{9, 5, 3}, l{60, 2}, l{8, 7}, l{3, 2, 1}),
		"up and down":        these(l{1, 99, 5}, l{5, 99, 1}, l{99, 1, 5}, l{1, 5, 3}),
		"again":              these(l{4, 4}, l{5, 5, 5}, l{1, 2, 1}, l{7, 7}),
		"numbers of nothing": these(l{0}, l{-1, 100}, far, l{1 << 31, 0, -5}),
		"sections alone":     these(l{1, 2}, nil, nil, nil),
		"points alone":       these(nil, l{1, 2}, nil, nil),
		"signals alone":      these(nil, nil, l{1, 2}, nil),
		"routes alone":       these(nil, nil, nil, l{1, 2}),
		"many":               these(slices.Repeat(l{3, 1, 2}, 50), slices.Repeat(l{9}, 1000), nil, append(slices.Repeat(l{9}, 1000), 8)),
	}
	var all l
	for id := 1; id <= 99; id++ {
		all = append(all, id)
	}
	list["all"] = these(all, all, all, all)
	return list
}

// P14.2: of each two areas whether they are the same: none is but each beside itself, and those of nothing, whether nil or not.
func TestSame(t *testing.T) {
	list := areas()
	for name, x := range list {
		for other, y := range list {
			nothing := alike(x, api.Area{}) && alike(y, api.Area{})
			same(t, name+", "+other, x, y, name == other || nothing)
		}
		same(t, name+", cloned", x, these(slices.Clone(x.Sections), slices.Clone(x.Points), slices.Clone(x.Signals), slices.Clone(x.Routes)), true)
	}
}

// P14.2: areas that differ in one thing alone: a number, one less, one more, the order, which list it is.
func TestNotSame(t *testing.T) {
	for name, x := range map[string]api.Area{"ten": together(one, two, ten), "falling": areas()["falling"], "one number": areas()["one number"]} {
		for kind, list := range lists(&x) {
			was := *list
			for i := range was {
				for _, other := range []l{slices.Delete(slices.Clone(was), i, i+1), slices.Insert(slices.Clone(was), i, was[i]), slices.Insert(slices.Clone(was), i, 77), append(slices.Clone(was), was[i])} {
					unlike(t, name, x, kind, other)
				}
				for _, by := range []int{1, -1, 256, 1 << 32} {
					other := slices.Clone(was)
					other[i] += by
					unlike(t, name, x, kind, other)
				}
				for k := range i {
					other := slices.Clone(was)
					other[i], other[k] = other[k], other[i]
					unlike(t, name, x, kind, other)
				}
			}
			unlike(t, name, x, kind, nil)
			unlike(t, name, x, kind, l{})
			unlike(t, name, x, kind, append(slices.Clone(was), 0))
		}
	}
	same(t, "trade", these(l{1}, l{2}, l{3}, l{4}), these(l{2}, l{1}, l{3}, l{4}), false)
	same(t, "trade", these(l{1}, l{2}, l{3}, l{4}), these(l{1}, l{2}, l{4}, l{3}), false)
	same(t, "goes over", these(l{1, 2}, l{3}, nil, nil), these(l{1}, l{2, 3}, nil, nil), false)
	for i, a := range []api.Area{these(l{1}, nil, nil, nil), these(nil, l{1}, nil, nil), these(nil, nil, l{1}, nil), these(nil, nil, nil, l{1})} {
		for k, b := range []api.Area{these(l{1}, nil, nil, nil), these(nil, l{1}, nil, nil), these(nil, nil, l{1}, nil), these(nil, nil, nil, l{1})} {
			same(t, "one in another list", a, b, i == k)
		}
	}
}

// unlike asks that x is not the same with that list in place of its own.
func unlike(t *testing.T, name string, x api.Area, kind uint8, list l) {
	t.Helper()
	y := x
	*lists(&y)[kind] = list
	same(t, fmt.Sprint(name, ", kind ", kind), x, y, false)
}

// P14.3: plans that are handed in are only read, their spare room too, also where two of them stand in one memory.
func TestOnlyRead(t *testing.T) {
	list := some()
	for name, p := range sample.Odd() {
		list["odd: "+name] = p
	}
	calls := func(a, b api.Plan) {
		area.Of(a, b)
		for _, id := range []int{0, 1, 2, 8, 10, 99, 100} {
			area.Uses(a, id)
		}
	}
	for name, p := range list {
		a, b := sample.Spare(p), sample.Spare(sample.Busy())
		was, other := sample.Whole(a), sample.Whole(b)
		calls(a, b)
		calls(b, a)
		calls(a, a)
		part := b
		part.Sections, part.Points, part.Signals, part.Routes = b.Sections[1:], b.Points[:2], b.Signals[:9], b.Routes[:1]
		calls(b, part)
		calls(part, b)
		if !plan.Same(sample.Whole(a), was) || !plan.Same(sample.Whole(b), other) {
			t.Errorf("%s: changed", name)
		}
	}
}

// P14.1, P14.3: two plans in one memory, lists of the one being parts of the other one's.
func TestOneMemory(t *testing.T) {
	a := sample.Busy()
	b := a
	b.Routes = slices.Clone(a.Routes)
	b.Routes[0].Path, b.Routes[0].Over = a.Routes[0].Path[:1], a.Routes[0].Over[1:]
	b.Signals = a.Signals[:9]
	want := together(one, these(nil, nil, l{12}, nil))
	of(t, "one memory", a, b, want, api.OK)
	of(t, "one memory, back", b, a, want, api.OK)
	use(t, "one memory", a, 1, one, api.OK)
	use(t, "one memory", b, 1, these(l{2, 5, 6, 9}, l{20, 30, 40}, l{1, 3}, l{1}), api.OK)
}

// P14.3: areas that are handed in are only read, their spare room too.
func TestAreasOnlyRead(t *testing.T) {
	for name, x := range areas() {
		was := these(slices.Clone(x.Sections), slices.Clone(x.Points), slices.Clone(x.Signals), slices.Clone(x.Routes))
		for _, list := range lists(&x) {
			*list = append(slices.Clip(slices.Clone(*list)), 1001)[:len(*list)]
		}
		for kind := range uint8(6) {
			for _, id := range []int{0, 1, 9, 99} {
				area.Has(x, kind, id)
			}
		}
		area.Has(x, 1, 1001)
		same(t, name+", spare room", x, was, true)
		has(t, name, x, 1, x.Sections)
		for kind, list := range lists(&x) {
			if (*list)[:len(*list)+1][len(*list)] != 1001 || !slices.Equal(*list, *lists(&was)[kind]) {
				t.Errorf("%s: changed: %v", name, (*list)[:len(*list)+1])
			}
		}
	}
}

// P14.3: what is answered is new memory, each time, no two lists of it share any, and it hangs on the plans no longer.
func TestApart(t *testing.T) {
	for name, p := range some() {
		a, b := plan.Twin(p), sample.Busy()
		want, _, _ := words(a, b)
		asks := map[string]func() api.Area{"Of": func() api.Area { x, _ := area.Of(a, b); return x }}
		wants := map[string]api.Area{"Of": want}
		for _, r := range p.Routes {
			key := fmt.Sprint("Uses ", r.Id)
			asks[key], wants[key] = func() api.Area { x, _ := area.Uses(a, r.Id); return x }, uses(p, r)
		}
		kept := map[string]api.Area{}
		for key, ask := range asks {
			apart(t, name+", "+key, ask, wants[key])
			kept[key] = ask()
		}
		if !plan.Same(a, p) || !plan.Same(b, sample.Busy()) {
			t.Errorf("%s: changed: %v, %v", name, a, b)
		}
		for _, p := range []*api.Plan{&a, &b} {
			for _, at := range sample.Numbers(p) {
				*at = 77
			}
		}
		for key, x := range kept {
			if !alike(x, wants[key]) {
				t.Errorf("%s, %s: changed along: %v; want %v", name, key, x, wants[key])
			}
		}
	}
}

// apart asks that each list of what ask answers can be written over, its spare room too, and nothing else changes by it.
func apart(t *testing.T, name string, ask func() api.Area, want api.Area) {
	t.Helper()
	for kind := range lists(&want) {
		x := ask()
		other := ask()
		list := *lists(&x)[kind]
		for i := range list[:cap(list)] {
			list[:cap(list)][i] = 77
		}
		*lists(&x)[kind] = *lists(&want)[kind]
		if !alike(x, want) || !alike(other, want) || !alike(ask(), want) {
			t.Errorf("%s: kind %d is not apart: %v, %v; want %v", name, kind, x, other, want)
		}
	}
}

// R2: asked again it is the same, whatever was asked between.
func TestAgain(t *testing.T) {
	for name, p := range some() {
		want, _, _ := words(p, sample.Busy())
		for i := range 20 {
			of(t, fmt.Sprint(name, ", time ", i), p, sample.Busy(), want, api.OK)
			use(t, name, sample.Busy(), 1, one, api.OK)
			area.Of(p, api.Plan{})
			area.Of(sample.Full(), p)
			area.Uses(p, 8)
		}
	}
}

// P14.4: from a plan to itself, and to one that is it but for its versions, the area is empty; to any other one it is not.
func TestItself(t *testing.T) {
	list := some()
	for name, p := range list {
		q, low := plan.Twin(p), plan.Twin(p)
		q.Version, q.Parent = api.MaxVersion, api.MaxVersion-1
		low.Version, low.Parent = 1, 0
		for _, two := range [][2]api.Plan{{p, p}, {p, plan.Twin(p)}, {p, q}, {q, p}, {q, low}, {low, p}} {
			of(t, name, two[0], two[1], api.Area{}, api.OK)
		}
		for other, x := range list {
			x.Version, x.Parent = p.Version, p.Parent
			if got, e := area.Of(p, x); alike(got, api.Area{}) != plan.Same(p, x) || e != api.OK {
				t.Errorf("%s, %s: %v, %d", name, other, got, int(e))
			}
		}
	}
}

// P14.4: the area is the same the other way round; all that changes is in it, each route that uses what changes, and all that this uses; a route that is not in it is the same in both plans, and uses nothing that changes.
func TestFollows(t *testing.T) {
	r := rand.New(rand.NewSource(144))
	var pairs [][2]api.Plan
	for _, x := range turns() {
		a, b := sample.Busy(), sample.Busy()
		x.change(&a, &b)
		pairs = append(pairs, [2]api.Plan{a, b})
	}
	for range 300 {
		a := sample.Grown(r.Intn)
		pairs = append(pairs, [2]api.Plan{a, sample.Drifted(a, r.Intn)})
	}
	in, out := 0, 0
	for i, two := range pairs {
		x, e := area.Of(two[0], two[1])
		y, f := area.Of(two[1], two[0])
		if e != api.OK || f != api.OK || !area.Same(x, y) {
			t.Errorf("pair %d: %v, %d; back %v, %d: %v", i, x, int(e), y, int(f), two)
		}
		diffs, _ := diff.Of(two[0], two[1])
		for _, d := range diffs {
			if d.Is != api.IsSame && !area.Has(x, d.Kind, d.Id) {
				t.Errorf("pair %d: element %v is not in %v: %v", i, d, x, two)
			}
		}
		for _, p := range two {
			for _, r := range p.Routes {
				if follows(t, fmt.Sprint("pair ", i), two, x, p, r.Id, diffs) {
					in++
				} else {
					out++
				}
			}
		}
	}
	if in < 500 || out < 500 {
		t.Errorf("but %d routes are in an area, and %d are not", in, out)
	}
}

// follows asks of a route of p, one of two plans, what follows of the area x, and answers whether it is in it.
func follows(t *testing.T, name string, two [2]api.Plan, x api.Area, p api.Plan, id int, diffs []api.Diff) bool {
	t.Helper()
	what, e := area.Uses(p, id)
	if e != api.OK || !area.Has(what, api.KindRoute, id) {
		t.Errorf("%s: route %d uses %v, %d: %v", name, id, what, int(e), p)
	}
	meets := slices.ContainsFunc(diffs, func(d api.Diff) bool { return d.Is != api.IsSame && area.Has(what, d.Kind, d.Id) })
	if !area.Has(x, api.KindRoute, id) {
		is, e := diff.One(two[0], two[1], api.KindRoute, id)
		if meets || is != api.IsSame || e != api.OK {
			t.Errorf("%s: route %d is not in %v, but %v, %d, %d: %v", name, id, x, meets, is, int(e), two)
		}
		return false
	}
	if meets && !alike(together(x, what), x) {
		t.Errorf("%s: route %d uses %v, not all in %v: %v", name, id, what, x, two)
	}
	return true
}

// P14.1: a route whose entry, exit, section or point another route changes is not in the area for that.
func TestNoFurther(t *testing.T) {
	a, b := sample.Busy(), sample.Busy()
	b.Routes[1].Timer = 5
	x, _ := area.Of(a, b)
	if area.Has(x, api.KindRoute, 10) || !area.Has(x, api.KindSignal, 7) {
		t.Errorf("route 10 uses signal 7, which does not change: %v", x)
	}
	b = sample.Busy()
	b.Routes[2].Timer = 5
	x, _ = area.Of(a, b)
	if area.Has(x, api.KindRoute, 1) || !area.Has(x, api.KindSection, 9) || !area.Has(x, api.KindPoint, 40) {
		t.Errorf("route 1 uses section 9 and point 40, which do not change: %v", x)
	}
}

// The chapter's examples.
func TestExamples(t *testing.T) {
	p, q := sample.Example(), sample.Another()
	first := these(l{2, 3}, l{5}, l{4}, l{8})
	use(t, "P", p, 8, first, api.OK)
	of(t, "P, Q", p, q, these(l{2, 3}, l{5}, l{4, 7}, l{8}), api.OK)
	of(t, "P, P", p, p, api.Area{}, api.OK)
	use(t, "P", p, 9, api.Area{}, api.ErrNone)
	if x, _ := area.Uses(p, 8); !area.Has(x, api.KindSection, 2) {
		t.Errorf("section 2 is not in %v", x)
	}
}
