package conflict_test

import (
	"fmt"
	"math"
	"slices"
	"testing"

	"leverframe/api"
	"leverframe/conflict"
	"leverframe/plan"
	"leverframe/sample"
	"leverframe/sound"
	"leverframe/track"
	"leverframe/way"
)

// two asks that Two answers so, the other way round too.
func two(t *testing.T, name string, p api.Plan, a, b int, want bool, err api.Errno) {
	t.Helper()
	for _, ids := range [][2]int{{a, b}, {b, a}} {
		if is, e := conflict.Two(p, ids[0], ids[1]); is != want || e != err {
			t.Errorf("%s: Two(%d, %d): %v, %d; want %v, %d: %v", name, ids[0], ids[1], is, int(e), want, int(err), p)
		}
	}
}

// table asks that Table answers those pairs.
func table(t *testing.T, name string, p api.Plan, want [][2]int, err api.Errno) {
	t.Helper()
	if got, e := conflict.Table(p); !slices.Equal(got, want) || e != err {
		t.Errorf("%s: Table: %v, %d; want %v, %d: %v", name, got, int(e), want, int(err), p)
	}
}

// judged tells, by the words, whether two routes of p, which is sound, conflict.
func judged(p api.Plan, a, b api.Route) bool {
	of := map[int]bool{}
	for _, section := range append(slices.Clone(a.Path), a.Over...) {
		of[section] = true
	}
	for _, section := range append(slices.Clone(b.Path), b.Over...) {
		if of[section] {
			return true
		}
	}
	lies := map[int]int{}
	first, _ := way.Of(p, a.Id)
	for _, x := range first.Asks {
		lies[x.Point] = x.Lie
	}
	second, _ := way.Of(p, b.Id)
	for _, x := range second.Asks {
		if lie, ok := lies[x.Point]; ok && lie != x.Lie {
			return true
		}
	}
	return false
}

// asked asks that both calls about p, any plan, answer as the words say, and answers how many pairs of it conflict, and how many do not.
func asked(t *testing.T, name string, p api.Plan) (cross, apart int) {
	t.Helper()
	if sound.Check(p) != api.OK {
		refused(t, name, p)
		return 0, 0
	}
	var want [][2]int
	for i, a := range p.Routes {
		two(t, name, p, a.Id, a.Id, false, api.ErrArg)
		for _, b := range p.Routes[i+1:] {
			is := judged(p, a, b)
			if is {
				want = append(want, [2]int{a.Id, b.Id})
				cross++
			} else {
				apart++
			}
			two(t, name, p, a.Id, b.Id, is, api.OK)
		}
	}
	table(t, name, p, want, api.OK)
	return cross, apart
}

// refused asks that p is ErrPlan, whatever routes are asked for.
func refused(t *testing.T, name string, p api.Plan) {
	t.Helper()
	for _, ids := range [][2]int{{1, 2}, {2, 7}, {98, 99}, {2, 2}, {2, 3}, {3, 4}, {3, 3}, {0, 0}, {math.MinInt, math.MaxInt}} {
		two(t, name, p, ids[0], ids[1], false, api.ErrPlan)
	}
	table(t, name, p, nil, api.ErrPlan)
}

// P11.1: pairs that conflict, and such that do not: by a section, by a point, by both or by none of these.
func TestTold(t *testing.T) {
	for name, x := range told() {
		p := x.has()
		if e := sound.Check(p); e != api.OK {
			t.Errorf("%s: not sound: %d: %v", name, int(e), p)
		}
		two(t, name, p, 1, 2, x.is, api.OK)
		var want [][2]int
		if x.is {
			want = [][2]int{{1, 2}}
		}
		table(t, name, p, want, api.OK)
		table(t, name+", the other one first", sample.Having(p, x.b, x.a), want, api.OK)
	}
}

// P11.1: the routes' numbers, whatever they are, tell nothing but their order.
func TestNumbers(t *testing.T) {
	for name, x := range told() {
		for _, ids := range [][2]int{{1, 99}, {98, 99}, {5, 20}} {
			p := x.has()
			p.Routes[0].Id, p.Routes[1].Id = ids[0], ids[1]
			two(t, name, p, ids[0], ids[1], x.is, api.OK)
			var want [][2]int
			if x.is {
				want = [][2]int{ids}
			}
			table(t, name, p, want, api.OK)
		}
	}
}

// P11.1: all pairs of several routes, the first and the last one among those that conflict or not.
func TestSeveral(t *testing.T) {
	p, want := several()
	table(t, "several", p, want, api.OK)
	for i, a := range p.Routes {
		for _, b := range p.Routes[i+1:] {
			two(t, "several", p, a.Id, b.Id, slices.Contains(want, [2]int{a.Id, b.Id}), api.OK)
		}
	}
	p.Routes = p.Routes[:5]
	table(t, "without the last one", p, want[:4], api.OK)
	p.Routes = p.Routes[1:]
	table(t, "without the first one", p, want[3:4], api.OK)
	p.Routes = p.Routes[1:3]
	table(t, "none that conflict", p, nil, api.OK)
}

// P11.1: plans with no route or one have no pairs.
func TestFew(t *testing.T) {
	for name, p := range map[string]api.Plan{"no section": {Version: 1}, "no route": sample.Yard()} {
		table(t, name, p, nil, api.OK)
		two(t, name, p, 1, 2, false, api.ErrNone)
		two(t, name, p, 1, 1, false, api.ErrNone)
	}
	p := sample.Having(sample.Yard(), over(in, 5))
	table(t, "one route", p, nil, api.OK)
	two(t, "one route", p, 1, 1, false, api.ErrArg)
	two(t, "one route", p, 1, 2, false, api.ErrNone)
	two(t, "one route", p, 2, 2, false, api.ErrNone)
}

// P11.1: as many routes as there may be: all pairs of them, or none but those of one entry.
func TestFull(t *testing.T) {
	p := sample.Having(sample.Yard(), slices.Repeat([]api.Route{over(in, 5)}, 16)...)
	var want [][2]int
	for a := 84; a <= 99; a++ {
		p.Routes[a-84].Id = a
		for b := a + 1; b <= 99; b++ {
			want = append(want, [2]int{a, b})
		}
	}
	table(t, "all", p, want, api.OK)
	two(t, "all", p, 84, 99, true, api.OK)
	two(t, "all", p, 99, 99, false, api.ErrArg)
	p = sample.Having(sample.Yard(), slices.Repeat([]api.Route{in, right, next, last}, 4)...)
	want = nil
	for a := 1; a <= 16; a++ {
		for b := a + 4; b <= 16; b += 4 {
			want = append(want, [2]int{a, b})
		}
	}
	table(t, "those of one entry", p, want, api.OK)
}

// P11.1: ErrNone, if one of the routes isn't there, or both are not, also if they are one.
func TestNone(t *testing.T) {
	for name, p := range some() {
		nobody := slices.Clone(far)
		for _, id := range []int{1, 2, 3, 4, 5, 6, 7, 8, 9, 10, 20, 30, 31, 60, 98, 99} {
			if !slices.ContainsFunc(p.Routes, func(r api.Route) bool { return r.Id == id }) {
				nobody = append(nobody, id)
			}
		}
		for i, id := range nobody {
			two(t, name, p, id, id, false, api.ErrNone)
			two(t, name, p, id, nobody[0], false, api.ErrNone)
			if len(p.Routes) > 0 {
				two(t, name, p, id, p.Routes[i%len(p.Routes)].Id, false, api.ErrNone)
			}
		}
	}
}

// P11.1: plans that may not be, or that are not sound.
func TestOdd(t *testing.T) {
	for name, p := range odd() {
		if e := sound.Check(p); e != api.ErrPlan {
			t.Errorf("%s: sound: %d", name, int(e))
		}
		refused(t, name, p)
	}
}

// P11.1: as the words say, of plans told and made by chance.
func TestSome(t *testing.T) {
	cross, apart := 0, 0
	for name, p := range some() {
		a, b := asked(t, name, p)
		cross, apart = cross+a, apart+b
	}
	if cross < 500 || apart < 200 {
		t.Errorf("but %d pairs conflict, and %d do not", cross, apart)
	}
}

// P11.1: one number that is changed, each in turn, in plans with routes that conflict or not.
func TestChanged(t *testing.T) {
	cross, apart := 0, 0
	for name, x := range told() {
		p := x.has()
		sample.Changed(&p, []int{math.MinInt, -1, 0, 1, 2, 3, 5, 7, 10, 20, 30, math.MaxInt}, func(place int) {
			a, b := asked(t, fmt.Sprint(name, ", number ", place), p)
			cross, apart = cross+a, apart+b
		})
	}
	if cross < 1000 || apart < 1000 {
		t.Errorf("but %d pairs conflict, and %d do not", cross, apart)
	}
}

// P11.2: what is handed in is only read, its spare room too.
func TestOnlyRead(t *testing.T) {
	list := some()
	for name, p := range odd() {
		list["odd: "+name] = p
	}
	for name, p := range list {
		handed := sample.Spare(p)
		was := sample.Whole(handed)
		conflict.Table(handed)
		for a := range 101 {
			conflict.Two(handed, a, 100-a)
			conflict.Two(handed, a, 1)
			conflict.Two(handed, 2, a)
		}
		if !plan.Same(sample.Whole(handed), was) {
			t.Errorf("%s: changed", name)
		}
	}
}

// P11.2: what is answered is new memory, each time, and hangs on the plan no longer.
func TestApart(t *testing.T) {
	p, want := several()
	one, _ := conflict.Table(p)
	other, _ := conflict.Table(p)
	one = one[:cap(one)]
	for i := range one {
		one[i] = [2]int{-1, -1}
	}
	if !slices.Equal(other, want) {
		t.Errorf("changed along: %v", other)
	}
	table(t, "asked again", p, want, api.OK)
	for _, at := range sample.Numbers(&p) {
		*at = 77
	}
	if !slices.Equal(other, want) {
		t.Errorf("changed with the plan: %v", other)
	}
}

// R2: asked again it is the same, whatever was asked between.
func TestAgain(t *testing.T) {
	between, _ := several()
	for name, p := range some() {
		for range 2 {
			is, e := conflict.Two(p, 1, 2)
			list, f := conflict.Table(p)
			conflict.Table(between)
			conflict.Two(between, 2, 7)
			conflict.Two(between, 2, 9)
			conflict.Table(api.Plan{})
			two(t, name, p, 1, 2, is, e)
			table(t, name, p, list, f)
		}
	}
}

// P11.3: Two answers the same the other way round, whatever it is handed.
func TestOtherWayRound(t *testing.T) {
	list := some()
	for name, p := range odd() {
		list["odd: "+name] = p
	}
	for name, p := range list {
		ids := []int{-1, 0, 1, 2, 50, 100}
		for _, r := range p.Routes {
			ids = append(ids, r.Id)
		}
		for _, a := range ids {
			for _, b := range ids {
				is, e := conflict.Two(p, a, b)
				two(t, name, p, a, b, is, e)
			}
		}
	}
}

// P11.3: routes of one entry conflict, whichever they are.
func TestOneEntry(t *testing.T) {
	pairs := 0
	for name, p := range some() {
		for i, a := range p.Routes {
			for _, b := range p.Routes[:i] {
				if a.Entry == b.Entry {
					pairs++
					two(t, name, p, a.Id, b.Id, true, api.OK)
				}
			}
		}
	}
	if pairs < 100 {
		t.Errorf("but %d pairs", pairs)
	}
}

// lain answers how all points lie as those routes ask, and tells whether they can.
func lain(p api.Plan, routes ...api.Route) (map[int]int, bool) {
	lies := map[int]int{}
	for _, r := range routes {
		w, _ := way.Of(p, r.Id)
		for _, x := range w.Asks {
			if lies[x.Point] != 0 && lies[x.Point] != x.Lie {
				return nil, false
			}
			lies[x.Point] = x.Lie
		}
	}
	return lies, true
}

// gone answers the sections through which a train goes from r's entry on, over points that lie so, as many as r's path has.
func gone(p api.Plan, r api.Route, lies map[int]int) []int {
	entry, _ := plan.Signal(p, r.Entry)
	at, _ := track.Next(p.Sections, entry.Section, entry.End)
	var sections []int
	for range r.Path {
		s, _ := track.Find(p.Sections, at.To)
		sections = append(sections, at.To)
		end, _ := track.Out(s, at.End, lies[s.Point])
		at, _ = track.Next(p.Sections, at.To, end)
	}
	return sections
}

// P11.3: of two routes that do not conflict, all points can lie as both ask; a train on each of them then comes through its path; and no section is of both.
func TestBothAtOnce(t *testing.T) {
	pairs := 0
	for name, p := range some() {
		for i, a := range p.Routes {
			for _, b := range p.Routes[:i] {
				if is, e := conflict.Two(p, a.Id, b.Id); is || e != api.OK {
					continue
				}
				pairs++
				lies, ok := lain(p, a, b)
				if !ok || !slices.Equal(gone(p, a, lies), a.Path) || !slices.Equal(gone(p, b, lies), b.Path) {
					t.Errorf("%s: %d and %d can not be at once: %v", name, a.Id, b.Id, p)
				}
				of := slices.Concat(a.Path, a.Over, b.Path, b.Over)
				slices.Sort(of)
				if len(slices.Compact(of)) != len(a.Path)+len(a.Over)+len(b.Path)+len(b.Over) {
					t.Errorf("%s: %d and %d have a section in common: %v", name, a.Id, b.Id, p)
				}
			}
		}
	}
	if pairs < 200 {
		t.Errorf("but %d pairs", pairs)
	}
}

// The chapter's examples.
func TestExamples(t *testing.T) {
	p := sample.Station()
	two(t, "1 and 3", p, 1, 3, true, api.OK)
	two(t, "1 and 1", p, 1, 1, false, api.ErrArg)
	two(t, "1 and 9", p, 1, 9, false, api.ErrNone)
	table(t, "station", p, [][2]int{{1, 3}, {1, 6}, {3, 6}}, api.OK)
}
