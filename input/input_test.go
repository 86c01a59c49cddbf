package input_test

import (
	"fmt"
	"math/rand"
	"slices"
	"testing"

	"leverframe/api"
	"leverframe/input"
	"leverframe/plan"
	"leverframe/sample"
	"leverframe/state"
)

// isSection asks that Section answers just that.
func isSection(t *testing.T, name string, p api.Plan, s api.State, id, is int, want api.State, err api.Errno) {
	t.Helper()
	if got, e := input.Section(p, s, id, is); text(got) != text(want) || e != err {
		t.Errorf("%s: Section(%d, %d): %v, %d; want %v, %d: %v: %v", name, id, is, got, int(e), want, int(err), s, p)
	}
}

// isDetect asks that Detect answers just that.
func isDetect(t *testing.T, name string, p api.Plan, s api.State, id, lie int, want api.State, err api.Errno) {
	t.Helper()
	if got, e := input.Detect(p, s, id, lie); text(got) != text(want) || e != err {
		t.Errorf("%s: Detect(%d, %d): %v, %d; want %v, %d: %v: %v", name, id, lie, got, int(e), want, int(err), s, p)
	}
}

// refused asks that both calls answer that error, whatever is told of whatever.
func refused(t *testing.T, name string, p api.Plan, s api.State, err api.Errno) {
	t.Helper()
	for _, id := range append([]int{0, 1, 2, 10, 60, 84, 99}, far...) {
		for _, n := range append([]int{0, 1, 2, 3}, far...) {
			isSection(t, name, p, s, id, n, api.State{}, err)
			isDetect(t, name, p, s, id, n, api.State{}, err)
		}
	}
}

// P16.1: told of one by one, with the sections and points that come of it written out.
func TestTold(t *testing.T) {
	p := sample.Station()
	s, _ := state.At(p)
	s.Switches[0].Call = api.Reverse
	is, lies := [6]uint8{2, 2, 2, 2, 2, 2}, [2]int{}
	for i, x := range []struct {
		of string
		at int
		n  int
	}{
		{"section", 0, 0}, {"section", 5, 1}, {"point", 0, 1}, {"point", 1, 2}, {"section", 0, 1}, {"section", 5, 0}, {"section", 5, 0},
		{"point", 0, 2}, {"point", 0, 0}, {"point", 1, 2}, {"section", 2, 1}, {"section", 3, 0}, {"point", 1, 1}, {"point", 0, 2}, {"section", 0, 0},
	} {
		e := api.OK
		if x.of == "section" {
			s, e = input.Section(p, s, p.Sections[x.at].Id, x.n)
			is[x.at] = uint8(x.n)
		} else {
			s, e = input.Detect(p, s, p.Points[x.at].Id, x.n)
			lies[x.at] = x.n
		}
		if e != api.OK {
			t.Fatalf("step %d: %d", i, int(e))
		}
		want := api.State{Switches: []api.Switch{{Id: p.Points[0].Id, Lie: lies[0], Call: 2}, {Id: p.Points[1].Id, Lie: lies[1]}}}
		for k, n := range is {
			want.Tracks = append(want.Tracks, api.Track{Id: p.Sections[k].Id, Is: n})
		}
		for _, r := range p.Routes {
			want.Locks = append(want.Locks, api.Lock{Id: r.Id})
		}
		if text(s) != text(want) {
			t.Fatalf("step %d: %v; want %v", i, s, want)
		}
	}
}

// P16.1: each section told to be free and taken, each point detected to lie each way and not at all, of states of all kinds: routes alone in each phase, at each place, with each number left, and several together.
func TestEach(t *testing.T) {
	list, names := plans()
	r := rand.New(rand.NewSource(161))
	unlike := 0
	for _, name := range names {
		p := list[name]
		sections, points := things(p)
		states, some := lives(p, r)
		for _, other := range some {
			s := states[other]
			for _, id := range sections {
				for is := range 2 {
					want := section(s, id, is)
					isSection(t, name+", "+other, p, s, id, is, want, api.OK)
					if text(want) != text(s) {
						unlike++
					}
				}
			}
			for _, id := range points {
				for lie := range 3 {
					want := detected(s, id, lie)
					isDetect(t, name+", "+other, p, s, id, lie, want, api.OK)
					if text(want) != text(s) {
						unlike++
					}
				}
			}
		}
	}
	if unlike < 5000 {
		t.Errorf("but %d are unlike", unlike)
	}
}

// P16.1: whatever was known of a section, however a point was detected and called; the others stay as they were.
func TestKnown(t *testing.T) {
	p := sample.Rails()
	sections, points := things(p)
	for name, s := range sample.Together() {
		for was := range 3 {
			for i := range s.Tracks {
				s.Tracks[i].Is = uint8((was + i) % 3)
			}
			for i := range s.Switches {
				s.Switches[i].Lie = (was + i) % 3
				if lie, _ := state.Asked(p, s, s.Switches[i].Id); lie == 0 {
					s.Switches[i].Call = (was + 2*i + 1) % 3
				}
			}
			for _, id := range sections {
				for is := range 2 {
					isSection(t, name, p, s, id, is, section(s, id, is), api.OK)
				}
			}
			for _, id := range points {
				for lie := range 3 {
					isDetect(t, name, p, s, id, lie, detected(s, id, lie), api.OK)
				}
			}
		}
	}
}

// P16.1: the first and the last section and point of the greatest plan, with routes over all of it.
func TestGreatest(t *testing.T) {
	p := sample.Ring()
	s := sample.Stands(p, api.Lock{Id: 94, Phase: api.Used, Gone: 3}, api.Lock{Id: 95, Phase: api.Ending, Gone: 5, Left: 1})
	for _, id := range []int{84, 85, 91, 92, 98, 99} {
		x, e := input.Section(p, s, id, 1)
		if e != api.OK || x.Tracks[id-84] != (api.Track{Id: id, Is: api.Taken}) {
			t.Errorf("section %d: %v, %d", id, x, int(e))
		}
		isSection(t, "greatest", p, s, id, 1, section(s, id, 1), api.OK)
	}
	for _, id := range []int{94, 95, 98, 99} {
		for lie := range 3 {
			x, e := input.Detect(p, s, id, lie)
			if e != api.OK || x.Switches[id-94] != (api.Switch{Id: id, Lie: lie, Call: s.Switches[id-94].Call}) {
				t.Errorf("point %d: %v, %d", id, x, int(e))
			}
		}
	}
	for _, id := range []int{83, 93, 100} {
		isDetect(t, "greatest", p, s, id, 1, api.State{}, api.ErrNone)
		if id != 93 {
			isSection(t, "greatest", p, s, id, 1, api.State{}, api.ErrNone)
		}
	}
}

// P16.1: numbers that no section, or no point, has: those that another kind has, and those that nothing has, whatever is told.
func TestNone(t *testing.T) {
	list, names := plans()
	r := rand.New(rand.NewSource(162))
	others := 0
	for _, name := range names {
		p := list[name]
		s := sample.Lived(p, r.Intn)
		sections, points := things(p)
		ids := slices.Clone(far)
		for id := range 100 {
			ids = append(ids, id)
		}
		for _, id := range ids {
			for _, n := range []int{0, 1, 2, 3, -1, 1 << 40} {
				if !slices.Contains(sections, id) {
					isSection(t, name, p, s, id, n, api.State{}, api.ErrNone)
				}
				if !slices.Contains(points, id) {
					isDetect(t, name, p, s, id, n, api.State{}, api.ErrNone)
				}
			}
			if slices.Contains(sections, id) != slices.Contains(points, id) {
				others++
			}
		}
	}
	if others < 100 {
		t.Errorf("but %d numbers are of one kind alone", others)
	}
}

// P16.1: elements of all kinds have one number each: what is told of one of them tells nothing of another one.
func TestOneNumber(t *testing.T) {
	p := api.Plan{
		Version:  1,
		Sections: []api.Section{{Id: 1, Ends: []api.Join{{}, {To: 2}}}, {Id: 2, Point: 1, Ends: []api.Join{{To: 1, End: 1}, {To: 7}, {}}}, {Id: 7, Ends: []api.Join{{To: 2, End: 1}, {}}}},
		Points:   []api.Point{{Id: 1, Section: 2}},
		Signals:  []api.Signal{{Id: 3, Section: 1, End: 1}},
		Routes:   []api.Route{{Id: 4, Entry: 3, Path: []int{2, 7}, Timer: 3}},
	}
	s := sample.Stands(p, api.Lock{Id: 4, Phase: api.Set})
	isSection(t, "section 1", p, s, 1, 1, api.State{Tracks: []api.Track{{Id: 1, Is: 1}, {Id: 2}, {Id: 7}}, Switches: s.Switches, Locks: s.Locks}, api.OK)
	isDetect(t, "point 1", p, s, 1, 2, api.State{Tracks: s.Tracks, Switches: []api.Switch{{Id: 1, Lie: 2, Call: 1}}, Locks: s.Locks}, api.OK)
	for _, id := range []int{3, 4, 5} {
		isSection(t, "no section", p, s, id, 0, api.State{}, api.ErrNone)
		isDetect(t, "no point", p, s, id, 0, api.State{}, api.ErrNone)
	}
	for _, id := range []int{2, 7} {
		isSection(t, "a section alone", p, s, id, 0, s, api.OK)
		isDetect(t, "a section alone", p, s, id, 0, api.State{}, api.ErrNone)
	}
}

// P16.1: what a section may not be, and how a point may not lie: below nought, one beyond the greatest, and far; Unknown is never told.
func TestArg(t *testing.T) {
	list, names := plans()
	r := rand.New(rand.NewSource(163))
	for _, name := range names {
		p := list[name]
		s := sample.Lived(p, r.Intn)
		sections, points := things(p)
		for _, n := range append([]int{3, 4, 5, 7, 128, 255}, far...) {
			for _, id := range sections {
				isSection(t, name, p, s, id, n, api.State{}, api.ErrArg)
			}
			for _, id := range points {
				isDetect(t, name, p, s, id, n, api.State{}, api.ErrArg)
			}
		}
		for _, id := range sections {
			isSection(t, name, p, s, id, int(api.Unknown), api.State{}, api.ErrArg)
		}
	}
}

// P16.1: plans that may not be, or may not run, whatever else is wrong.
func TestUnsound(t *testing.T) {
	for name, p := range sample.Unsound() {
		for other, s := range map[string]api.State{"its own": sample.Unlocked(p, func(int) int { return 0 }), "no state": {}, "the rails'": sample.Stands(sample.Rails())} {
			refused(t, name+", "+other, p, s, api.ErrPlan)
		}
	}
}

// P16.1: states that may not be, whatever is told of whatever; states that strayed by chance.
func TestBad(t *testing.T) {
	p := sample.Rails()
	for name, s := range sample.Dead() {
		refused(t, name, p, s, api.ErrBad)
	}
	list, names := plans()
	r := rand.New(rand.NewSource(164))
	right, wrong := 0, 0
	for _, name := range names {
		p := list[name]
		sections, points := things(p)
		for range 10 {
			s := sample.Lived(p, r.Intn)
			for range 1 + r.Intn(3) {
				sample.Stray(p, &s, r.Intn)
			}
			e := state.Check(p, s)
			for _, id := range sections {
				x, y, z := section(s, id, 1), api.ErrNone, api.ErrArg
				if e == api.OK {
					right++
				} else {
					x, y, z = api.State{}, e, e
					wrong++
				}
				isSection(t, name, p, s, id, 1, x, e)
				isSection(t, name, p, s, 0, 1, api.State{}, y)
				isSection(t, name, p, s, id, 2, api.State{}, z)
			}
			for _, id := range points {
				x, y, z := detected(s, id, 2), api.ErrNone, api.ErrArg
				if e != api.OK {
					x, y, z = api.State{}, e, e
				}
				isDetect(t, name, p, s, id, 2, x, e)
				isDetect(t, name, p, s, 100, 2, api.State{}, y)
				isDetect(t, name, p, s, id, 3, api.State{}, z)
			}
		}
	}
	if right < 300 || wrong < 300 {
		t.Errorf("but %d times it may be, and %d times it may not", right, wrong)
	}
}

// P16.1: two and three errors at once: the plan's comes first, then the state's, then the number's, then what is told.
func TestOrder(t *testing.T) {
	p, q := sample.Rails(), sample.Busy()
	s, bad := sample.Stands(p), sample.Dead()["no phase"]
	for _, x := range []struct {
		p     api.Plan
		s     api.State
		id, n int
		err   api.Errno
	}{
		{q, bad, 77, 9, api.ErrPlan}, {q, s, 77, 9, api.ErrPlan}, {q, bad, 10, 9, api.ErrPlan}, {q, bad, 77, 1, api.ErrPlan}, {q, s, 10, 1, api.ErrPlan},
		{p, bad, 77, 9, api.ErrBad}, {p, bad, 10, 9, api.ErrBad}, {p, bad, 77, 1, api.ErrBad}, {p, bad, 10, 1, api.ErrBad},
		{p, s, 77, 9, api.ErrNone}, {p, s, 77, -1, api.ErrNone}, {p, s, 0, 3, api.ErrNone}, {p, s, -1, 1, api.ErrNone}, {p, s, 10, 9, api.ErrArg}, {p, s, 10, -1, api.ErrArg},
	} {
		isSection(t, "order", x.p, x.s, x.id, x.n, api.State{}, x.err)
		isDetect(t, "order", x.p, x.s, x.id, x.n, api.State{}, x.err)
	}
}

// P16.1: plans with nothing in a list, and lists that are nil or not.
func TestNothing(t *testing.T) {
	none, empty := api.State{}, api.State{Tracks: []api.Track{}, Switches: []api.Switch{}, Locks: []api.Lock{}}
	for _, p := range []api.Plan{{Version: 1}, {Version: 1, Sections: []api.Section{}, Points: []api.Point{}, Signals: []api.Signal{}, Routes: []api.Route{}}} {
		for _, s := range []api.State{none, empty} {
			for _, id := range []int{-1, 0, 1, 99} {
				isSection(t, "nothing", p, s, id, 0, api.State{}, api.ErrNone)
				isDetect(t, "nothing", p, s, id, 0, api.State{}, api.ErrNone)
			}
		}
	}
	p := sample.Big(1, 0, 0, 0, 0, 0, 0)
	for _, s := range []api.State{{Tracks: []api.Track{{Id: 99, Is: 2}}}, {Tracks: []api.Track{{Id: 99, Is: 2}}, Switches: empty.Switches, Locks: empty.Locks}} {
		isSection(t, "one section", p, s, 99, 1, api.State{Tracks: []api.Track{{Id: 99, Is: 1}}}, api.OK)
		isSection(t, "one section", p, s, 99, 2, api.State{}, api.ErrArg)
		isDetect(t, "no point", p, s, 99, 1, api.State{}, api.ErrNone)
	}
}

// P16.2: what is handed in is only read, its spare room too, with an error or without.
func TestOnlyRead(t *testing.T) {
	list, names := plans()
	for name, p := range sample.Unsound() {
		list["odd: "+name], names = p, append(names, "odd: "+name)
	}
	slices.Sort(names)
	r := rand.New(rand.NewSource(165))
	for _, name := range names {
		p := sample.Spare(list[name])
		was := sample.Whole(p)
		s := sample.SpareState(sample.Unlocked(p, r.Intn))
		if e := state.Check(p, s); e == api.OK {
			s = sample.SpareState(sample.Lived(p, r.Intn))
		}
		sections, points := things(p)
		for range 3 {
			before := text(sample.WholeState(s))
			for n := range 4 {
				for _, id := range append(sections, 100) {
					input.Section(p, s, id, n)
				}
				for _, id := range append(points, 100) {
					input.Detect(p, s, id, n)
				}
			}
			if text(sample.WholeState(s)) != before || !plan.Same(sample.Whole(p), was) {
				t.Errorf("%s: changed: %v, %v", name, s, p)
			}
			if len(s.Locks) > 0 {
				sample.Stray(p, &s, r.Intn)
			}
		}
	}
}

// P16.2: what is answered is new memory, each time, no two lists of it share any, and it hangs on what was handed in no longer.
func TestApart(t *testing.T) {
	list, names := plans()
	r := rand.New(rand.NewSource(166))
	for _, name := range names {
		p := plan.Twin(list[name])
		s := sample.Lived(p, r.Intn)
		was := text(s)
		sections, points := things(p)
		var calls []func() api.State
		var wants []string
		for _, id := range sections {
			calls = append(calls, func() api.State { x, _ := input.Section(p, s, id, 1); return x })
			wants = append(wants, text(section(s, id, 1)))
		}
		for _, id := range points {
			calls = append(calls, func() api.State { x, _ := input.Detect(p, s, id, 1); return x })
			wants = append(wants, text(detected(s, id, 1)))
		}
		var kept []api.State
		for i, call := range calls {
			kept = append(kept, call())
			spoil(call())
			if text(call()) != wants[i] || text(kept[i]) != wants[i] || text(s) != was || !plan.Same(p, list[name]) {
				t.Errorf("%s, call %d: shared: %v; want %s", name, i, call(), wants[i])
			}
			parts(t, name, call)
		}
		spoil(s)
		for _, at := range sample.Numbers(&p) {
			*at = 77
		}
		for i, x := range kept {
			if text(x) != wants[i] {
				t.Errorf("%s, call %d: changed along: %v; want %s", name, i, x, wants[i])
			}
		}
	}
}

// spoil writes over all of s, its spare room too.
func spoil(s api.State) {
	for i := range s.Tracks[:cap(s.Tracks)] {
		s.Tracks[:cap(s.Tracks)][i] = api.Track{Id: 77, Is: 77}
	}
	for i := range s.Switches[:cap(s.Switches)] {
		s.Switches[:cap(s.Switches)][i] = api.Switch{Id: 77, Lie: 77, Call: 77}
	}
	for i := range s.Locks[:cap(s.Locks)] {
		s.Locks[:cap(s.Locks)][i] = api.Lock{Id: 77, Phase: 77, Gone: 77, Left: 77}
	}
}

// parts asks that each list of what call answers can be written over, and its other lists stay.
func parts(t *testing.T, name string, call func() api.State) {
	t.Helper()
	want := call()
	for i := range 3 {
		x := call()
		spoil([3]api.State{{Tracks: x.Tracks}, {Switches: x.Switches}, {Locks: x.Locks}}[i])
		switch i {
		case 0:
			x.Tracks = want.Tracks
		case 1:
			x.Switches = want.Switches
		case 2:
			x.Locks = want.Locks
		}
		if text(x) != text(want) {
			t.Errorf("%s: list %d is not apart: %v; want %v", name, i, x, want)
		}
	}
}

// one is something told: of a section, or of a point.
type one struct {
	point bool
	id, n int
}

// tell answers s, of which x is told.
func (x one) tell(t *testing.T, p api.Plan, s api.State) api.State {
	t.Helper()
	call := input.Section
	if x.point {
		call = input.Detect
	}
	out, e := call(p, s, x.id, x.n)
	if e != api.OK {
		t.Fatalf("%v: %d: %v: %v", x, int(e), s, p)
	}
	return out
}

// all answers all that may be told of p's sections and points.
func all(p api.Plan) []one {
	var out []one
	sections, points := things(p)
	for _, id := range sections {
		out = append(out, one{false, id, 0}, one{false, id, 1})
	}
	for _, id := range points {
		out = append(out, one{true, id, 0}, one{true, id, 1}, one{true, id, 2})
	}
	return out
}

// P16.3: what is told last counts; what is told of two things may be told in either order: two sections, two points, a section and a point.
func TestTwice(t *testing.T) {
	list, names := plans()
	r := rand.New(rand.NewSource(167))
	seen := map[string]int{}
	for _, name := range names {
		p := list[name]
		for i := range 2 {
			s := sample.Lived(p, r.Intn)
			for _, a := range all(p) {
				for _, b := range all(p) {
					if name == "ring" && r.Intn(10) > 0 || i == 1 && r.Intn(5) > 0 {
						continue
					}
					first, last := a.tell(t, p, s), b.tell(t, p, s)
					both, turned := b.tell(t, p, first), a.tell(t, p, last)
					if a.point == b.point && a.id == b.id {
						if !state.Same(both, last) || !state.Same(turned, first) {
							t.Errorf("%s: %v, then %v: %v; want %v: %v", name, a, b, both, last, s)
						}
						seen["one thing"]++
						continue
					}
					if !state.Same(both, turned) {
						t.Errorf("%s: %v and %v: %v; the other way round %v: %v", name, a, b, both, turned, s)
					}
					seen[fmt.Sprint(a.point, b.point)]++
				}
			}
		}
	}
	for _, key := range []string{"one thing", "false false", "false true", "true false", "true true"} {
		if seen[key] < 100 {
			t.Errorf("%s: but %d times", key, seen[key])
		}
	}
}

// P16.3: nothing that is kept changes; who holds, and what is asked, stays; what is answered may be, and its image is that of what was.
func TestStays(t *testing.T) {
	list, names := plans()
	r := rand.New(rand.NewSource(168))
	held, asked := 0, 0
	for _, name := range names {
		p := list[name]
		sections, points := things(p)
		for range 10 {
			s := sample.Lived(p, r.Intn)
			told := s
			for range 4 {
				if each := all(p); len(each) > 0 {
					told = each[r.Intn(len(each))].tell(t, p, told)
				}
			}
			if e := state.Check(p, told); e != api.OK || !state.Kept(s, told) || !slices.Equal(s.Locks, told.Locks) {
				t.Errorf("%s: %d: %v became %v: %v", name, int(e), s, told, p)
			}
			a, _ := state.Image(p, s)
			if b, e := state.Image(p, told); !state.Same(a, b) || e != api.OK {
				t.Errorf("%s: the image %v became %v, %d", name, a, b, int(e))
			}
			for _, id := range sections {
				a, _ := state.Holder(p, s, id)
				if b, e := state.Holder(p, told, id); a != b || e != api.OK {
					t.Errorf("%s: %d is held by %d, then by %d, %d: %v", name, id, a, b, int(e), told)
				}
				held += min(a, 1)
			}
			for _, id := range points {
				a, _ := state.Asked(p, s, id)
				if b, e := state.Asked(p, told, id); a != b || e != api.OK {
					t.Errorf("%s: of %d %d is asked, then %d, %d: %v", name, id, a, b, int(e), told)
				}
				asked += min(a, 1)
			}
		}
	}
	if held < 300 || asked < 100 {
		t.Errorf("but %d are held, and %d are asked", held, asked)
	}
}

// R2: asked again it is the same, whatever was asked between.
func TestAgain(t *testing.T) {
	p, q := sample.Rails(), sample.Ring()
	other := sample.Stands(q, api.Lock{Id: 84, Phase: api.Set})
	for name, s := range sample.Together() {
		for range 5 {
			for _, x := range all(p) {
				want, call := section(s, x.id, x.n), isSection
				if x.point {
					want, call = detected(s, x.id, x.n), isDetect
				}
				call(t, name, p, s, x.id, x.n, want, api.OK)
			}
			input.Section(q, other, 84, 1)
			input.Detect(q, other, 94, 2)
			input.Section(p, s, 0, 1)
			input.Detect(p, s, 10, 3)
			input.Section(api.Plan{}, api.State{}, 1, 1)
		}
	}
}

// The chapter's examples.
func TestExamples(t *testing.T) {
	p := api.Plan{Version: 1, Sections: []api.Section{{Id: 1, Ends: []api.Join{{}, {}}}}}
	s, _ := state.At(p)
	if x, e := input.Section(p, s, 1, 0); e != api.OK || x.Tracks[0].Is != api.Free {
		t.Errorf("Section: %v, %d", x, int(e))
	}
	isSection(t, "example", p, s, 98, 0, api.State{}, api.ErrNone)
	isSection(t, "example", p, s, 1, 2, api.State{}, api.ErrArg)
	isDetect(t, "example", p, s, 1, 1, api.State{}, api.ErrNone)
}
