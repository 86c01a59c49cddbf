package state_test

import (
	"fmt"
	"math"
	"math/rand"
	"slices"
	"testing"

	"leverframe/api"
	"leverframe/plan"
	"leverframe/sample"
	"leverframe/state"
	"leverframe/way"
)

// check asks that Check answers so.
func check(t *testing.T, name string, p api.Plan, s api.State, want api.Errno) {
	t.Helper()
	if e := state.Check(p, s); e != want {
		t.Errorf("%s: Check: %d; want %d: %v: %v", name, int(e), int(want), s, p)
	}
}

// holder asks that Holder answers so.
func holder(t *testing.T, name string, p api.Plan, s api.State, section, want int, err api.Errno) {
	t.Helper()
	if got, e := state.Holder(p, s, section); got != want || e != err {
		t.Errorf("%s: Holder(%d): %d, %d; want %d, %d: %v: %v", name, section, got, int(e), want, int(err), s, p)
	}
}

// asked asks that Asked answers so.
func asked(t *testing.T, name string, p api.Plan, s api.State, point, want int, err api.Errno) {
	t.Helper()
	if got, e := state.Asked(p, s, point); got != want || e != err {
		t.Errorf("%s: Asked(%d): %d, %d; want %d, %d: %v: %v", name, point, got, int(e), want, int(err), s, p)
	}
}

// image asks that Image answers just that.
func image(t *testing.T, name string, p api.Plan, s, want api.State, err api.Errno) {
	t.Helper()
	if got, e := state.Image(p, s); text(got) != text(want) || e != err {
		t.Errorf("%s: Image: %v, %d; want %v, %d: %v: %v", name, got, int(e), want, int(err), s, p)
	}
}

// may asks that s may be, of p, who holds each section, what is asked of each point, and what the image is.
func may(t *testing.T, name string, p api.Plan, s api.State, holders, lies m) {
	t.Helper()
	check(t, name, p, s, api.OK)
	for _, x := range p.Sections {
		holder(t, name, p, s, x.Id, holders[x.Id], api.OK)
	}
	for _, x := range p.Points {
		asked(t, name, p, s, x.Id, lies[x.Id], api.OK)
	}
	image(t, name, p, s, imaged(p, s), api.OK)
}

// refused asks that all calls answer that error, whatever section or point is asked for.
func refused(t *testing.T, name string, p api.Plan, s api.State, err api.Errno) {
	t.Helper()
	check(t, name, p, s, err)
	for _, id := range []int{-1, 0, 1, 2, 3, 10, 77, 99, 100} {
		holder(t, name, p, s, id, 0, err)
		asked(t, name, p, s, id, 0, err)
	}
	image(t, name, p, s, api.State{}, err)
}

// judged asks that all calls answer of s, any state, and p, which may run, as the words say, and answers whether s may be.
func judged(t *testing.T, name string, p api.Plan, s api.State) bool {
	t.Helper()
	holders, lies, is := words(p, s)
	if is {
		may(t, name, p, s, holders, lies)
	} else {
		refused(t, name, p, s, api.ErrBad)
	}
	return is
}

// P15.1: the state in which all is at rest, of all kinds of plans.
func TestAt(t *testing.T) {
	list, names := plans()
	for _, name := range names {
		p := list[name]
		var want api.State
		for _, x := range p.Sections {
			want.Tracks = append(want.Tracks, api.Track{Id: x.Id, Is: 2})
		}
		for _, x := range p.Points {
			want.Switches = append(want.Switches, api.Switch{Id: x.Id})
		}
		for _, x := range p.Routes {
			want.Locks = append(want.Locks, api.Lock{Id: x.Id})
		}
		s, e := state.At(p)
		if text(s) != text(want) || e != api.OK {
			t.Errorf("%s: At: %v, %d; want %v: %v", name, s, int(e), want, p)
		}
		may(t, name, p, s, m{}, m{})
		image(t, name, p, s, s, api.OK)
	}
}

// P15.1, P15.2: states told one by one: routes in each phase, at each place, alone and together.
func TestTold(t *testing.T) {
	p := sample.Rails()
	for name, x := range lives() {
		s := stands(p, x.locks, x.lies)
		may(t, name, p, s, x.holders, x.lies)
		if holders, lies, is := words(p, s); fmt.Sprint(holders, lies, is) != fmt.Sprint(x.holders, x.lies, true) {
			t.Errorf("%s: the words tell %v, %v, %v; want %v, %v", name, holders, lies, is, x.holders, x.lies)
		}
	}
}

// P15.1, P15.2: what is known, and how points were called that nothing asks, tells nothing of who holds and what is asked; a point that is asked may be detected otherwise.
func TestKnown(t *testing.T) {
	p := sample.Rails()
	for name, x := range lives() {
		for is := range uint8(3) {
			for lie := range 3 {
				s := stands(p, x.locks, x.lies)
				for i := range s.Tracks {
					s.Tracks[i].Is = is
				}
				for i := range s.Switches {
					w := &s.Switches[i]
					w.Lie = lie
					if x.lies[w.Id] == 0 {
						w.Call = 2 - lie
					}
				}
				may(t, fmt.Sprint(name, ", ", is, ", ", lie), p, s, x.holders, x.lies)
			}
		}
	}
}

// P15.1: a point that is asked, and is called otherwise, or not at all; one that was given up may be called as one likes.
func TestCalled(t *testing.T) {
	p := sample.Rails()
	for name, x := range lives() {
		for i, w := range p.Points {
			for _, call := range []int{0, 1, 2} {
				s := stands(p, x.locks, x.lies)
				s.Switches[i].Call = call
				if lie := x.lies[w.Id]; lie != 0 && lie != call {
					refused(t, fmt.Sprint(name, ", point ", w.Id), p, s, api.ErrBad)
				} else {
					may(t, fmt.Sprint(name, ", point ", w.Id), p, s, x.holders, x.lies)
				}
			}
		}
	}
}

// P15.1: a section held by two routes, and a point asked for two lies, however the points are called.
func TestClashes(t *testing.T) {
	p := sample.Rails()
	for name, list := range clashes() {
		calls := m{}
		for range int(math.Pow(3, 6)) {
			check(t, name, p, stands(p, list, calls), api.ErrBad)
			for _, point := range []int{10, 20, 30, 40, 50, 60} {
				calls[point] = (calls[point] + 1) % 3
				if calls[point] != 0 {
					break
				}
			}
		}
		refused(t, name, p, stands(p, list, calls), api.ErrBad)
	}
}

// P15.1: each route alone, with all phases, places and numbers left, those that may not be too.
func TestAlone(t *testing.T) {
	list, _ := plans()
	right, wrong := 0, 0
	for _, name := range []string{"rails", "station", "small"} {
		p := list[name]
		for i, r := range p.Routes {
			s := stands(p, nil, nil)
			w, _ := way.Of(p, r.Id)
			for _, a := range w.Asks {
				k := slices.IndexFunc(s.Switches, func(x api.Switch) bool { return x.Id == a.Point })
				s.Switches[k].Call = a.Lie
			}
			gones, lefts := []int{math.MinInt, -1 << 32, -256, math.MaxInt, 1 << 32, 256}, []int{math.MinInt, -1 << 32, math.MaxInt, 1 << 32, 1<<32 + 1, 257}
			for n := -2; n < len(r.Path)+4; n++ {
				gones = append(gones, n)
			}
			for n := -2; n < r.Timer+3; n++ {
				lefts = append(lefts, n)
			}
			for _, phase := range []uint8{0, 1, 2, 3, 4, 5, 6, 128, 255} {
				for _, gone := range gones {
					for _, left := range lefts {
						s.Locks[i] = api.Lock{Id: r.Id, Phase: phase, Gone: gone, Left: left}
						holders, lies, is := words(p, s)
						if is {
							may(t, name, p, s, holders, lies)
							right++
						} else {
							check(t, name, p, s, api.ErrBad)
							wrong++
						}
					}
				}
			}
		}
	}
	if right < 100 || wrong < 5000 {
		t.Errorf("but %d may be, and %d may not", right, wrong)
	}
}

// P15.1: two routes at a time, with all phases and places, those that may be together, and those that may not.
func TestTwo(t *testing.T) {
	p := sample.Rails()
	var all []locks
	for _, r := range p.Routes {
		one := locks{set(r.Id), falling(r.Id, r.Timer), ending(r.Id, len(r.Path)-1, 1)}
		for gone := range r.Path {
			one = append(one, used(r.Id, gone))
		}
		all = append(all, one)
	}
	right, wrong := 0, 0
	for i, first := range all {
		for _, second := range all[:i] {
			for _, a := range first {
				for _, b := range second {
					calls := m{}
					for _, l := range []api.Lock{a, b} {
						_, asks := sample.Holds(p, l)
						for _, x := range asks {
							calls[x.Point] = x.Lie
						}
					}
					if judged(t, "two", p, stands(p, locks{a, b}, calls)) {
						right++
					} else {
						wrong++
					}
				}
			}
		}
	}
	if right < 100 || wrong < 100 {
		t.Errorf("but %d may be, and %d may not", right, wrong)
	}
}

// P15.1: lists that are short of one element, have one more, or stand in another order; no state at all.
func TestLists(t *testing.T) {
	list, names := plans()
	r := rand.New(rand.NewSource(151))
	for _, name := range names {
		p := list[name]
		s := sample.Lived(p, r.Intn)
		check(t, name, p, s, api.OK)
		sample.Listed(&s, func() { check(t, name, p, s, api.ErrBad) })
		none := len(p.Sections) == 0
		if e := state.Check(p, api.State{}); (e == api.OK) != none || !none && e != api.ErrBad {
			t.Errorf("%s: no state: %d", name, int(e))
		}
	}
	for name, x := range lives() {
		p := sample.Rails()
		s := stands(p, x.locks, x.lies)
		sample.Listed(&s, func() { refused(t, name, p, s, api.ErrBad) })
	}
	p := sample.Rails()
	s := stands(p, nil, nil)
	for _, y := range []api.State{{Switches: s.Switches, Locks: s.Locks}, {Tracks: s.Tracks, Locks: s.Locks}, {Tracks: s.Tracks, Switches: s.Switches}} {
		refused(t, "no list", p, y, api.ErrBad)
	}
}

// P15.1: each number of a state changed by itself, in turn: what is beyond its greatest value, or below nought, and what may be.
func TestTurned(t *testing.T) {
	p := sample.Rails()
	right, wrong := 0, 0
	for name, x := range lives() {
		s := stands(p, x.locks, x.lies)
		sample.Turned(&s, []int{-1, 0, 1, 2, 3, 5, 256, 1<<32 + 1, math.MinInt}, func(place int) {
			holders, lies, is := words(p, s)
			switch {
			case is && right%7 == 0: // all calls of each one would take long
				may(t, fmt.Sprint(name, ", number ", place), p, s, holders, lies)
				right++
			case is:
				check(t, fmt.Sprint(name, ", number ", place), p, s, api.OK)
				right++
			default:
				check(t, fmt.Sprint(name, ", number ", place), p, s, api.ErrBad)
				wrong++
			}
		})
	}
	if right < 1000 || wrong < 1000 {
		t.Errorf("but %d may be, and %d may not", right, wrong)
	}
}

// P15.1, P15.2: states made by chance that may be, of plans told and made by chance.
func TestLived(t *testing.T) {
	list, names := plans()
	r := rand.New(rand.NewSource(152))
	held, asks := 0, 0
	for _, name := range names {
		p := list[name]
		for i := range 20 {
			s := sample.Lived(p, r.Intn)
			holders, lies, is := words(p, s)
			if !is {
				t.Errorf("%s: the words say that it may not be: %v: %v", name, s, p)
			}
			may(t, fmt.Sprint(name, ", time ", i), p, s, holders, lies)
			held, asks = held+len(holders), asks+len(lies)
		}
	}
	if held < 500 || asks < 200 {
		t.Errorf("but %d are held, and %d are asked", held, asks)
	}
}

// P15.1: states that were changed by chance, until they may be no more.
func TestStrayed(t *testing.T) {
	list, names := plans()
	r := rand.New(rand.NewSource(153))
	right, wrong := 0, 0
	for _, name := range names {
		p := list[name]
		for i := range 10 {
			s := sample.Lived(p, r.Intn)
			for range 6 {
				sample.Stray(p, &s, r.Intn)
				if !judged(t, fmt.Sprint(name, ", time ", i), p, s) {
					wrong++
					break
				}
				right++
			}
		}
	}
	if right < 100 || wrong < 100 {
		t.Errorf("but %d may be, and %d may not", right, wrong)
	}
}

// P15.1, P15.2: plans that may not be, or may not run, whatever the state, the section and the point.
func TestUnsound(t *testing.T) {
	for name, p := range sample.Unsound() {
		for other, s := range map[string]api.State{"its own": stands(p, nil, nil), "no state": {}, "one that may not be": stands(p, locks{ending(2, 9, 9)}, m{30: 7})} {
			refused(t, name+", "+other, p, s, api.ErrPlan)
			for _, id := range far {
				holder(t, name, p, s, id, 0, api.ErrPlan)
				asked(t, name, p, s, id, 0, api.ErrPlan)
			}
		}
		if s, e := state.At(p); text(s) != text(api.State{}) || e != api.ErrPlan {
			t.Errorf("%s: At: %v, %d: %v", name, s, int(e), p)
		}
	}
}

// P15.2: sections and points that are not there, also where the other kind's is; ErrBad comes first.
func TestNone(t *testing.T) {
	list, names := plans()
	r := rand.New(rand.NewSource(154))
	for _, name := range names {
		p := list[name]
		s := sample.Lived(p, r.Intn)
		ids := slices.Clone(far)
		for id := range 100 {
			ids = append(ids, id)
		}
		sections, points := m{}, m{}
		for _, x := range p.Sections {
			sections[x.Id] = 1
		}
		for _, x := range p.Points {
			points[x.Id] = 1
		}
		for _, id := range ids {
			if sections[id] == 0 {
				holder(t, name, p, s, id, 0, api.ErrNone)
			}
			if points[id] == 0 {
				asked(t, name, p, s, id, 0, api.ErrNone)
			}
		}
	}
	p := sample.Rails()
	bad := stands(p, locks{{Id: 2, Phase: 5}}, nil)
	for _, id := range far {
		holder(t, "a state that may not be", p, bad, id, 0, api.ErrBad)
		asked(t, "a state that may not be", p, bad, id, 0, api.ErrBad)
	}
}

// P15.1, P15.2: the greatest plan: two routes hold all of it and ask all of it; a third one may be there only as the one goes by.
func TestGreatest(t *testing.T) {
	p := sample.Ring()
	lies := m{94: 2, 95: 1, 96: 2, 97: 1, 98: 2, 99: 1}
	first, second := []int{84, 85, 86, 87, 88, 89, 90, 91}, []int{92, 93, 94, 95, 96, 97, 98, 99}
	for a := 84; a < 96; a += 2 {
		for b := 85; b < 96; b += 2 {
			may(t, "both", p, stands(p, locks{set(a), falling(b, 1)}, lies), by(a, first...).with(b, second...), lies)
		}
	}
	for gone := range 6 {
		s := stands(p, locks{used(94, gone), ending(95, 5, 1)}, lies)
		may(t, fmt.Sprint("gone ", gone), p, s, by(94, first[gone:]...).with(95, second[5:]...), lies)
	}
	for timer := 1; timer <= 9; timer++ {
		may(t, "ending", p, stands(p, locks{ending(84, 5, timer)}, lies), by(84, 89, 90, 91), m{94: 2, 95: 1, 96: 2, 97: 1})
		may(t, "falling", p, stands(p, locks{falling(84, timer)}, lies), by(84, first...), lies)
	}
	for name, list := range map[string]locks{"6 gone": {used(84, 6)}, "8 gone": {used(84, 8)}, "ending 4": {ending(84, 4, 1)}, "10 left": {ending(84, 5, 10)}, "2 left": {falling(85, 2)}, "one half": {set(84), ending(86, 5, 1)}, "two lies": {set(84), set(97)}, "three": {set(84), set(85), used(99, 5)}} {
		refused(t, name, p, stands(p, list, lies), api.ErrBad)
	}
}

// P15.1, P15.2: plans with nothing in a list, and lists that are nil or not.
func TestNothing(t *testing.T) {
	none, empty := api.State{}, api.State{Tracks: []api.Track{}, Switches: []api.Switch{}, Locks: []api.Lock{}}
	for _, p := range []api.Plan{{Version: 1}, {Version: 1, Sections: []api.Section{}, Points: []api.Point{}, Signals: []api.Signal{}, Routes: []api.Route{}}} {
		for _, s := range []api.State{none, empty} {
			may(t, "nothing", p, s, m{}, m{})
			holder(t, "nothing", p, s, 1, 0, api.ErrNone)
			asked(t, "nothing", p, s, 1, 0, api.ErrNone)
			refused(t, "one section", p, api.State{Tracks: []api.Track{{Id: 1}}}, api.ErrBad)
			refused(t, "one point", p, api.State{Switches: []api.Switch{{Id: 1}}}, api.ErrBad)
			refused(t, "one route", p, api.State{Locks: []api.Lock{{Id: 1}}}, api.ErrBad)
		}
	}
	p := sample.Big(1, 0, 0, 0, 0, 0, 0)
	for _, s := range []api.State{{Tracks: []api.Track{{Id: 99}}}, {Tracks: []api.Track{{Id: 99, Is: 1}}, Switches: empty.Switches, Locks: empty.Locks}} {
		may(t, "one section", p, s, m{}, m{})
		asked(t, "one section", p, s, 99, 0, api.ErrNone)
	}
	for _, x := range []bool{state.Kept(none, empty), state.Same(none, empty), state.Same(empty, none), state.Kept(empty, none), text(state.Twin(empty)) == text(none)} {
		if !x {
			t.Errorf("lists without elements are not the same")
		}
	}
}

// states answers states, each by a name: such as may be, and such as may not be, of any plan.
func states() map[string]api.State {
	list := map[string]api.State{
		"nothing":    {},
		"tracks":     {Tracks: []api.Track{{Id: 5, Is: 9}, {Id: 5, Is: 9}, {Id: -1, Is: 255}}},
		"switches":   {Switches: []api.Switch{{Id: 9, Lie: -1, Call: 7}, {Id: 1, Lie: 1 << 40, Call: 1 << 40}}},
		"locks":      {Locks: []api.Lock{{Id: 3, Phase: 200, Gone: -4, Left: 1 << 40}, {Id: 3}}},
		"no numbers": {Tracks: make([]api.Track, 3), Switches: make([]api.Switch, 2), Locks: make([]api.Lock, 1)},
		"many":       {Tracks: make([]api.Track, 1000), Switches: make([]api.Switch, 500), Locks: make([]api.Lock, 700)},
	}
	p := sample.Rails()
	for name, x := range lives() {
		list[name] = stands(p, x.locks, x.lies)
	}
	return list
}

// same asks that Same and Kept answer that of a and b, the other way round too.
func same(t *testing.T, name string, a, b api.State, is, kept bool) {
	t.Helper()
	if state.Same(a, b) != is || state.Same(b, a) != is {
		t.Errorf("%s: Same: %v, %v; want %v: %v, %v", name, state.Same(a, b), state.Same(b, a), is, a, b)
	}
	if state.Kept(a, b) != kept || state.Kept(b, a) != kept {
		t.Errorf("%s: Kept: %v, %v; want %v: %v, %v", name, state.Kept(a, b), state.Kept(b, a), kept, a, b)
	}
}

// P15.3: each state beside itself, a copy, its twin and each other one.
func TestSame(t *testing.T) {
	list := states()
	for name, a := range list {
		same(t, name, a, a, true, true)
		same(t, name+", twin", a, state.Twin(a), true, true)
		same(t, name+", in other memory", a, sample.SpareState(a), true, true)
		for other, b := range list {
			x, y := a, b
			x.Tracks, y.Tracks = nil, nil
			kept := text(imaged(sample.Rails(), short(x))) == text(imaged(sample.Rails(), short(y)))
			same(t, name+", "+other, a, b, text(a) == text(b), kept)
		}
	}
}

// short answers s, in new memory, without the ticks that are left.
func short(s api.State) api.State {
	s.Locks = slices.Clone(s.Locks)
	for i := range s.Locks {
		s.Locks[i].Left = 0
	}
	return s
}

// P15.3: states that differ in one number alone, of each of the three lists, or in a list.
func TestOneNumber(t *testing.T) {
	for name, a := range states() {
		if len(a.Tracks) > 100 {
			continue
		}
		b := state.Twin(a)
		sample.Turned(&b, []int{-3, 6, 11, 1 << 33}, func(place int) {
			is := text(a) == text(b)
			// Of a section nothing is kept; of a point its number and call; of a route all but what is left.
			kept := is || place < 2*len(a.Tracks)
			if place -= 2 * len(a.Tracks); place >= 0 && place < 3*len(a.Switches) {
				kept = is || place%3 == 1
			} else if place -= 3 * len(a.Switches); place >= 0 {
				kept = is || place%4 == 3
			}
			same(t, fmt.Sprint(name, ", number ", place), a, b, is, kept)
		})
		sample.Listed(&b, func() {
			is := text(a) == text(b)
			kept := is || fmt.Sprint(a.Switches, a.Locks) == fmt.Sprint(b.Switches, b.Locks)
			same(t, name+", a list", a, b, is, kept)
		})
	}
}

// P15.3: a twin has all that is there, in new memory, of any states; so has it of none.
func TestTwin(t *testing.T) {
	for name, s := range states() {
		want := text(s)
		other := state.Twin(s)
		if text(other) != want {
			t.Errorf("%s: %v; want %v", name, other, s)
		}
		if len(s.Tracks) > 100 {
			continue
		}
		sample.Turned(&other, []int{77, 88}, func(place int) {
			if text(s) != want {
				t.Errorf("%s: number %d: changed along: %v", name, place, s)
			}
		})
	}
}

// P15.4: what is handed in is only read, its spare room too.
func TestOnlyRead(t *testing.T) {
	list, names := plans()
	for name, p := range sample.Unsound() {
		list["odd: "+name], names = p, append(names, "odd: "+name)
	}
	slices.Sort(names)
	r := rand.New(rand.NewSource(155))
	for _, name := range names {
		p := sample.Spare(list[name])
		was := sample.Whole(p)
		s := sample.SpareState(sample.Unlocked(p, r.Intn))
		if e := state.Check(p, s); e == api.OK {
			s = sample.SpareState(sample.Lived(p, r.Intn))
		}
		for range 5 {
			before := text(sample.WholeState(s))
			state.At(p)
			state.Check(p, s)
			state.Image(p, s)
			for id := range 100 {
				state.Holder(p, s, id)
				state.Asked(p, s, id)
			}
			state.Kept(s, s)
			state.Same(s, s)
			state.Twin(s)
			if text(sample.WholeState(s)) != before || !plan.Same(sample.Whole(p), was) {
				t.Errorf("%s: changed: %v, %v", name, s, p)
			}
			if len(s.Locks) > 0 {
				sample.Stray(p, &s, r.Intn)
			}
		}
	}
}

// P15.4: what is answered is new memory, each time, no two lists of it share any, and it hangs on what was handed in no longer.
func TestApart(t *testing.T) {
	list, names := plans()
	r := rand.New(rand.NewSource(156))
	for _, name := range names {
		p := plan.Twin(list[name])
		s := sample.Lived(p, r.Intn)
		was := text(s)
		at, _ := state.At(p)
		calls := map[string]func() api.State{
			"At":    func() api.State { x, _ := state.At(p); return x },
			"Image": func() api.State { x, _ := state.Image(p, s); return x },
			"Twin":  func() api.State { return state.Twin(s) },
		}
		wants := map[string]string{"At": text(at), "Image": text(imaged(p, s)), "Twin": was}
		kept := map[string]api.State{}
		for key, call := range calls {
			kept[key] = call()
			spoil(call())
			if text(call()) != wants[key] || text(kept[key]) != wants[key] || text(s) != was || !plan.Same(p, list[name]) {
				t.Errorf("%s, %s: shared: %v; want %s", name, key, call(), wants[key])
			}
			parts(t, name+", "+key, call)
		}
		spoil(s)
		for _, at := range sample.Numbers(&p) {
			*at = 77
		}
		for key, x := range kept {
			if text(x) != wants[key] {
				t.Errorf("%s, %s: changed along: %v; want %s", name, key, x, wants[key])
			}
		}
	}
}

// spoil writes over all of s, its spare room too.
func spoil(s api.State) {
	for i := range s.Tracks[:cap(s.Tracks)] {
		s.Tracks[:cap(s.Tracks)][i] = api.Track{Id: 77, Is: 77}
	}
	for i := range s.Switches[:cap(s.Switches)] {
		s.Switches[:cap(s.Switches)][i] = api.Switch{Id: 77, Lie: 77, Call: 77}
	}
	for i := range s.Locks[:cap(s.Locks)] {
		s.Locks[:cap(s.Locks)][i] = api.Lock{Id: 77, Phase: 77, Gone: 77, Left: 77}
	}
}

// parts asks that each list of what call answers can be written over, and its other lists stay.
func parts(t *testing.T, name string, call func() api.State) {
	t.Helper()
	want := call()
	for i := range 3 {
		x := call()
		one := [3]api.State{{Tracks: x.Tracks}, {Switches: x.Switches}, {Locks: x.Locks}}[i]
		spoil(one)
		switch i {
		case 0:
			x.Tracks = want.Tracks
		case 1:
			x.Switches = want.Switches
		case 2:
			x.Locks = want.Locks
		}
		if text(x) != text(want) {
			t.Errorf("%s: list %d is not apart: %v; want %v", name, i, x, want)
		}
	}
}

// R2: asked again it is the same, whatever was asked between.
func TestAgain(t *testing.T) {
	p, q := sample.Rails(), sample.Ring()
	other := stands(q, locks{set(84)}, m{94: 2, 95: 1, 96: 2, 97: 1, 98: 2, 99: 1})
	for name, x := range lives() {
		s := stands(p, x.locks, x.lies)
		for range 5 {
			may(t, name, p, s, x.holders, x.lies)
			state.Check(q, other)
			state.Holder(q, other, 84)
			state.Check(p, stands(p, locks{set(2), set(5)}, nil))
			state.At(api.Plan{})
		}
	}
}

// P15.5: an image may be, is its own image, and keeps what is kept; who holds, and what is asked, stays.
func TestImages(t *testing.T) {
	list, names := plans()
	r := rand.New(rand.NewSource(157))
	unlike := 0
	for _, name := range names {
		p := list[name]
		for range 20 {
			s := sample.Lived(p, r.Intn)
			x, e := state.Image(p, s)
			if e != api.OK || !state.Kept(x, s) || !state.Kept(s, x) {
				t.Errorf("%s: %v, %d: %v", name, x, int(e), s)
			}
			holders, lies, _ := words(p, s)
			may(t, name, p, x, holders, lies)
			again, e := state.Image(p, x)
			if e != api.OK || !state.Same(x, again) {
				t.Errorf("%s: the image of %v: %v, %d", name, x, again, int(e))
			}
			if !state.Same(x, s) {
				unlike++
			}
			for _, l := range x.Tracks {
				if l.Is != api.Unknown {
					t.Errorf("%s: section %d is known: %v", name, l.Id, x)
				}
			}
		}
	}
	if unlike < 200 {
		t.Errorf("but %d images are unlike", unlike)
	}
}

// P15.5: what a route holds is its own: no other one may come to hold it; what nobody holds may be held, if the points may be called so.
func TestOwn(t *testing.T) {
	list, names := plans()
	r := rand.New(rand.NewSource(158))
	right, wrong := 0, 0
	for _, name := range names {
		p := list[name]
		for range 20 {
			s := sample.Lived(p, r.Intn)
			for i, x := range p.Routes {
				if r.Intn(2) == 0 {
					s.Locks[i] = api.Lock{Id: x.Id}
				}
			}
			for i, x := range p.Routes {
				if s.Locks[i].Phase != api.Rest {
					continue
				}
				next, is := state.Twin(s), true
				next.Locks[i] = set(x.Id)
				sections, asks := sample.Holds(p, next.Locks[i])
				for _, id := range sections {
					by, _ := state.Holder(p, s, id)
					is = is && by == 0
				}
				for _, a := range asks {
					lie, _ := state.Asked(p, s, a.Point)
					is = is && (lie == 0 || lie == a.Lie)
					k := slices.IndexFunc(next.Switches, func(x api.Switch) bool { return x.Id == a.Point })
					next.Switches[k].Call = a.Lie
				}
				if is {
					check(t, name, p, next, api.OK)
					right++
				} else {
					check(t, name, p, next, api.ErrBad)
					wrong++
				}
			}
		}
	}
	if right < 100 || wrong < 100 {
		t.Errorf("but %d may be held, and %d may not", right, wrong)
	}
}

// The chapter's examples.
func TestExamples(t *testing.T) {
	for _, p := range []api.Plan{sample.Station(), sample.Rails(), sample.Small()} {
		s, e := state.At(p)
		if e != api.OK || s.Tracks[0].Is != api.Unknown || s.Locks[0].Phase != api.Rest {
			t.Errorf("At: %v, %d", s, int(e))
		}
		holder(t, "example", p, s, 1, 0, api.OK)
		holder(t, "example", p, s, 98, 0, api.ErrNone)
		check(t, "example", p, api.State{}, api.ErrBad)
	}
}
