package track_test

import (
	"fmt"
	"math"
	"math/rand"
	"slices"
	"testing"

	"leverframe/api"
	"leverframe/track"
)

// far are numbers that are no section's, no end's, and no lie.
var far = []int{math.MinInt, math.MinInt + 1, -1 << 32, -100, -3, -2, -1, 100, 101, 256, 1 << 31, 1<<32 + 1, 1<<32 + 2, math.MaxInt - 1, math.MaxInt}

// bare answers a section without a point, whose ends lead there.
func bare(id int, a, b api.Join) api.Section {
	return api.Section{Id: id, Ends: []api.Join{a, b}}
}

// pointed answers a section with a point, whose ends lead there.
func pointed(id, point int, toe, normal, reverse api.Join) api.Section {
	return api.Section{Id: id, Point: point, Ends: []api.Join{toe, normal, reverse}}
}

// to answers what leads to an end.
func to(id, end int) api.Join {
	return api.Join{To: id, End: end}
}

var nothing = api.Join{}

// example answers the chapter's sections.
func example() []api.Section {
	return []api.Section{bare(1, to(2, 0), nothing), pointed(2, 5, to(1, 0), to(3, 0), to(3, 1)), bare(3, to(2, 1), to(2, 2))}
}

// row answers n sections without points in a row, whose numbers are step apart.
func row(n, step int) []api.Section {
	var l []api.Section
	for i := 1; i <= n; i++ {
		l = append(l, bare(i*step, to((i-1)*step, 1), to((i+1)*step, 0)))
	}
	if n > 0 {
		l[0].Ends[0], l[n-1].Ends[1] = nothing, nothing
	}
	return l
}

// ring answers n sections without points in a ring.
func ring(n int) []api.Section {
	l := row(n, 1)
	l[0].Ends[0], l[n-1].Ends[1] = to(n, 1), to(1, 0)
	return l
}

// rights answers lists that may be, each by a name.
func rights() map[string][]api.Section {
	return map[string][]api.Section{
		"nil": nil, "none": {}, "example": example(), "row of 1": row(1, 1), "row of 15": row(15, 6), "row of 16": row(16, 6),
		"ring of 1": ring(1), "ring of 2": ring(2), "ring of 16": ring(16),
		"least": {bare(1, nothing, nothing)}, "greatest": {bare(99, nothing, nothing)},
		"least point": {pointed(50, 1, nothing, nothing, nothing)}, "greatest point": {pointed(50, 99, nothing, nothing, nothing)},
		"toe to a leg": {pointed(7, 7, to(7, 1), to(7, 0), nothing)}, "leg to leg": {pointed(7, 8, nothing, to(7, 2), to(7, 1))},
		"toe to the other leg": {pointed(7, 8, to(7, 2), nothing, to(7, 0))},
		"apart":                {bare(1, nothing, nothing), bare(98, nothing, nothing), pointed(99, 1, nothing, nothing, nothing)},
		"beginnings joined":    {bare(4, to(9, 0), nothing), bare(9, to(4, 0), nothing)},
		"points":               {pointed(1, 9, to(2, 0), to(3, 1), to(3, 2)), pointed(2, 8, to(1, 0), to(4, 0), nothing), pointed(3, 7, nothing, to(1, 1), to(1, 2)), bare(4, to(2, 1), nothing)},
		"end 1 to beginning":   {bare(10, nothing, to(11, 0)), bare(11, to(10, 1), nothing)},
	}
}

// wrongs answers lists that may not be, each by a name.
func wrongs() map[string][]api.Section {
	out := map[string][]api.Section{
		"17 sections": row(17, 1), "17 apart": append(row(16, 5), bare(99, nothing, nothing)), "40 sections": row(40, 1),
		"Id 0": {bare(0, nothing, nothing)}, "Id 100": {bare(100, nothing, nothing)}, "Id -1": {bare(-1, nothing, nothing)},
		"Id 0 ahead": {bare(0, nothing, nothing), bare(1, nothing, nothing)}, "Id 100 behind": {bare(99, nothing, nothing), bare(100, nothing, nothing)},
		"Id 0, joined":  {bare(0, to(1, 0), nothing), bare(1, to(0, 0), nothing)},
		"two of one Id": {bare(3, nothing, nothing), bare(3, nothing, nothing)}, "falling": {bare(4, nothing, nothing), bare(3, nothing, nothing)},
		"falling, joined": {bare(4, to(3, 1), nothing), bare(3, nothing, to(4, 0))}, "falling last": {bare(1, nothing, nothing), bare(5, nothing, nothing), bare(4, nothing, nothing)},
		"one Id again":               {bare(1, nothing, nothing), bare(5, nothing, nothing), bare(1, nothing, nothing)},
		"Ids as far apart as may be": {bare(math.MinInt, nothing, nothing), bare(math.MaxInt, nothing, nothing)},
		"no section":                 {{}}, "no ends": {{Id: 1}}, "one end": {{Id: 1, Ends: make([]api.Join, 1)}}, "three ends without a point": {{Id: 1, Ends: make([]api.Join, 3)}},
		"no end at a point": {{Id: 1, Point: 1}}, "two ends at a point": {{Id: 1, Point: 1, Ends: make([]api.Join, 2)}}, "four ends at a point": {{Id: 1, Point: 1, Ends: make([]api.Join, 4)}},
		"four ends": {{Id: 1, Ends: make([]api.Join, 4)}}, "ends without end": {{Id: 1, Ends: make([]api.Join, 1000)}},
		"one Point, apart": {pointed(1, 5, nothing, nothing, nothing), pointed(3, 6, nothing, nothing, nothing), pointed(4, 5, nothing, nothing, nothing)},
		"one Point":        {pointed(1, 5, nothing, nothing, nothing), pointed(2, 5, nothing, nothing, nothing)},
		"an end to itself": {bare(1, to(1, 0), nothing)}, "the other end to itself": {bare(1, nothing, to(1, 1))}, "both to themselves": {bare(1, to(1, 0), to(1, 1))},
		"a toe to itself": {pointed(1, 1, to(1, 0), nothing, nothing)}, "a leg to itself": {pointed(1, 1, nothing, nothing, to(1, 2))},
		"joined one way": {bare(1, to(2, 0), nothing), bare(2, nothing, nothing)}, "joined the other way": {bare(1, nothing, nothing), bare(2, to(1, 0), nothing)},
		"joined one way at home": {bare(1, to(1, 1), nothing)}, "joined back to its other end": {bare(1, to(2, 0), nothing), bare(2, to(1, 1), nothing)},
		"joined back to another one": {bare(1, to(2, 0), to(2, 1)), bare(2, to(1, 1), to(1, 0)), bare(3, to(2, 1), nothing)},
		"two on one end":             {bare(1, to(3, 0), nothing), bare(2, to(3, 0), nothing), bare(3, to(1, 0), nothing)},
		"three round":                {bare(1, to(2, 0), nothing), bare(2, to(3, 0), nothing), bare(3, to(1, 0), nothing)},
	}
	for _, n := range far {
		out[fmt.Sprint("Id ", n)] = []api.Section{bare(n, nothing, nothing)}
		out[fmt.Sprint("Point ", n)] = []api.Section{pointed(1, n, nothing, nothing, nothing)}
		out[fmt.Sprint("Point and two ends ", n)] = []api.Section{{Id: 1, Point: n, Ends: make([]api.Join, 2)}}
		out[fmt.Sprint("to ", n)] = []api.Section{bare(1, nothing, to(n, 0)), bare(2, nothing, nothing)}
		out[fmt.Sprint("to end ", n)] = []api.Section{bare(1, nothing, to(2, n)), bare(2, nothing, to(1, 1))}
		out[fmt.Sprint("to nothing's end ", n)] = []api.Section{bare(1, nothing, to(0, n)), bare(2, nothing, nothing)}
	}
	for end := 1; end < 4; end++ {
		out[fmt.Sprint("to nothing's end ", end)] = []api.Section{pointed(1, 1, nothing, nothing, to(0, end))}
		out[fmt.Sprint("to a section that isn't there, end ", end)] = []api.Section{bare(1, to(2, end-1), nothing), bare(3, to(1, 0), nothing)}
	}
	out["to an end too many"] = []api.Section{bare(1, to(2, 2), nothing), bare(2, nothing, nothing)}
	out["to a leg too many"] = []api.Section{bare(1, to(2, 3), nothing), pointed(2, 1, nothing, nothing, nothing)}
	return out
}

// grown answers a list that may be, made by chance: some sections, some with points, some of their ends joined.
func grown(r *rand.Rand) []api.Section {
	points := r.Perm(99)
	var l []api.Section
	var open []api.Join
	for _, id := range sorted(r.Perm(99)[:r.Intn(17)]) {
		s := bare(id+1, nothing, nothing)
		if r.Intn(2) == 0 {
			s = pointed(id+1, points[id]+1, nothing, nothing, nothing)
		}
		for end := range s.Ends {
			open = append(open, to(s.Id, end))
		}
		l = append(l, s)
	}
	r.Shuffle(len(open), func(i, k int) { open[i], open[k] = open[k], open[i] })
	for many := r.Intn(len(open)/2 + 1); many > 0; many-- {
		a, b := open[2*many-2], open[2*many-1]
		*endOf(l, a), *endOf(l, b) = b, a
	}
	return l
}

// sorted answers list, sorted.
func sorted(list []int) []int {
	slices.Sort(list)
	return list
}

// endOf answers where what that end of l leads to stands; nil, if there is no such end.
func endOf(l []api.Section, j api.Join) *api.Join {
	for i, s := range l {
		if s.Id == j.To && j.End >= 0 && j.End < len(s.Ends) {
			return &l[i].Ends[j.End]
		}
	}
	return nil
}

// fits tells, by the words, whether s has as many ends as its point asks.
func fits(s api.Section) bool {
	return s.Point == 0 && len(s.Ends) == 2 || 1 <= s.Point && s.Point <= 99 && len(s.Ends) == 3
}

// mayBe tells, by the words, whether sections may be.
func mayBe(l []api.Section) bool {
	if len(l) > 16 {
		return false
	}
	for i, s := range l {
		if s.Id < 1 || s.Id > 99 || !fits(s) {
			return false
		}
		for _, o := range l[i+1:] {
			if o.Id <= s.Id || s.Point != 0 && o.Point == s.Point {
				return false
			}
		}
		for end, j := range s.Ends {
			back := endOf(l, j)
			if j != nothing && (back == nil || back == &s.Ends[end] || *back != to(s.Id, end)) {
				return false
			}
		}
	}
	return true
}

// twin answers l in new memory.
func twin(l []api.Section) []api.Section {
	out := slices.Clone(l)
	for i := range out {
		out[i].Ends = slices.Clone(l[i].Ends)
	}
	return out
}

// alike tells whether a and b are the same section.
func alike(a, b api.Section) bool {
	return a.Id == b.Id && a.Point == b.Point && slices.Equal(a.Ends, b.Ends)
}

// checks asks that Check of l answers as the words say.
func checks(t *testing.T, name string, l []api.Section) {
	t.Helper()
	want := api.OK
	if !mayBe(l) {
		want = api.ErrBad
	}
	if e := track.Check(l); e != want {
		t.Errorf("%s: Check: %d; want %d: %v", name, int(e), int(want), l)
	}
}

// P7.1: sections that may be.
func TestRight(t *testing.T) {
	for name, l := range rights() {
		if e := track.Check(l); e != api.OK || !mayBe(l) {
			t.Errorf("%s: Check: %d", name, int(e))
		}
	}
	for id := 1; id <= 99; id++ {
		for point := 1; point <= 99; point++ {
			if e := track.Check([]api.Section{pointed(id, point, nothing, to(id, 2), to(id, 1))}); e != api.OK {
				t.Errorf("section %d with point %d: %d", id, point, int(e))
			}
		}
	}
}

// P7.1: sections that may not be are ErrBad in all calls, whatever else is asked, and nothing stands beside the error.
func TestWrong(t *testing.T) {
	for name, l := range wrongs() {
		if e := track.Check(l); e != api.ErrBad || mayBe(l) {
			t.Errorf("%s: Check: %d", name, int(e))
		}
		for _, id := range append(slices.Clone(far), 0, 1, 2, 3, 4, 5, 50, 99) {
			if s, e := track.Find(l, id); e != api.ErrBad || !alike(s, api.Section{}) {
				t.Errorf("%s: Find(%d): %v, %d", name, id, s, int(e))
			}
			for _, end := range append(slices.Clone(far), 0, 1, 2, 3) {
				if j, e := track.Next(l, id, end); e != api.ErrBad || j != nothing {
					t.Errorf("%s: Next(%d, %d): %v, %d", name, id, end, j, int(e))
				}
			}
		}
	}
}

// P7.1: one thing that is changed in a list that may be, each in turn.
func TestChanged(t *testing.T) {
	numbers := append(slices.Clone(far), 0, 1, 2, 3, 4, 5, 6, 7, 8, 9, 10, 11, 12, 50, 98, 99)
	for name, l := range rights() {
		for i, s := range l {
			for _, n := range numbers {
				x := twin(l)
				x[i].Id = n
				checks(t, name, x)
				x = twin(l)
				x[i].Point = n
				checks(t, name, x)
				for end := range s.Ends {
					x = twin(l)
					x[i].Ends[end].To = n
					checks(t, name, x)
					x = twin(l)
					x[i].Ends[end].End = n
					checks(t, name, x)
				}
			}
			for n := range 6 {
				x := twin(l)
				x[i].Ends = append(slices.Clone(s.Ends), make([]api.Join, 6)...)[:n]
				checks(t, name, x)
			}
			checks(t, name, slices.Delete(twin(l), i, i+1))
			checks(t, name, slices.Insert(twin(l), i, s))
			for k := range l {
				x := twin(l)
				x[i], x[k] = x[k], x[i]
				checks(t, name, x)
				x = twin(l)
				x[i].Ends[0], x[k].Ends[1] = x[k].Ends[1], x[i].Ends[0]
				checks(t, name, x)
			}
		}
	}
}

// P7.1: all that the ends of two sections can join.
func TestJoins(t *testing.T) {
	right := 0
	for n := range 1 << 16 {
		j := func(end int) api.Join { return to(n>>(4*end)&3, n>>(4*end+2)&3-1) }
		l := []api.Section{bare(1, j(0), j(1)), bare(2, j(2), j(3))}
		checks(t, "two", l)
		if mayBe(l) {
			right++
		}
	}
	// Of four ends none, two or all four are joined in pairs: 1, 6 and 3 ways.
	if right != 10 {
		t.Errorf("%d may be", right)
	}
}

// P7.1: all that the ends of a section with a point can join.
func TestPointJoins(t *testing.T) {
	right := 0
	for n := range 15 * 15 * 15 {
		j := func(n int) api.Join { return to(n%3, n/3%5-1) }
		l := []api.Section{pointed(1, 2, j(n), j(n/15), j(n/15/15))}
		checks(t, "one", l)
		if mayBe(l) {
			right++
		}
	}
	if right != 4 {
		t.Errorf("%d may be", right)
	}
}

// P7.1: lists made by chance, and such of which something was changed by chance.
func TestGrown(t *testing.T) {
	r := rand.New(rand.NewSource(7))
	wrong := 0
	for range 5000 {
		l := grown(r)
		if e := track.Check(l); e != api.OK {
			t.Errorf("Check: %d: %v", int(e), l)
		}
		if len(l) == 0 {
			continue
		}
		s := &l[r.Intn(len(l))]
		switch r.Intn(4) {
		case 0:
			s.Id += r.Intn(5) - 2
		case 1:
			s.Point = l[r.Intn(len(l))].Point
		case 2:
			s.Ends[r.Intn(len(s.Ends))] = to(l[r.Intn(len(l))].Id, r.Intn(3))
		case 3:
			o := &l[r.Intn(len(l))]
			s.Ends[0], o.Ends[1] = o.Ends[1], s.Ends[0]
		}
		checks(t, "changed", l)
		if !mayBe(l) {
			wrong++
		}
	}
	if wrong < 1000 {
		t.Errorf("but %d may not be", wrong)
	}
}

// P7.1: each section is found by its number, whichever numbers there are, and no other one.
func TestFind(t *testing.T) {
	for name, l := range some() {
		for _, id := range ids() {
			want, e := api.Section{}, api.ErrNone
			for _, s := range l {
				if s.Id == id {
					want, e = s, api.OK
				}
			}
			if s, f := track.Find(l, id); f != e || !alike(s, want) {
				t.Errorf("%s: Find(%d): %v, %d; want %v, %d", name, id, s, int(f), want, int(e))
			}
		}
	}
}

// P7.1: each end of each section leads where it does; ends that aren't there are ErrArg, but sections ahead of them ErrNone.
func TestNext(t *testing.T) {
	for name, l := range some() {
		for _, id := range ids() {
			for _, end := range append(slices.Clone(far), 0, 1, 2, 3, 4) {
				want, e := nothing, api.ErrNone
				for _, s := range l {
					if s.Id == id {
						e = api.ErrArg
					}
				}
				if j := endOf(l, to(id, end)); j != nil {
					want, e = *j, api.OK
				}
				if j, f := track.Next(l, id, end); f != e || j != want {
					t.Errorf("%s: Next(%d, %d): %v, %d; want %v, %d", name, id, end, j, int(f), want, int(e))
				}
			}
		}
	}
}

// some answers lists that may be, told and made by chance.
func some() map[string][]api.Section {
	out := rights()
	r := rand.New(rand.NewSource(8))
	for i := range 60 {
		out[fmt.Sprint("grown ", i)] = grown(r)
	}
	return out
}

// ids answers all numbers that sections may have, and some that they may not.
func ids() []int {
	out := slices.Clone(far)
	for id := range 100 {
		out = append(out, id)
	}
	return out
}

// lies are how the chapter has a section's ways: of one without a point, and of one with one, from which end to which one, and how the point lies.
var lies = map[bool]map[[2]int]int{
	false: {{0, 1}: 0, {1, 0}: 0},
	true:  {{0, 1}: 1, {1, 0}: 1, {0, 2}: 2, {2, 0}: 2},
}

// shapes answers sections of many points and ends, most of which may not be.
func shapes() []api.Section {
	var out []api.Section
	for _, point := range append(slices.Clone(far), 0, 1, 2, 3, 50, 98, 99) {
		for _, many := range []int{0, 1, 2, 3, 4, 5, 16, 99} {
			out = append(out, api.Section{Id: 5, Point: point, Ends: make([]api.Join, many)})
		}
	}
	return out
}

// P7.2: a point has to lie for each way as the chapter has it.
func TestThrough(t *testing.T) {
	for _, s := range shapes() {
		for _, from := range append(slices.Clone(far), 0, 1, 2, 3, 4) {
			for _, to := range append(slices.Clone(far), 0, 1, 2, 3, 4) {
				want, ok := lies[s.Point != 0][[2]int{from, to}]
				e := api.OK
				if !ok {
					e = api.ErrArg
				}
				if !fits(s) {
					want, e = 0, api.ErrBad
				}
				if lie, f := track.Through(s, from, to); lie != want || f != e {
					t.Errorf("point %d, %d ends: Through(%d, %d): %d, %d; want %d, %d", s.Point, len(s.Ends), from, to, lie, int(f), want, int(e))
				}
			}
		}
	}
}

// P7.2: from each end one comes out where the chapter has it, as the point lies.
func TestOut(t *testing.T) {
	for _, s := range shapes() {
		for _, from := range append(slices.Clone(far), 0, 1, 2, 3, 4) {
			for _, lie := range append(slices.Clone(far), 0, 1, 2, 3, 4) {
				want, e := 0, api.ErrArg
				for way, l := range lies[s.Point != 0] {
					if way[0] == from && l == lie {
						want, e = way[1], api.OK
					}
				}
				if !fits(s) {
					want, e = 0, api.ErrBad
				}
				if to, f := track.Out(s, from, lie); to != want || f != e {
					t.Errorf("point %d, %d ends: Out(%d, %d): %d, %d; want %d, %d", s.Point, len(s.Ends), from, lie, to, int(f), want, int(e))
				}
			}
		}
	}
}

// P7.2: neither a section's number nor what its ends join counts for the ways through it.
func TestWaysAlone(t *testing.T) {
	odd := []api.Join{to(1, 0), to(-7, 9), to(math.MaxInt, math.MinInt), to(0, 3), nothing}
	for _, id := range append(slices.Clone(far), 0, 1, 99) {
		for i := range odd {
			j := append(odd[i:], odd[:i]...)
			for _, s := range []api.Section{bare(id, j[0], j[1]), pointed(id, 99, j[0], j[1], j[2])} {
				for way, want := range lies[s.Point != 0] {
					lie, e := track.Through(s, way[0], way[1])
					out, f := track.Out(s, way[0], want)
					if lie != want || e != api.OK || out != way[1] || f != api.OK {
						t.Errorf("%v: way %v: lie %d, %d; out %d, %d", s, way, lie, int(e), out, int(f))
					}
				}
			}
		}
	}
}

// roomy answers list with more in its spare room.
func roomy[T any](list []T, more ...T) []T {
	return slices.Concat(list, more)[:len(list)]
}

// spare answers l in new memory, each list of it with something in its spare room.
func spare(l []api.Section) []api.Section {
	out := twin(l)
	for i := range out {
		out[i].Ends = roomy(out[i].Ends, to(5, 6), to(7, 8))
	}
	return roomy(out, api.Section{Id: 77, Point: 3, Ends: []api.Join{to(9, 9)}}, bare(78, nothing, nothing))
}

// shown answers l in new memory as it is with all spare room.
func shown(l []api.Section) []api.Section {
	out := slices.Clone(l[:cap(l)])
	for i, s := range out {
		out[i].Ends = slices.Clone(s.Ends[:cap(s.Ends)])
	}
	return out
}

// smudge turns all of list, its spare room too.
func smudge(list []api.Join) {
	for i := range list[:cap(list)] {
		list[:cap(list)][i] = to(-55, -66)
	}
}

// call asks all that can be asked of l.
func call(l []api.Section) {
	track.Check(l)
	for id := range 100 {
		track.Find(l, id)
		for end := range 4 {
			track.Next(l, id, end)
		}
	}
	for _, s := range l {
		for from := range 4 {
			for n := range 4 {
				track.Through(s, from, n)
				track.Out(s, from, n)
			}
		}
	}
}

// P7.3: what is handed in is only read, its spare room too.
func TestOnlyRead(t *testing.T) {
	for _, lists := range []map[string][]api.Section{some(), wrongs()} {
		for name, l := range lists {
			in := spare(l)
			was := shown(in)
			call(in)
			if !slices.EqualFunc(shown(in), was, alike) {
				t.Errorf("%s: changed", name)
			}
		}
	}
}

// P7.3: what is answered shares no memory with what was handed in, nor with another answer.
func TestNewMemory(t *testing.T) {
	for name, l := range some() {
		for i, want := range l {
			in := spare(l)
			was := shown(in)
			a, _ := track.Find(in, want.Id)
			b, _ := track.Find(in, want.Id)
			smudge(a.Ends)
			if !alike(b, want) || !slices.EqualFunc(shown(in), was, alike) {
				t.Errorf("%s: section %d was written to, and something else changed", name, want.Id)
			}
			smudge(in[i].Ends)
			in[i] = api.Section{}
			if !alike(b, want) {
				t.Errorf("%s: what was handed in was written to, and section %d changed", name, want.Id)
			}
		}
	}
}

// R2: asked again it is the same, whatever was asked between.
func TestAgain(t *testing.T) {
	for name, l := range some() {
		for _, s := range l {
			a, e := track.Find(l, s.Id)
			j, f := track.Next(l, s.Id, 1)
			lie, g := track.Through(s, 0, 1)
			for _, other := range rights() {
				call(other)
			}
			b, h := track.Find(l, s.Id)
			k, i := track.Next(l, s.Id, 1)
			again, n := track.Through(s, 0, 1)
			if !alike(a, b) || e != h || j != k || f != i || lie != again || g != n {
				t.Errorf("%s: section %d: another answer", name, s.Id)
			}
		}
	}
}

// P7.4: where an end leads, that end leads back.
func TestBack(t *testing.T) {
	for name, l := range some() {
		for _, s := range l {
			for end := range s.Ends {
				j, e := track.Next(l, s.Id, end)
				if e != api.OK {
					t.Fatalf("%s: Next(%d, %d): %d", name, s.Id, end, int(e))
				}
				if j == nothing {
					continue
				}
				if back, e := track.Next(l, j.To, j.End); e != api.OK || back != to(s.Id, end) || j == back {
					t.Errorf("%s: end %d of %d leads to %v, and that to %v, %d", name, end, s.Id, j, back, int(e))
				}
			}
		}
	}
}

// P7.4: ways lead back as they lead there; Out tells just the ways of Through, one at most from each end as the point lies.
func TestWays(t *testing.T) {
	for name, l := range some() {
		for _, s := range l {
			for from := range s.Ends {
				for lie := range 3 {
					asWays(t, name, s, from, lie)
				}
			}
		}
	}
}

// asWays asks P7.4 of the ways through s from an end, if its point lies so.
func asWays(t *testing.T, name string, s api.Section, from, lie int) {
	t.Helper()
	out, none := track.Out(s, from, lie)
	many := 0
	for to := range s.Ends {
		there, e := track.Through(s, from, to)
		back, f := track.Through(s, to, from)
		if there != back || e != f {
			t.Errorf("%s: section %d: from %d to %d: %d, %d; back: %d, %d", name, s.Id, from, to, there, int(e), back, int(f))
		}
		if e != api.OK || there != lie {
			continue
		}
		many++
		if none != api.OK || out != to {
			t.Errorf("%s: section %d: from %d to %d by lie %d; out at %d, %d", name, s.Id, from, to, lie, out, int(none))
		}
	}
	if many > 1 || many == 0 && none != api.ErrArg {
		t.Errorf("%s: section %d: from %d by lie %d there are %d ways; out at %d, %d", name, s.Id, from, lie, many, out, int(none))
	}
}

// The chapter's examples.
func TestExamples(t *testing.T) {
	l := example()
	if e := track.Check(l); e != api.OK {
		t.Errorf("Check: %d", int(e))
	}
	for _, c := range []struct {
		id, end int
		want    api.Join
		e       api.Errno
	}{{2, 1, to(3, 0), api.OK}, {1, 1, nothing, api.OK}, {1, 2, nothing, api.ErrArg}, {9, 0, nothing, api.ErrNone}} {
		if j, e := track.Next(l, c.id, c.end); j != c.want || e != c.e {
			t.Errorf("Next(%d, %d): %v, %d", c.id, c.end, j, int(e))
		}
	}
	for _, c := range []struct {
		id, from, to, want int
		e                  api.Errno
	}{{2, 0, 2, 2, api.OK}, {2, 1, 0, 1, api.OK}, {2, 1, 2, 0, api.ErrArg}, {3, 0, 1, 0, api.OK}} {
		if lie, e := track.Through(l[c.id-1], c.from, c.to); lie != c.want || e != c.e {
			t.Errorf("Through of %d from %d to %d: %d, %d", c.id, c.from, c.to, lie, int(e))
		}
	}
	for _, c := range []struct {
		id, from, lie, want int
		e                   api.Errno
	}{{2, 0, 1, 1, api.OK}, {2, 2, 2, 0, api.OK}, {2, 2, 1, 0, api.ErrArg}, {3, 1, 0, 0, api.OK}, {3, 1, 1, 0, api.ErrArg}} {
		if to, e := track.Out(l[c.id-1], c.from, c.lie); to != c.want || e != c.e {
			t.Errorf("Out of %d from %d by lie %d: %d, %d", c.id, c.from, c.lie, to, int(e))
		}
	}
}
