package state_test

import (
	"fmt"
	"maps"
	"math"
	"math/rand"
	"slices"

	"leverframe/api"
	"leverframe/sample"
	"leverframe/way"
)

// far are numbers that are no element's.
var far = []int{math.MinInt, math.MinInt + 2, -1 << 32, -1<<32 + 2, -9, -2, -1, 0, 100, 256 + 1, 256 + 2, 1 << 31, 1<<32 + 1, 1<<32 + 2, math.MaxInt - 1, math.MaxInt}

// m is by whom sections are held, or for which lies points are asked or called.
type m map[int]int

// locks are such of routes that are not at rest.
type locks []api.Lock

// lived is what stands in a state of the rails, and what it comes to.
type lived struct {
	locks   locks
	holders m
	lies    m
}

// set, used, ending and falling answer locks of those phases.
func set(id int) api.Lock        { return api.Lock{Id: id, Phase: api.Set} }
func used(id, gone int) api.Lock { return api.Lock{Id: id, Phase: api.Used, Gone: gone} }
func ending(id, gone, left int) api.Lock {
	return api.Lock{Id: id, Phase: api.Ending, Gone: gone, Left: left}
}
func falling(id, left int) api.Lock { return api.Lock{Id: id, Phase: api.Falling, Left: left} }

// by answers that those sections are held by that route.
func by(route int, sections ...int) m {
	out := m{}
	for _, id := range sections {
		out[id] = route
	}
	return out
}

// and answers what is in any of those.
func and(list ...m) m {
	out := m{}
	for _, x := range list {
		maps.Copy(out, x)
	}
	return out
}

// lives answers states of the rails that may be, each by a name.
func lives() map[string]lived {
	two, seven, thirty, right := m{10: 1, 20: 1, 30: 1, 60: 2}, m{30: 1}, m{10: 1, 40: 1, 50: 2}, m{40: 1, 60: 2}
	behind := m{10: 1, 20: 1, 60: 2}
	return map[string]lived{
		"at rest":                        {nil, m{}, m{}},
		"2 set":                          {locks{set(2)}, by(2, 2, 3, 5, 6), two},
		"2 used":                         {locks{used(2, 0)}, by(2, 2, 3, 5, 6), two},
		"2 used, 1 gone":                 {locks{used(2, 1)}, by(2, 3, 5, 6), behind},
		"2 ending":                       {locks{ending(2, 1, 2)}, by(2, 3, 5, 6), behind},
		"2 ending, 1 left":               {locks{ending(2, 1, 1)}, by(2, 3, 5, 6), behind},
		"2 falling":                      {locks{falling(2, 2)}, by(2, 2, 3, 5, 6), two},
		"2 falling, 1 left":              {locks{falling(2, 1)}, by(2, 2, 3, 5, 6), two},
		"5 set":                          {locks{set(5)}, by(5, 2, 4), m{30: 2}},
		"5 used, 1 gone":                 {locks{used(5, 1)}, by(5, 4), m{}},
		"5 ending":                       {locks{ending(5, 1, 1)}, by(5, 4), m{}},
		"5 falling":                      {locks{falling(5, 1)}, by(5, 2, 4), m{30: 2}},
		"7, of one section, set":         {locks{set(7)}, by(7, 7, 8), seven},
		"7, of one section, used":        {locks{used(7, 0)}, by(7, 7, 8), seven},
		"7, of one section, ending":      {locks{ending(7, 0, 9)}, by(7, 7, 8), seven},
		"7, of one section, falling":     {locks{falling(7, 9)}, by(7, 7, 8), seven},
		"30 set":                         {locks{set(30)}, by(30, 8, 9, 10), thirty},
		"30 used, 1 gone":                {locks{used(30, 1)}, by(30, 9, 10), m{40: 1, 50: 2}},
		"30 used, 2 gone":                {locks{used(30, 2)}, by(30, 10), m{50: 2}},
		"30 ending":                      {locks{ending(30, 2, 3)}, by(30, 10), m{50: 2}},
		"31 set":                         {locks{set(31)}, by(31, 5, 4, 2, 1), m{20: 2, 30: 2}},
		"31 used, 1 gone":                {locks{used(31, 1)}, by(31, 4, 2, 1), m{30: 2}},
		"31 used, 2 gone":                {locks{used(31, 2)}, by(31, 2, 1), m{30: 2}},
		"31 used, 3 gone":                {locks{used(31, 3)}, by(31, 1), m{}},
		"31 ending":                      {locks{ending(31, 3, 4)}, by(31, 1), m{}},
		"60 set, for a flank":            {locks{set(60)}, by(60, 6), m{20: 2}},
		"60 ending, for a flank":         {locks{ending(60, 0, 2)}, by(60, 6), m{20: 2}},
		"98 set":                         {locks{set(98)}, by(98, 11, 12), right},
		"98 ending, at a point's place":  {locks{ending(98, 1, 1)}, by(98, 12), right},
		"nothing in common":              {locks{set(5), set(98)}, by(5, 2, 4).with(98, 11, 12), and(m{30: 2}, right)},
		"both for one lie":               {locks{set(2), set(7)}, by(2, 2, 3, 5, 6).with(7, 7, 8), two},
		"flanks in another one's path":   {locks{set(2), set(30), set(98)}, by(2, 2, 3, 5, 6).with(30, 8, 9, 10).with(98, 11, 12), and(two, thirty)},
		"the same, all otherwise":        {locks{ending(2, 1, 2), used(30, 1), falling(98, 1)}, by(2, 3, 5, 6).with(30, 9, 10).with(98, 11, 12), and(behind, m{40: 1, 50: 2})},
		"one entry, 5 gone by":           {locks{set(2), used(5, 1)}, by(2, 2, 3, 5, 6).with(5, 4), two},
		"one entry, 2 gone by":           {locks{used(2, 1), set(5)}, by(2, 3, 5, 6).with(5, 2, 4), and(behind, m{30: 2})},
		"one given up to the other":      {locks{used(2, 1), used(31, 2)}, by(2, 3, 5, 6).with(31, 2, 1), and(behind, m{30: 2})},
		"the last one alone":             {locks{set(2), used(31, 3)}, by(2, 2, 3, 5, 6).with(31, 1), two},
		"the overlap's was given up":     {locks{set(7), used(30, 1)}, by(7, 7, 8).with(30, 9, 10), m{30: 1, 40: 1, 50: 2}},
		"the flank was given up, by 5":   {locks{set(7), used(5, 1)}, by(7, 7, 8).with(5, 4), seven},
		"the flank was given up, by 31":  {locks{falling(7, 4), ending(31, 3, 1)}, by(7, 7, 8).with(31, 1), seven},
		"a flank of 60 in the path":      {locks{set(60), set(31)}, by(60, 6).with(31, 5, 4, 2, 1), m{20: 2, 30: 2}},
		"a flank that stays asked":       {locks{ending(60, 0, 1), used(31, 1)}, by(60, 6).with(31, 4, 2, 1), m{20: 2, 30: 2}},
		"four at a time":                 {locks{used(31, 3), used(30, 2), set(7), ending(98, 1, 1)}, by(31, 1).with(30, 10).with(7, 7, 8).with(98, 12), m{30: 1, 40: 1, 50: 2, 60: 2}},
		"five at a time, all but at end": {locks{used(2, 1), used(5, 1), ending(30, 2, 1), ending(31, 3, 1), used(98, 1)}, by(2, 3, 5, 6).with(5, 4).with(30, 10).with(31, 1).with(98, 12), and(behind, m{50: 2, 40: 1})},
	}
}

// with answers x, and that those sections are held by that route.
func (x m) with(route int, sections ...int) m {
	return and(x, by(route, sections...))
}

// clashes answers locks of routes of the rails that may not be together, whatever is called, each by a name.
func clashes() map[string]locks {
	return map[string]locks{
		"one entry":                           {set(2), set(5)},
		"one entry, one used":                 {used(2, 0), set(5)},
		"one entry, falling":                  {falling(2, 1), falling(5, 1)},
		"the paths' last and first":           {set(5), set(31)},
		"the overlap's first":                 {set(2), set(31)},
		"the overlap's first, of one ending":  {ending(2, 1, 1), set(31)},
		"the overlap's last":                  {set(2), set(60)},
		"the overlap's last, of one ending":   {ending(2, 1, 1), used(60, 0)},
		"the overlap's only one":              {set(7), set(30)},
		"the overlap's only one, both ending": {ending(7, 0, 1), used(30, 0)},
		"what was not given up":               {set(2), used(31, 2)},
		"what was not given up, the next one": {used(5, 1), used(31, 1)},
		"unlike lies, of a flank":             {set(7), set(5)},
		"unlike lies, of a flank, used":       {ending(7, 0, 1), used(5, 0)},
		"unlike lies, behind another one":     {set(7), used(31, 1)},
		"unlike lies, at the place":           {set(7), used(31, 2)},
		"two of three":                        {set(98), set(7), set(30)},
		"the first and the last of three":     {set(2), set(98), used(60, 0)},
	}
}

// stands answers a state of p with those locks, in which all sections are free, and those points are called, and detected, so.
func stands(p api.Plan, list locks, calls m) api.State {
	var s api.State
	for _, x := range p.Sections {
		s.Tracks = append(s.Tracks, api.Track{Id: x.Id})
	}
	for _, x := range p.Points {
		s.Switches = append(s.Switches, api.Switch{Id: x.Id, Lie: calls[x.Id], Call: calls[x.Id]})
	}
	for _, x := range p.Routes {
		l := api.Lock{Id: x.Id}
		for _, other := range list {
			if other.Id == x.Id {
				l = other
			}
		}
		s.Locks = append(s.Locks, l)
	}
	return s
}

// words tells, by the words, whether s may be, of p, which may run; and by whom its sections are held, and for which lies its points are asked.
func words(p api.Plan, s api.State) (holders, lies m, may bool) {
	holders, lies = m{}, m{}
	if len(s.Tracks) != len(p.Sections) || len(s.Switches) != len(p.Points) || len(s.Locks) != len(p.Routes) {
		return m{}, m{}, false
	}
	may = true
	for i, x := range s.Tracks {
		may = may && x.Id == p.Sections[i].Id && slices.Contains([]uint8{api.Free, api.Taken, api.Unknown}, x.Is)
	}
	calls := m{}
	for i, x := range s.Switches {
		may = may && x.Id == p.Points[i].Id && x.Lie >= 0 && x.Lie <= 2 && x.Call >= 0 && x.Call <= 2
		calls[x.Id] = x.Call
	}
	for i, l := range s.Locks {
		r := p.Routes[i]
		if !locked(r, l) {
			return m{}, m{}, false
		}
		w, _ := way.Of(p, r.Id)
		for place, section := range append(slices.Clone(r.Path), r.Over...) {
			if l.Phase != api.Rest && place >= l.Gone {
				may = may && holders[section] == 0
				holders[section] = r.Id
			}
		}
		for _, a := range w.Asks {
			if l.Phase != api.Rest && (a.At < 0 || a.At >= l.Gone) {
				may = may && calls[a.Point] == a.Lie
				lies[a.Point] = a.Lie
			}
		}
	}
	if !may {
		return m{}, m{}, false
	}
	return holders, lies, true
}

// locked tells, by the words, whether l may be, of r by itself.
func locked(r api.Route, l api.Lock) bool {
	type three struct {
		phase      uint8
		gone, left int
	}
	may := map[three]int{{api.Rest, 0, 0}: 1, {api.Set, 0, 0}: 1}
	for i := range r.Path {
		may[three{api.Used, i, 0}] = 1
	}
	for left := 1; left <= r.Timer; left++ {
		may[three{api.Ending, len(r.Path) - 1, left}] = 1
		may[three{api.Falling, 0, left}] = 1
	}
	return l.Id == r.Id && may[three{l.Phase, l.Gone, l.Left}] == 1
}

// imaged answers, by the words, the image of s, of p.
func imaged(p api.Plan, s api.State) api.State {
	var out api.State
	for _, x := range s.Tracks {
		out.Tracks = append(out.Tracks, api.Track{Id: x.Id, Is: api.Unknown})
	}
	for _, x := range s.Switches {
		out.Switches = append(out.Switches, api.Switch{Id: x.Id, Call: x.Call})
	}
	for i, x := range s.Locks {
		if x.Left > 0 {
			x.Left = p.Routes[i].Timer
		}
		out.Locks = append(out.Locks, x)
	}
	return out
}

// text answers all that s has: two states have one text if, and only if, all fields are the same.
func text(s api.State) string {
	return fmt.Sprint(s.Tracks, s.Switches, s.Locks)
}

// plans answers plans that may run, each by a name, and these names in an order that stays.
func plans() (map[string]api.Plan, []string) {
	list := sample.Sounds(rand.New(rand.NewSource(15)).Intn)
	return list, slices.Sorted(maps.Keys(list))
}
