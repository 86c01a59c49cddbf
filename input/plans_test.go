package input_test

import (
	"fmt"
	"maps"
	"math"
	"math/rand"
	"slices"

	"leverframe/api"
	"leverframe/sample"
)

// far are numbers that no element, no section's being and no point's lie has; some have a lowest byte, or lowest four, that would.
var far = []int{math.MinInt, math.MinInt + 1, -1 << 32, -1<<32 + 1, -256, -255, -3, -2, -1, 100, 101, 256, 257, 258, 256 + 98, 512 + 1, 1 << 31, 1<<32 + 1, 1<<32 + 2, 1 << 40, math.MaxInt - 1, math.MaxInt}

// text answers all that s has: two states have one text if, and only if, all fields are the same.
func text(s api.State) string {
	return fmt.Sprint(s.Tracks, s.Switches, s.Locks)
}

// section answers, by the words, s with that section being so.
func section(s api.State, id, is int) api.State {
	out := api.State{Switches: s.Switches, Locks: s.Locks}
	for _, x := range s.Tracks {
		if x.Id == id {
			x.Is = map[int]uint8{0: api.Free, 1: api.Taken}[is]
		}
		out.Tracks = append(out.Tracks, x)
	}
	return out
}

// detected answers, by the words, s with that point lying so.
func detected(s api.State, id, lie int) api.State {
	out := api.State{Tracks: s.Tracks, Locks: s.Locks}
	for _, x := range s.Switches {
		if x.Id == id {
			x = api.Switch{Id: id, Lie: lie, Call: x.Call}
		}
		out.Switches = append(out.Switches, x)
	}
	return out
}

// plans answers plans that may run, each by a name, and these names in an order that stays.
func plans() (map[string]api.Plan, []string) {
	list := sample.Sounds(rand.New(rand.NewSource(16)).Intn)
	return list, slices.Sorted(maps.Keys(list))
}

// lives answers states of p that may be, and their names in an order that stays; of plans with many such, some of them.
func lives(p api.Plan, r *rand.Rand) (map[string]api.State, []string) {
	list := sample.Lives(p, r.Intn)
	names := slices.Sorted(maps.Keys(list))
	if len(names) > 150 {
		r.Shuffle(len(names), func(i, j int) { names[i], names[j] = names[j], names[i] })
		names = names[:40]
	}
	return list, names
}

// things answers the numbers of p's sections and points.
func things(p api.Plan) (sections, points []int) {
	for _, x := range p.Sections {
		sections = append(sections, x.Id)
	}
	for _, x := range p.Points {
		points = append(points, x.Id)
	}
	return sections, points
}
