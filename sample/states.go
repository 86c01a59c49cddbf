package sample

import (
	"slices"

	"leverframe/api"
	"leverframe/way"
)

// Lived answers a state that may be of p, which may run, made by chance: some routes are locked, as far as they may be together.
func Lived(p api.Plan, chance Chance) api.State {
	s := Unlocked(p, chance)
	order := make([]int, len(p.Routes))
	for i := range order {
		order[i] = i
	}
	shuffled(order, chance)
	held, lies := map[int]int{}, map[int]int{}
	for _, i := range order {
		l := Locked(p.Routes[i], uint8(chance(5)), chance)
		sections, asks := Holds(p, l)
		clash := slices.ContainsFunc(sections, func(id int) bool { return held[id] != 0 })
		for _, a := range asks {
			clash = clash || lies[a.Point] == 3-a.Lie
		}
		if clash {
			continue
		}
		s.Locks[i] = l
		for _, id := range sections {
			held[id] = l.Id
		}
		for _, a := range asks {
			lies[a.Point] = a.Lie
		}
	}
	for i, x := range s.Switches {
		if lie := lies[x.Id]; lie != 0 {
			s.Switches[i].Call = lie
		}
	}
	return s
}

// Unlocked answers a state of p whose routes are all at rest; what is known, and called, is by chance.
func Unlocked(p api.Plan, chance Chance) api.State {
	var s api.State
	for _, x := range p.Sections {
		s.Tracks = append(s.Tracks, api.Track{Id: x.Id, Is: uint8(chance(3))})
	}
	for _, x := range p.Points {
		s.Switches = append(s.Switches, api.Switch{Id: x.Id, Lie: chance(3), Call: chance(3)})
	}
	for _, x := range p.Routes {
		s.Locks = append(s.Locks, api.Lock{Id: x.Id})
	}
	return s
}

// Locked answers a lock of r in that phase, how far it is being by chance; it may be, if r may.
func Locked(r api.Route, phase uint8, chance Chance) api.Lock {
	l := api.Lock{Id: r.Id, Phase: phase}
	switch phase {
	case api.Used:
		l.Gone = chance(max(1, len(r.Path)))
	case api.Ending:
		l.Gone, l.Left = len(r.Path)-1, 1+chance(max(1, r.Timer))
	case api.Falling:
		l.Left = 1 + chance(max(1, r.Timer))
	}
	return l
}

// Holds answers the sections that the route of l, one of p, holds by it, and what it asks.
func Holds(p api.Plan, l api.Lock) ([]int, []api.Ask) {
	w, e := way.Of(p, l.Id)
	if l.Phase == api.Rest || e != api.OK {
		return nil, nil
	}
	asks := slices.DeleteFunc(w.Asks, func(a api.Ask) bool { return a.At != -1 && a.At < l.Gone })
	return append(w.Path[l.Gone:], w.Over...), asks
}

// Stray changes one thing of a state of p by chance; then it may be or not.
func Stray(p api.Plan, s *api.State, chance Chance) {
	if len(p.Routes) > 0 && chance(2) == 0 {
		i := chance(len(p.Routes))
		s.Locks[i] = Locked(p.Routes[i], uint8(chance(5)), chance)
		return
	}
	if list := figures(s); len(list) > 0 {
		list[chance(len(list))].put(chance(4))
	}
}

// SpareState answers s in new memory, each list with room for one more, where an odd number stands: whoever puts something there is seen by WholeState.
func SpareState(s api.State) api.State {
	return api.State{
		Tracks:   roomy(s.Tracks, api.Track{Id: 1101, Is: 102}),
		Switches: roomy(s.Switches, api.Switch{Id: 1103, Lie: 1104, Call: 1105}),
		Locks:    roomy(s.Locks, api.Lock{Id: 1106, Phase: 107, Gone: 1108, Left: 1109}),
	}
}

// WholeState answers s in new memory, what stands in its lists' spare room told as elements.
func WholeState(s api.State) api.State {
	return api.State{Tracks: whole(s.Tracks), Switches: whole(s.Switches), Locks: whole(s.Locks)}
}

// Turned calls each while one number of s is another one: each number in turn, by its place, made each of to (of which a phase, and what is known of a section, take the lowest byte). Then s is as it was.
func Turned(s *api.State, to []int, each func(place int)) {
	for i, x := range figures(s) {
		was := x.get()
		for _, n := range to {
			x.put(n)
			each(i)
		}
		x.put(was)
	}
}

// Listed calls each while one list of s is another one: short of one element, each in turn, with one more, or in another order. Then s is as it was.
func Listed(s *api.State, each func()) {
	listed(&s.Tracks, api.Track{Id: 100}, each)
	listed(&s.Switches, api.Switch{Id: 100}, each)
	listed(&s.Locks, api.Lock{Id: 100}, each)
}

// listed calls each while list is another one.
func listed[T any](list *[]T, more T, each func()) {
	was := *list
	for i := range was {
		*list = slices.Delete(slices.Clone(was), i, i+1)
		each()
		*list = slices.Insert(slices.Clone(was), i, was[i])
		each()
		if i > 0 {
			*list = slices.Clone(was)
			(*list)[i], (*list)[i-1] = was[i-1], was[i]
			each()
		}
	}
	*list = append(slices.Clone(was), more)
	each()
	*list = was
}

// figure is a number of a state, wherever it stands.
type figure struct {
	get func() int
	put func(n int)
}

// figures answers all numbers of s.
func figures(s *api.State) []figure {
	var out []figure
	for i := range s.Tracks {
		out = append(out, figureAt(&s.Tracks[i].Id), figureAt(&s.Tracks[i].Is))
	}
	for i := range s.Switches {
		out = append(out, figureAt(&s.Switches[i].Id), figureAt(&s.Switches[i].Lie), figureAt(&s.Switches[i].Call))
	}
	for i := range s.Locks {
		l := &s.Locks[i]
		out = append(out, figureAt(&l.Id), figureAt(&l.Phase), figureAt(&l.Gone), figureAt(&l.Left))
	}
	return out
}

// figureAt answers the number that stands there.
func figureAt[T int | uint8](at *T) figure {
	return figure{get: func() int { return int(*at) }, put: func(n int) { *at = T(n) }}
}
