package sample

import (
	"slices"

	"leverframe/api"
)

// Chance answers some number from 0 to n-1.
type Chance func(n int) int

// Grown answers a plan that may be, made by chance: most ends are joined, and most routes go along. Not all of its routes' sections hang together, and of those that do not all are sound.
func Grown(chance Chance) api.Plan {
	p := api.Plan{Version: 1 + chance(9)}
	open := laid(&p, chance)
	shuffled(open, chance)
	for i := range (len(open) - chance(4)) / 2 {
		Tie(p, open[2*i], open[2*i+1])
	}
	shuffled(open, chance)
	for i, id := range rising(1+chance(min(len(open), api.MaxSignals)), chance) {
		p.Signals = append(p.Signals, api.Signal{Id: id, Section: open[i].To, End: open[i].End})
	}
	ids := rising(1+chance(api.MaxRoutes), chance)
	for range 200 {
		if r := roamed(p, chance); len(p.Routes) < len(ids) && len(r.Path) > 0 {
			r.Id = ids[len(p.Routes)]
			p.Routes = append(p.Routes, r)
		}
	}
	return p
}

// End answers where what that end in p leads to stands; nil, if there is no such end.
func End(p api.Plan, j api.Join) *api.Join {
	for i, s := range p.Sections {
		if s.Id == j.To && j.End >= 0 && j.End < len(s.Ends) {
			return &p.Sections[i].Ends[j.End]
		}
	}
	return nil
}

// Tie joins two ends of p.
func Tie(p api.Plan, a, b api.Join) {
	*End(p, a), *End(p, b) = b, a
}

// laid lays sections and points into p, and answers all of their ends.
func laid(p *api.Plan, chance Chance) []api.Join {
	var open []api.Join
	points := some(chance(api.MaxPoints+1), chance)
	for _, id := range rising(3+chance(api.MaxSections-2), chance) {
		s := Bare(id, api.Join{}, api.Join{})
		if len(points) > 0 && chance(2) == 0 {
			s = Pointed(id, points[0], api.Join{}, api.Join{}, api.Join{})
			p.Points = append(p.Points, api.Point{Id: points[0], Section: id})
			points = points[1:]
		}
		for end := range s.Ends {
			open = append(open, To(id, end))
		}
		p.Sections = append(p.Sections, s)
	}
	slices.SortFunc(p.Points, func(a, b api.Point) int { return a.Id - b.Id })
	return open
}

// some answers n elements' numbers, all unlike.
func some(n int, chance Chance) []int {
	all := make([]int, api.MaxId)
	for i := range all {
		all[i] = i + 1
	}
	shuffled(all, chance)
	return all[:n]
}

// rising answers n elements' numbers, rising.
func rising(n int, chance Chance) []int {
	return slices.Sorted(slices.Values(some(n, chance)))
}

// shuffled brings list into an order by chance.
func shuffled[T any](list []T, chance Chance) {
	for i := range list {
		k := chance(i + 1)
		list[i], list[k] = list[k], list[i]
	}
}

// roamed answers a route that may be in p, unless its path is empty; it goes from a signal on by chance, and now and then it is changed by chance.
func roamed(p api.Plan, chance Chance) api.Route {
	entry := p.Signals[chance(len(p.Signals))]
	r := api.Route{Entry: entry.Id, Timer: 1 + chance(api.MaxTimer)}
	seen := []int{entry.Section, 0}
	for at := *End(p, To(entry.Section, entry.End)); !slices.Contains(seen, at.To); {
		seen = append(seen, at.To)
		if r.Exit == 0 {
			r.Path = append(r.Path, at.To)
		} else {
			r.Over = append(r.Over, at.To)
		}
		here := To(at.To, onward(p, at, chance))
		at = *End(p, here)
		if id := signalAt(p, here); id != 0 && r.Exit == 0 && id != entry.Id && chance(3) > 0 {
			r.Exit = id
		}
		if len(r.Over) == api.MaxOver || len(r.Path) == api.MaxPath && r.Exit == 0 || chance(8) == 0 {
			break
		}
	}
	for _, x := range p.Points {
		if chance(4) == 0 && len(r.Flanks) < api.MaxFlanks {
			r.Flanks = append(r.Flanks, api.Flank{Point: x.Id, Lie: 1 + chance(2)})
		}
	}
	if len(r.Path) > 0 && chance(4) == 0 {
		bend(p, &r, entry, chance)
	}
	return r
}

// onward answers an end to which there is a way from the one by which one comes in.
func onward(p api.Plan, at api.Join, chance Chance) int {
	if End(p, To(at.To, 2)) == nil {
		return 1 - at.End
	}
	if at.End == 0 {
		return 1 + chance(2)
	}
	return 0
}

// signalAt answers the number of p's signal at that end; 0, if there is none.
func signalAt(p api.Plan, at api.Join) int {
	for _, s := range p.Signals {
		if s.Section == at.To && s.End == at.End {
			return s.Id
		}
	}
	return 0
}

// bend changes one thing of r, which still may be in p.
func bend(p api.Plan, r *api.Route, entry api.Signal, chance Chance) {
	other, section := p.Signals[chance(len(p.Signals))].Id, p.Sections[chance(len(p.Sections))].Id
	i, k := chance(len(r.Path)), chance(len(r.Path))
	switch chance(5) {
	case 0:
		r.Path[i], r.Path[k] = r.Path[k], r.Path[i]
	case 1:
		if !slices.Contains(slices.Concat(r.Path, r.Over, []int{entry.Section}), section) {
			r.Path[i] = section
		}
	case 2:
		if other != r.Entry {
			r.Exit = other
		}
	case 3:
		r.Exit, r.Over = 0, nil
	case 4:
		slices.Reverse(r.Over)
	}
}
