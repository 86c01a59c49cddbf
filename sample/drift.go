package sample

import (
	"slices"

	"leverframe/api"
	"leverframe/plan"
)

// Drifted answers p, changed by chance some times, so that it still may be; much of it stays as it was.
func Drifted(p api.Plan, chance Chance) api.Plan {
	for range 1 + chance(20) {
		q := plan.Twin(p)
		Drift(&q, chance)
		if plan.Check(q) == api.OK {
			p = q
		}
	}
	return p
}

// Drift changes one thing of p by chance, which has sections; then it may be or not.
func Drift(p *api.Plan, chance Chance) {
	switch chance(8) {
	case 0: // two ends led to each other, and no more
		a := To(p.Sections[chance(len(p.Sections))].Id, chance(2))
		if b := *End(*p, a); b.To != 0 {
			*End(*p, a), *End(*p, b) = api.Join{}, api.Join{}
		}
	case 1: // two ends lead to each other
		a, b := To(p.Sections[chance(len(p.Sections))].Id, chance(2)), To(p.Sections[chance(len(p.Sections))].Id, chance(2))
		Tie(*p, a, b)
	case 2: // a route less
		if i := chance(len(p.Routes) + 1); i < len(p.Routes) {
			p.Routes = slices.Delete(p.Routes, i, i+1)
		}
	case 3: // a signal less
		if i := chance(len(p.Signals) + 1); i < len(p.Signals) {
			p.Signals = slices.Delete(p.Signals, i, i+1)
		}
	case 4: // a route more, by another one's fields
		if i := chance(len(p.Routes) + 1); i < len(p.Routes) {
			x := plan.Twin(*p).Routes[i]
			x.Id++
			p.Routes = slices.Insert(p.Routes, i+1, x)
		}
	case 5: // a section more
		at := chance(len(p.Sections)) + 1
		p.Sections = slices.Insert(p.Sections, at, Bare(p.Sections[at-1].Id+1, api.Join{}, api.Join{}))
	default: // a number is another one
		list := Numbers(p)
		*list[chance(len(list))] = chance(17)
	}
}
