package pack_test

import (
	stdhmac "crypto/hmac"
	"crypto/sha256"
	"encoding/binary"
	"fmt"
	"math/rand"
	"slices"

	"leverframe/api"
	"leverframe/plan"
	"leverframe/sample"
)

// told are a plan's numbers as the words tell them, one behind the other, and the places of those that tell how many follow.
type told struct{ numbers, counts []int }

// put tells numbers.
func (t *told) put(list ...int) {
	t.numbers = append(t.numbers, list...)
}

// count tells how many follow.
func (t *told) count(n int) {
	t.counts = append(t.counts, len(t.numbers))
	t.put(n)
}

// bytes answers the numbers' bytes: what the library calls a varint is just that.
func (t told) bytes() []byte {
	var b []byte
	for _, n := range t.numbers {
		b = binary.AppendUvarint(b, uint64(n))
	}
	return b
}

// with answers t whose number at place is n.
func (t told) with(place, n int) told {
	t.numbers = slices.Clone(t.numbers)
	t.numbers[place] = n
	return t
}

// tell answers p's numbers, of any plan.
func tell(p api.Plan) told {
	var t told
	t.put(p.Version, p.Parent)
	t.count(len(p.Sections))
	for _, s := range p.Sections {
		t.put(s.Id, s.Point)
		for _, j := range s.Ends {
			t.put(j.To, j.End)
		}
	}
	t.count(len(p.Points))
	for _, x := range p.Points {
		t.put(x.Id, x.Section)
	}
	t.count(len(p.Signals))
	for _, x := range p.Signals {
		t.put(x.Id, x.Section, x.End)
	}
	t.count(len(p.Routes))
	for _, r := range p.Routes {
		t.put(r.Id, r.Entry, r.Exit)
		t.count(len(r.Path))
		t.put(r.Path...)
		t.count(len(r.Over))
		t.put(r.Over...)
		t.count(len(r.Flanks))
		for _, f := range r.Flanks {
			t.put(f.Point, f.Lie)
		}
		t.put(r.Timer)
	}
	return t
}

// text answers p's text as the words tell it, of any plan.
func text(p api.Plan) []byte {
	return tell(p).bytes()
}

// tagged answers text, and behind it its tag by key, as the library makes it.
func tagged(key, text []byte) []byte {
	h := stdhmac.New(sha256.New, key)
	h.Write(text)
	return h.Sum(slices.Clone(text))
}

// made answers n bytes that hang on seed alone.
func made(seed int64, n int) []byte {
	b := make([]byte, n)
	rand.New(rand.NewSource(seed)).Read(b)
	return b
}

// station answers the station, with flanks.
func station() api.Plan {
	p := sample.Station()
	p.Version, p.Parent = 300, 128
	p.Routes[0].Flanks = []api.Flank{{Point: 5, Lie: api.Normal}}
	p.Routes[2].Flanks = []api.Flank{{Point: 2, Lie: api.Reverse}, {Point: 5, Lie: api.Normal}}
	return p
}

// few answers plans that may be, told, each by a name.
func few() map[string]api.Plan {
	loose := api.Plan{Version: 3, Sections: []api.Section{sample.Bare(1, api.Join{}, api.Join{})}}
	pointed := api.Plan{Version: 4, Sections: []api.Section{sample.Pointed(7, 9, api.Join{}, api.Join{}, api.Join{})}, Points: []api.Point{{Id: 9, Section: 7}}}
	// Three flanks, and no overlap: the flanks' count would do for that of an overlap, but that it is too great.
	flanked := sample.Having(sample.Yard(), api.Route{Entry: 1, Path: []int{2}, Flanks: []api.Flank{{Point: 10, Lie: 1}, {Point: 20, Lie: 2}, {Point: 60, Lie: 1}}, Timer: 5})
	signalled := plan.Twin(loose)
	signalled.Signals = []api.Signal{{Id: 99, Section: 1, End: 1}}
	return map[string]api.Plan{
		"least": {Version: 1}, "empty": {Version: 1, Sections: []api.Section{}, Points: []api.Point{}, Signals: []api.Signal{}, Routes: []api.Route{}},
		"127 of 126": {Version: 127, Parent: 126}, "128 of 127": {Version: 128, Parent: 127}, "129 of 128": {Version: 129, Parent: 128}, "of four digits": {Version: 1 << 21, Parent: 1<<21 - 1},
		"greatest version": {Version: api.MaxVersion}, "of the one ahead": {Version: api.MaxVersion, Parent: api.MaxVersion - 1},
		"one section": loose, "one with a point": pointed, "one signal": signalled, "flanks, no overlap": flanked,
		"example": sample.Example(), "station": station(), "yard": sample.Yard(), "one of each": sample.Big(3, 1, 2, 1, 1, 0, 1), "greatest": sample.Full(),
	}
}

// some answers plans that may be, told and made by chance.
func some() map[string]api.Plan {
	out := few()
	r := rand.New(rand.NewSource(12))
	for i := range 60 {
		out[fmt.Sprint("grown ", i)] = sample.Grown(r.Intn)
	}
	return out
}

// wrongs answers plans that may not be, and of which each has a text, as far as its numbers tell it, each by a name.
func wrongs() map[string]api.Plan {
	out := map[string]api.Plan{
		"no plan": {}, "1 of 1": {Version: 1, Parent: 1}, "version beyond": {Version: 1 << 31}, "all beyond": {Version: 1 << 40, Parent: 1 << 32},
		"17 sections": sample.Big(17, 6, 10, 16, 6, 2, 3), "7 points": sample.Big(16, 7, 10, 16, 6, 2, 3), "11 signals": sample.Big(16, 6, 11, 16, 6, 2, 3), "17 routes": sample.Big(16, 6, 10, 17, 6, 2, 3),
		"7 in the path": sample.Big(16, 6, 10, 16, 7, 2, 3), "3 in the overlap": sample.Big(16, 6, 10, 16, 6, 3, 3), "4 flanks": sample.Big(16, 6, 10, 16, 6, 2, 4), "an empty path": sample.Big(16, 6, 10, 16, 0, 2, 3),
		"nearly 128 of each": sample.Big(99, 49, 99, 99, 40, 30, 40),
	}
	for name, change := range map[string]func(p *api.Plan){
		"sections that fall":             func(p *api.Plan) { p.Sections[0], p.Sections[1] = p.Sections[1], p.Sections[0] },
		"a section joined one way":       func(p *api.Plan) { p.Sections[0].Ends[1] = api.Join{} },
		"section 100":                    func(p *api.Plan) { p.Sections = append(p.Sections, sample.Bare(100, api.Join{}, api.Join{})) },
		"a section that is nothing":      func(p *api.Plan) { p.Sections = slices.Insert(p.Sections, 0, sample.Bare(0, api.Join{}, api.Join{})) },
		"an end of nothing":              func(p *api.Plan) { p.Sections[0].Ends[0] = sample.To(0, 1) },
		"a point is missing":             func(p *api.Plan) { p.Points = p.Points[:1] },
		"a point too many":               func(p *api.Plan) { p.Points = append(p.Points, api.Point{Id: 6, Section: 6}) },
		"a point elsewhere":              func(p *api.Plan) { p.Points[1].Section = 2 },
		"signals that fall":              func(p *api.Plan) { p.Signals[0], p.Signals[1] = p.Signals[1], p.Signals[0] },
		"two signals at one end":         func(p *api.Plan) { p.Signals[1].Section = 1 },
		"a signal at an end too many":    func(p *api.Plan) { p.Signals[0].End = 2 },
		"signal 0":                       func(p *api.Plan) { p.Signals[0].Id = 0 },
		"routes that fall":               func(p *api.Plan) { p.Routes[0], p.Routes[1] = p.Routes[1], p.Routes[0] },
		"a route twice":                  func(p *api.Plan) { p.Routes = append(p.Routes, p.Routes[2]) },
		"a route of no signal":           func(p *api.Plan) { p.Routes[0].Entry = 2 },
		"an exit that is the entry":      func(p *api.Plan) { p.Routes[0].Exit = 1 },
		"an overlap without an exit":     func(p *api.Plan) { p.Routes[0].Exit = 0 },
		"a section twice":                func(p *api.Plan) { p.Routes[0].Over[0] = 3 },
		"a section that isn't there":     func(p *api.Plan) { p.Routes[0].Path[1] = 7 },
		"the section of the entry":       func(p *api.Plan) { p.Routes[0].Over[0] = 1 },
		"a flank that isn't there":       func(p *api.Plan) { p.Routes[0].Flanks[0].Point = 3 },
		"a flank that lies not at all":   func(p *api.Plan) { p.Routes[0].Flanks[0].Lie = 0 },
		"flanks that fall":               func(p *api.Plan) { p.Routes[2].Flanks[0].Point = 5 },
		"timer 0":                        func(p *api.Plan) { p.Routes[0].Timer = 0 },
		"timer 10":                       func(p *api.Plan) { p.Routes[0].Timer = 10 },
		"a number of more than a digit":  func(p *api.Plan) { p.Routes[2].Timer = 128 },
		"a number beyond":                func(p *api.Plan) { p.Routes[2].Timer = 1 << 31 },
		"a number beyond, but for that":  func(p *api.Plan) { p.Routes[2].Timer += 1 << 32 },
		"a parent beyond, but for that":  func(p *api.Plan) { p.Parent += 1 << 32 },
		"a version beyond, but for that": func(p *api.Plan) { p.Version += 1 << 32 },
	} {
		p := station()
		change(&p)
		out[name] = p
	}
	return out
}

// untold answers plans that may not be, and of which nothing has a text: numbers below nought, and ends that no text can tell, each by a name.
func untold() map[string]api.Plan {
	out := map[string]api.Plan{"below nought": {Version: -1, Parent: -2}}
	for name, change := range map[string]func(p *api.Plan){
		"parent -1":                   func(p *api.Plan) { p.Parent = -1 },
		"section -1":                  func(p *api.Plan) { p.Sections[0].Id = -1 },
		"an end -1":                   func(p *api.Plan) { p.Sections[0].Ends[0].End = -1 },
		"exit -1":                     func(p *api.Plan) { p.Routes[1].Exit = -1 },
		"timer -1":                    func(p *api.Plan) { p.Routes[0].Timer = -1 },
		"lie -1":                      func(p *api.Plan) { p.Routes[0].Flanks[0].Lie = -1 },
		"no ends":                     func(p *api.Plan) { p.Sections[0].Ends = nil },
		"one end":                     func(p *api.Plan) { p.Sections[0].Ends = p.Sections[0].Ends[:1] },
		"three ends without a point":  func(p *api.Plan) { p.Sections[0].Ends = append(p.Sections[0].Ends, api.Join{}) },
		"two ends, and a point":       func(p *api.Plan) { p.Sections[1].Ends = p.Sections[1].Ends[:2] },
		"four ends, and a point":      func(p *api.Plan) { p.Sections[1].Ends = append(p.Sections[1].Ends, api.Join{}) },
		"a point in a section of two": func(p *api.Plan) { p.Sections[0].Point = 7 },
	} {
		p := station()
		change(&p)
		out[name] = p
	}
	return out
}
