package trace

import (
	"cmp"
	"slices"

	"haruspex/api"
)

// Alarms gives the alarms of the first fuel steps of a run, each once, by Kind, then At.
func Alarms(p *api.Program, oracle []int64, fuel int) []api.Alarm {
	events, _, _ := Run(p, oracle, fuel)
	var l []api.Alarm
	for _, e := range events {
		switch {
		case e.Kind == sunk:
			l = append(l, api.Alarm{Kind: api.ATaint, At: e.At})
		case e.Kind == ended && (e.N == api.ANil || e.N == api.AFreed):
			l = append(l, api.Alarm{Kind: e.N, At: e.At})
		}
	}
	slices.SortFunc(l, func(a, b api.Alarm) int { return cmp.Or(cmp.Compare(a.Kind, b.Kind), cmp.Compare(a.At, b.At)) })
	return slices.Compact(l)
}

// Calls gives the calls of the first fuel steps of a run, each once, by At, then To.
func Calls(p *api.Program, oracle []int64, fuel int) []api.Edge {
	events, _, _ := Run(p, oracle, fuel)
	var l []api.Edge
	for _, e := range events {
		if e.Kind == called {
			l = append(l, api.Edge{At: e.At, To: e.N})
		}
	}
	slices.SortFunc(l, func(a, b api.Edge) int { return cmp.Or(cmp.Compare(a.At, b.At), cmp.Compare(a.To, b.To)) })
	return slices.Compact(l)
}
