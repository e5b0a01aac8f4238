// Package faces holds the faces of the packages fast: where a signature is changed, these tests do not build.
package faces

import (
	"haruspex/api"
	"haruspex/assign"
	"haruspex/bitset"
	"haruspex/calls"
	"haruspex/code"
	"haruspex/dom"
	"haruspex/flow"
	"haruspex/freed"
	"haruspex/front"
	"haruspex/gen"
	"haruspex/graph"
	"haruspex/ir"
	"haruspex/memory"
	"haruspex/modref"
	"haruspex/nilness"
	"haruspex/nodes"
	"haruspex/reach"
	"haruspex/refuse"
	"haruspex/report"
	"haruspex/sem"
	"haruspex/solve"
	"haruspex/taint"
	"haruspex/trace"
	"haruspex/types"
	"haruspex/union"
	"haruspex/value"
	"haruspex/wf"
	"haruspex/witness"
	"haruspex/work"
)

var (
	_ func(*api.Program, int) graph.Graph   = assign.Flow
	_ func(*api.Program) error              = assign.Shape
	_ func(*api.Program, int) []*bitset.Set = assign.In
	_ func(*api.Program) error              = assign.Check

	_ func(...int) *bitset.Set                   = bitset.Of
	_ func(*bitset.Set, int) bool                = (*bitset.Set).Add
	_ func(*bitset.Set, int) bool                = (*bitset.Set).Remove
	_ func(*bitset.Set, int) bool                = (*bitset.Set).Has
	_ func(*bitset.Set) int                      = (*bitset.Set).Len
	_ func(*bitset.Set) []int                    = (*bitset.Set).All
	_ func(*bitset.Set, *bitset.Set) bool        = (*bitset.Set).Join
	_ func(*bitset.Set, *bitset.Set) *bitset.Set = (*bitset.Set).Less
	_ func(*bitset.Set, *bitset.Set) *bitset.Set = (*bitset.Set).Meet
	_ func(*bitset.Set, *bitset.Set) bool        = (*bitset.Set).Eq
	_ func(*bitset.Set, *bitset.Set) bool        = (*bitset.Set).In
	_ func(*bitset.Set) *bitset.Set              = (*bitset.Set).Copy
	_ func(*bitset.Set, int) int                 = (*bitset.Set).First

	_ func(*api.Program, *solve.Solution) graph.Graph = calls.Graph
	_ func(*api.Program, *solve.Solution) [][]int     = calls.Parts
	_ func(*api.Program, *solve.Solution, int) bool   = calls.Recursive
	_ func(*solve.Solution, int) []int                = calls.Targets
	_ func(*solve.Solution, int) []int                = calls.Callers
	_ func(*api.Program, *solve.Solution) graph.Graph = calls.Flow

	_ func(*api.Program) ([]byte, error) = code.Encode
	_ func([]byte) (*api.Program, error) = code.Decode

	_ func(graph.Graph, int) []int = dom.Up
	_ func([]int, int, int) bool   = dom.Above
	_ func([]int) []int            = dom.Depth

	_ func(*api.Program, *solve.Solution) *flow.Graph = flow.Make
	_ func(*flow.Graph, api.Place) []api.Place        = (*flow.Graph).From
	_ func(*flow.Graph) int                           = (*flow.Graph).Edges
	_ func(*flow.Graph, api.Place, api.Place) bool    = (*flow.Graph).Has
	_ func(*flow.Graph, []api.Place) []api.Place      = (*flow.Graph).Reach
	_ func(api.Place, api.Place) bool                 = flow.Less

	_ func(*api.Program, *solve.Solution, int) []int  = freed.Frees
	_ func(*api.Program, *solve.Solution, int) []int  = freed.Behind
	_ func(*api.Program, *solve.Solution) []api.Alarm = freed.Alarms

	_ func(graph.Graph, int) []*bitset.Set         = front.Of
	_ func([]*bitset.Set, *bitset.Set) *bitset.Set = front.Closure

	_ func(*api.Program, int) []gen.Rule      = gen.Of
	_ func(*api.Program, int, int) []gen.Rule = gen.Call

	_ func(graph.Graph) bool               = graph.May
	_ func(graph.Graph) graph.Graph        = graph.Turn
	_ func(graph.Graph, []int) *bitset.Set = graph.Reach
	_ func(graph.Graph) [][]int            = graph.Parts
	_ func(graph.Graph, int) []int         = graph.Order
	_ func(graph.Graph, int, int) []int    = graph.Path
	_ func(graph.Graph) *bitset.Set        = graph.Loops

	_ func(*api.Program) []api.Point            = ir.Points
	_ func(*api.Program, api.Point) int         = ir.Number
	_ func(*api.Program, int) (api.Instr, bool) = ir.At
	_ func(api.Instr) (int, bool)               = ir.Def
	_ func(api.Instr) []int                     = ir.Uses
	_ func(*api.Program, int) []int             = ir.Next
	_ func(*api.Program) string                 = ir.Print
	_ func(api.Instr) string                    = ir.Line

	_ func(*api.Program, *solve.Solution, int, api.Cell) []api.Place = memory.Defs
	_ func(*api.Program, *solve.Solution, int) []api.Cell            = memory.Counts

	_ func(*api.Program, *solve.Solution, int) []api.Cell = modref.Mod
	_ func(*api.Program, *solve.Solution, int) []api.Cell = modref.Ref
	_ func(*api.Program, *solve.Solution, int) []api.Cell = modref.Writes
	_ func(*api.Program, *solve.Solution, int) []api.Cell = modref.Reads

	_ func(*api.Program, *solve.Solution) []api.Place              = nilness.Sources
	_ func(*api.Program, int) (int, bool)                          = nilness.Followed
	_ func(*api.Program, *solve.Solution, *flow.Graph) []api.Alarm = nilness.Alarms

	_ func(*api.Program) *nodes.Table     = nodes.New
	_ func(*nodes.Table, int, int) int    = (*nodes.Table).Reg
	_ func(*nodes.Table, int) int         = (*nodes.Table).Ret
	_ func(*nodes.Table, api.Cell) int    = (*nodes.Table).Cell
	_ func(*nodes.Table) int              = (*nodes.Table).Len
	_ func(*nodes.Table) []int            = (*nodes.Table).Sites
	_ func(*nodes.Table, int) int         = (*nodes.Table).Fun
	_ func(*nodes.Table, int) (int, bool) = (*nodes.Table).Object
	_ func(*nodes.Table, int) int         = (*nodes.Table).Rec

	_ func(*api.Program, int, int) []api.Place = reach.Defs
	_ func(*api.Program, int) []int            = reach.Used

	_ func(*refuse.Error) string        = (*refuse.Error).Error
	_ func(*refuse.Error) error         = (*refuse.Error).Unwrap
	_ func(int, api.Point, error) error = refuse.New
	_ func(error) int                   = refuse.Why
	_ func(error) (api.Point, bool)     = refuse.Where
	_ func(error) []int                 = refuse.Chain
	_ func(int) string                  = refuse.Name
	_ func(*refuse.Error, error) bool   = (*refuse.Error).Is

	_ func([]byte) (*report.Report, error)              = report.Analyse
	_ func(*api.Program, []int) (*report.Report, error) = report.Of
	_ func(*report.Report) string                       = report.Text

	_ func(*api.Program, []int64) *sem.Machine  = sem.New
	_ func(*sem.Machine) int                    = (*sem.Machine).Step
	_ func(*sem.Machine) int                    = (*sem.Machine).At
	_ func(*sem.Machine) int                    = (*sem.Machine).Depth
	_ func(*sem.Machine, int) (api.Value, bool) = (*sem.Machine).Reg
	_ func(*sem.Machine) *value.Heap            = (*sem.Machine).Heap
	_ func(*sem.Machine) int                    = (*sem.Machine).Called
	_ func(*sem.Machine) bool                   = (*sem.Machine).Sunk
	_ func(*sem.Machine) api.Value              = (*sem.Machine).Result

	_ func(*api.Program, []int) *solve.Solution = solve.Solve
	_ func(*solve.Solution, int) []int          = (*solve.Solution).Points
	_ func(*solve.Solution, int) bool           = (*solve.Solution).Reached
	_ func(*solve.Solution) []api.Edge          = (*solve.Solution).Edges
	_ func(*solve.Solution) int                 = (*solve.Solution).Pops
	_ func(*solve.Solution, int) []api.Cell     = (*solve.Solution).Cells

	_ func(*api.Program, *solve.Solution) []api.Place              = taint.Sources
	_ func(*api.Program, *solve.Solution, *flow.Graph) []api.Alarm = taint.Alarms

	_ func(*api.Program, []int64, int) ([]trace.Event, int, int) = trace.Run
	_ func(*api.Program, []int64, int) []api.Alarm               = trace.Alarms
	_ func(*api.Program, []int64, int) []api.Edge                = trace.Calls

	_ func(*api.Program) error                = types.Bounds
	_ func(*api.Program) error                = types.Names
	_ func(*api.Program) error                = types.Check
	_ func(*api.Program, int, api.Instr) bool = types.Fits

	_ func(int) *union.Union            = union.New
	_ func(*union.Union, int) int       = (*union.Union).Find
	_ func(*union.Union, int, int) bool = (*union.Union).Join
	_ func(*union.Union, int, int) bool = (*union.Union).Same
	_ func(*union.Union) [][]int        = (*union.Union).Groups
	_ func(*union.Union) int            = (*union.Union).Len

	_ func() *value.Heap                             = value.New
	_ func(api.Type) api.Value                       = value.Zero
	_ func(*value.Heap, int, []api.Type) int64       = (*value.Heap).Alloc
	_ func(*value.Heap, int64, int) (api.Value, int) = (*value.Heap).Get
	_ func(*value.Heap, int64, int, api.Value) int   = (*value.Heap).Set
	_ func(*value.Heap, int64) int                   = (*value.Heap).Free
	_ func(*value.Heap, int64) int                   = (*value.Heap).Site
	_ func(*value.Heap, int64) bool                  = (*value.Heap).Freed
	_ func(*value.Heap) int                          = (*value.Heap).Len
	_ func(api.Value, api.Value) api.Value           = value.Add

	_ func(*api.Program) error           = wf.Check
	_ func(*api.Program) error           = wf.Methods
	_ func([]byte) (*api.Program, error) = wf.Load

	_ func(*api.Program, api.Alarm) []api.Place       = witness.Why
	_ func(*api.Program, api.Alarm, []api.Place) bool = witness.Check
	_ func(*api.Program, api.Alarm) []int             = witness.Freed
	_ func(*api.Program, api.Alarm, []int) bool       = witness.CheckFreed

	_ func([]int) *work.List       = work.New
	_ func(*work.List, int) bool   = (*work.List).Push
	_ func(*work.List) (int, bool) = (*work.List).Pop
	_ func(*work.List) int         = (*work.List).Len
	_ func(*work.List) int         = (*work.List).Pops
)

// The types whose fields the layers hand one another.
var (
	_ = gen.Rule{Kind: 0, A: 0, B: 0, F: 0, Args: []int{}, Dst: 0, At: 0}
	_ = graph.Graph{N: 0, To: [][]int{}}
	_ = refuse.Error{Why: 0, At: api.Point{}, Inner: error(nil)}
	_ = report.Report{Alarms: []api.Alarm{}, Edges: []api.Edge{}, Reached: []int{}}
	_ = trace.Event{At: 0, Kind: 0, N: 0}
)
