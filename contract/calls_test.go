// Package contract holds tests of what all layers have in common: the calls that they offer, the limits, and the errors.
package contract

// The calls of each layer, with their types: this file does not build if one of them is missing, or is another one.

import (
	"covey/accrual"
	"covey/agree"
	"covey/api"
	"covey/arbiter"
	"covey/audit"
	"covey/choice"
	"covey/clock"
	"covey/code"
	"covey/config"
	"covey/crc"
	"covey/edge"
	"covey/entry"
	"covey/events"
	"covey/frame"
	"covey/holder"
	"covey/ident"
	"covey/lead"
	"covey/link"
	"covey/net"
	"covey/node"
	"covey/outbox"
	"covey/ring"
	"covey/roster"
	"covey/rows"
	"covey/script"
	"covey/sides"
	"covey/stable"
	"covey/stage"
	"covey/talk"
	"covey/view"
	"covey/walk"
	"covey/watch"
	"covey/world"
)

// Package crc.
var (
	_ func(s string) uint32                   = crc.Sum
	_ func(sum uint32, s string) uint32       = crc.Add
	_ func(s string, at int, x uint32) string = crc.Bend
)

// Package code.
var (
	_ func(s string, n int) (string, api.Errno)      = code.Num
	_ func(s string, id api.ID) (string, api.Errno)  = code.ID
	_ func(s string, l []api.ID) (string, api.Errno) = code.IDs
	_ func(s string) *code.Reader                    = code.Open
	_ func(_ *code.Reader) (int, api.Errno)          = (*code.Reader).Num
	_ func(_ *code.Reader) (api.ID, api.Errno)       = (*code.Reader).ID
	_ func(_ *code.Reader) ([]api.ID, api.Errno)     = (*code.Reader).IDs
	_ func(_ *code.Reader) int                       = (*code.Reader).Left
	_ func(_ *code.Reader) api.Errno                 = (*code.Reader).End
)

// Package ident.
var (
	_ func(id api.ID) bool                 = ident.May
	_ func(a, b api.ID) bool               = ident.Less
	_ func(a, b api.ID) int                = ident.Compare
	_ func(l []api.ID) bool                = ident.Rising
	_ func(l []api.ID) []api.ID            = ident.Set
	_ func(l []api.ID, id api.ID) bool     = ident.Has
	_ func(l []api.ID, id api.ID) []api.ID = ident.Put
	_ func(l []api.ID, id api.ID) []api.ID = ident.Del
	_ func(l, m []api.ID) []api.ID         = ident.Join
	_ func(l, m []api.ID) []api.ID         = ident.Both
	_ func(l, m []api.ID) []api.ID         = ident.Without
	_ func(l, m []api.ID) bool             = ident.Same
)

// Package stage.
var (
	_ func(s uint8) bool                   = stage.May
	_ func(s uint8) string                 = stage.Name
	_ func(name string) (uint8, api.Errno) = stage.Parse
	_ func(a, b uint8) uint8               = stage.Max
	_ func(s uint8) bool                   = stage.Voter
	_ func(s uint8) bool                   = stage.Alive
	_ func(from, to uint8) uint8           = stage.Edge
	_ func(from uint8) []uint8             = stage.Next
	_ func(from, to uint8) [][]uint8       = stage.Ways
)

// Package clock.
var (
	_ func(c []api.Tick) bool                               = clock.May
	_ func(c []api.Tick, id api.ID) int                     = clock.Get
	_ func(c []api.Tick, id api.ID) ([]api.Tick, api.Errno) = clock.Up
	_ func(a, b []api.Tick) []api.Tick                      = clock.Join
	_ func(a, b []api.Tick) uint8                           = clock.Compare
)

// Package rows.
var (
	_ func(l []api.Row) bool                                            = rows.May
	_ func(l []api.Row, id api.ID) (api.Row, bool)                      = rows.Get
	_ func(l []api.Row, of api.ID, not []api.ID) ([]api.Row, api.Errno) = rows.Set
	_ func(a, b []api.Row) []api.Row                                    = rows.Join
	_ func(l []api.Row, floors []api.ID) []api.Row                      = rows.Gone
	_ func(l []api.Row, of []api.ID) []api.ID                           = rows.Not
	_ func(a, b []api.Row) bool                                         = rows.Same
)

// Package roster.
var (
	_ func(m []api.Member, f []api.ID) bool                                                 = roster.May
	_ func(f []api.ID, addr int) int                                                        = roster.Floor
	_ func(f []api.ID, id api.ID) bool                                                      = roster.Gone
	_ func(m []api.Member, id api.ID) (api.Member, bool)                                    = roster.Get
	_ func(m []api.Member, addr int) (api.Member, bool)                                     = roster.At
	_ func(m []api.Member, f []api.ID, n []api.Member, g []api.ID) ([]api.Member, []api.ID) = roster.Join
	_ func(m []api.Member, f []api.ID, x api.Member) ([]api.Member, []api.ID)               = roster.Set
	_ func(m []api.Member) int                                                              = roster.Next
	_ func(m []api.Member) (api.Member, bool)                                               = roster.Oldest
	_ func(m, n []api.Member) bool                                                          = roster.Same
)

// Package view.
var (
	_ func(v api.View) bool                                           = view.May
	_ func(a, b api.View) api.View                                    = view.Join
	_ func(a, b api.View) bool                                        = view.Same
	_ func(a, b api.View) bool                                        = view.Core
	_ func(v api.View, me api.ID, m api.Member) (api.View, api.Errno) = view.Put
	_ func(v api.View, me api.ID, not []api.ID) (api.View, api.Errno) = view.Row
	_ func(v, told api.View, me api.ID) api.View                      = view.Tell
	_ func(a, b api.View) bool                                        = view.Covers
	_ func(v api.View) api.View                                       = view.Copy
)

// Package agree.
var (
	_ func(v api.View) []api.ID        = agree.NotReached
	_ func(v api.View, id api.ID) bool = agree.Reached
	_ func(v api.View) bool            = agree.All
	_ func(v api.View) bool            = agree.Reaching
	_ func(v api.View) (api.ID, bool)  = agree.Leader
)

// Package edge.
var (
	_ func(before, after api.View) []edge.Turn                               = edge.Turns
	_ func(me api.ID, before, after api.View, told *api.View) uint8          = edge.Kind
	_ func(me api.ID, before api.View, l []api.Member) (api.View, api.Errno) = edge.Does
)

// Package frame.
var (
	_ func(f api.Frame) bool                = frame.May
	_ func(f api.Frame) (string, api.Errno) = frame.Encode
	_ func(s string) (api.Frame, api.Errno) = frame.Decode
	_ func(a, b api.Frame) bool             = frame.Same
)

// Package link.
var (
	_ func() *link.Links                                    = link.New
	_ func(_ *link.Links, f api.Frame, me api.ID) api.Errno = (*link.Links).Take
	_ func(_ *link.Links, id api.ID) api.Errno              = (*link.Links).Fence
	_ func(_ *link.Links, id api.ID) bool                   = (*link.Links).Fenced
	_ func(_ *link.Links, addr int) int                     = (*link.Links).Newest
	_ func(_ *link.Links) *link.Links                       = (*link.Links).Copy
)

// Package outbox.
var (
	_ func(max int) (*outbox.Box, api.Errno)                                   = outbox.New
	_ func(_ *outbox.Box, f api.Frame) (out api.Frame, lost bool, e api.Errno) = (*outbox.Box).Put
	_ func(_ *outbox.Box) (api.Frame, bool)                                    = (*outbox.Box).Take
	_ func(_ *outbox.Box) int                                                  = (*outbox.Box).Len
	_ func(_ *outbox.Box) []api.Frame                                          = (*outbox.Box).All
	_ func(_ *outbox.Box)                                                      = (*outbox.Box).Clear
	_ func(_ *outbox.Box) *outbox.Box                                          = (*outbox.Box).Copy
)

// Package ring.
var (
	_ func(ids []api.ID, me api.ID) []api.ID                      = ring.Order
	_ func(ids []api.ID, me api.ID, not []api.ID, n int) []api.ID = ring.Watched
	_ func(ids []api.ID, of api.ID) (api.ID, bool)                = ring.Behind
)

// Package accrual.
var (
	_ func(min, max, window int) (*accrual.Detector, api.Errno) = accrual.New
	_ func(_ *accrual.Detector, now int)                        = (*accrual.Detector).Begin
	_ func(_ *accrual.Detector, now int)                        = (*accrual.Detector).Heard
	_ func(_ *accrual.Detector) int                             = (*accrual.Detector).Limit
	_ func(_ *accrual.Detector, now int) bool                   = (*accrual.Detector).Late
	_ func(_ *accrual.Detector) *accrual.Detector               = (*accrual.Detector).Copy
)

// Package watch.
var (
	_ func(min, max, window int) (*watch.Watch, api.Errno) = watch.New
	_ func(_ *watch.Watch, ids []api.ID, now int) []api.ID = (*watch.Watch).Look
	_ func(_ *watch.Watch, id api.ID, now int) bool        = (*watch.Watch).Heard
	_ func(_ *watch.Watch) []api.ID                        = (*watch.Watch).Watched
	_ func(_ *watch.Watch) *watch.Watch                    = (*watch.Watch).Copy
)

// Package walk.
var (
	_ func() *walk.Walk                                              = walk.New
	_ func(peers []api.ID, draw uint32) []api.ID                     = walk.Row
	_ func(_ *walk.Walk, peers []api.ID, draw uint32) (api.ID, bool) = (*walk.Walk).Next
	_ func(_ *walk.Walk) int                                         = (*walk.Walk).Left
	_ func(_ *walk.Walk) *walk.Walk                                  = (*walk.Walk).Copy
)

// Package talk.
var (
	_ func(v api.View) api.View                                             = talk.Part
	_ func(v api.View, me api.ID, f api.Frame) (api.View, uint8, api.Errno) = talk.Told
	_ func(v api.View, me api.ID, to api.ID, kind uint8) (api.Frame, bool)  = talk.Answer
)

// Package entry.
var (
	_ func(c api.Config, me api.ID) (*entry.Entry, api.Errno) = entry.New
	_ func(_ *entry.Entry) (asks []int, alone bool)           = (*entry.Entry).Tick
	_ func(_ *entry.Entry)                                    = (*entry.Entry).Answered
	_ func(_ *entry.Entry) int                                = (*entry.Entry).Ticks
	_ func(_ *entry.Entry) *entry.Entry                       = (*entry.Entry).Copy
)

// Package lead.
var (
	_ func(v api.View, me api.ID, weak bool, confirmed []api.ID) []api.Member     = lead.Wants
	_ func(v api.View, me api.ID, weak bool, confirmed []api.ID) (api.View, bool) = lead.Lead
)

// Package sides.
var (
	_ func(v api.View) []api.ID            = sides.Voters
	_ func(v api.View, me api.ID) []api.ID = sides.Part
	_ func(v api.View, me api.ID) []api.ID = sides.Others
	_ func(v api.View) []api.ID            = sides.Shared
)

// Package choice.
var (
	_ func(c api.Config, v api.View, me api.ID) uint8      = choice.Decide
	_ func(v api.View, me api.ID) bool                     = choice.Lesser
	_ func(v api.View, me api.ID, stays bool) []api.Member = choice.Falls
)

// Package stable.
var (
	_ func() *stable.Timer                            = stable.New
	_ func(_ *stable.Timer, v api.View, now int) bool = (*stable.Timer).Note
	_ func(_ *stable.Timer, now, stable int) bool     = (*stable.Timer).Ready
	_ func(_ *stable.Timer, now, unstable int) bool   = (*stable.Timer).Long
	_ func(_ *stable.Timer) *stable.Timer             = (*stable.Timer).Copy
)

// Package arbiter.
var (
	_ func(term int) (*arbiter.Arbiter, api.Errno)                       = arbiter.New
	_ func(_ *arbiter.Arbiter)                                           = (*arbiter.Arbiter).Tick
	_ func(_ *arbiter.Arbiter) api.Errno                                 = (*arbiter.Arbiter).Start
	_ func(_ *arbiter.Arbiter, f api.Frame) (api.Frame, bool, api.Errno) = (*arbiter.Arbiter).Take
	_ func(_ *arbiter.Arbiter) (api.ID, bool)                            = (*arbiter.Arbiter).Holder
	_ func(_ *arbiter.Arbiter) int                                       = (*arbiter.Arbiter).Token
	_ func(_ *arbiter.Arbiter) *arbiter.Arbiter                          = (*arbiter.Arbiter).Copy
)

// Package holder.
var (
	_ func(me api.ID, hold, retry int) (*holder.Holder, api.Errno) = holder.New
	_ func(_ *holder.Holder, now int) (api.Frame, bool)            = (*holder.Holder).Want
	_ func(_ *holder.Holder, f api.Frame, now int) bool            = (*holder.Holder).Take
	_ func(_ *holder.Holder, now int) bool                         = (*holder.Holder).Holds
	_ func(_ *holder.Holder) int                                   = (*holder.Holder).Token
	_ func(_ *holder.Holder) bool                                  = (*holder.Holder).Refused
	_ func(_ *holder.Holder) bool                                  = (*holder.Holder).Waits
	_ func(_ *holder.Holder, now int) (api.Frame, bool)            = (*holder.Holder).Drop
	_ func(_ *holder.Holder) *holder.Holder                        = (*holder.Holder).Copy
)

// Package config.
var (
	_ func(c api.Config) bool                              = config.May
	_ func(s string) (c api.Config, line int, e api.Errno) = config.Parse
	_ func(c api.Config) (string, api.Errno)               = config.Show
	_ func(a, b api.Config) bool                           = config.Same
)

// Package events.
var (
	_ func(max int) (*events.Queue, api.Errno)      = events.New
	_ func(_ *events.Queue, before, after api.View) = (*events.Queue).Note
	_ func(_ *events.Queue) (api.Event, bool)       = (*events.Queue).Poll
	_ func(_ *events.Queue) int                     = (*events.Queue).Len
	_ func(_ *events.Queue) []api.Event             = (*events.Queue).All
	_ func(_ *events.Queue) *events.Queue           = (*events.Queue).Copy
	_ func(before, after api.View) []api.Event      = events.Told
)

// Package node.
var (
	_ func(c api.Config, me api.ID) (*node.Node, api.Errno) = node.New
	_ func(_ *node.Node, draw uint32) api.Errno             = (*node.Node).Tick
	_ func(_ *node.Node, s string) api.Errno                = (*node.Node).Take
	_ func(_ *node.Node) api.Errno                          = (*node.Node).Leave
	_ func(_ *node.Node, id api.ID) api.Errno               = (*node.Node).Fell
	_ func(_ *node.Node) (api.View, api.Errno)              = (*node.Node).View
	_ func(_ *node.Node) (api.Event, api.Errno)             = (*node.Node).Poll
	_ func(_ *node.Node) []node.Sent                        = (*node.Node).Out
	_ func(_ *node.Node) api.ID                             = (*node.Node).ID
	_ func(_ *node.Node) int                                = (*node.Node).Now
	_ func(_ *node.Node) bool                               = (*node.Node).In
	_ func(_ *node.Node) bool                               = (*node.Node).Ended
	_ func(_ *node.Node) bool                               = (*node.Node).Holds
	_ func(_ *node.Node) api.View                           = (*node.Node).Before
	_ func(_ *node.Node) api.View                           = (*node.Node).Known
	_ func(_ *node.Node) []node.Change                      = (*node.Node).Changes
	_ func(_ *node.Node) *node.Node                         = (*node.Node).Copy
)

// Package net.
var (
	_ func(max int) (*net.Net, api.Errno)                     = net.New
	_ func(_ *net.Net, s string, to int) bool                 = (*net.Net).Send
	_ func(_ *net.Net) int                                    = (*net.Net).Len
	_ func(_ *net.Net, k int) (s string, to int, is bool)     = (*net.Net).At
	_ func(_ *net.Net, k int) (s string, to int, e api.Errno) = (*net.Net).Give
	_ func(_ *net.Net, k int) api.Errno                       = (*net.Net).Lose
	_ func(_ *net.Net, k int) api.Errno                       = (*net.Net).Twice
	_ func(_ *net.Net, k, at int, x uint32) api.Errno         = (*net.Net).Bend
	_ func(_ *net.Net) *net.Net                               = (*net.Net).Copy
)

// Package world.
var (
	_ func(c api.Config) (*world.World, api.Errno)                           = world.New
	_ func(_ *world.World, op api.Op, draw uint32) (world.Answer, api.Errno) = (*world.World).Do
	_ func(_ *world.World, addr int) *node.Node                              = (*world.World).Node
	_ func(_ *world.World) *net.Net                                          = (*world.World).Net
	_ func(_ *world.World) *arbiter.Arbiter                                  = (*world.World).Arbiter
	_ func(_ *world.World) int                                               = (*world.World).Starts
	_ func(_ *world.World) *world.World                                      = (*world.World).Copy
)

// Package audit.
var (
	_ func(me api.ID, before api.View, l []node.Change) bool   = audit.Fits
	_ func(a, b api.View) bool                                 = audit.Rises
	_ func(ids []api.ID, l []api.View) bool                    = audit.Settled
	_ func(c api.Config, n int) bool                           = audit.Enough
	_ func(c api.Config, n int) int                            = audit.Part
	_ func(c api.Config, n int) int                            = audit.Settle
	_ func(c api.Config, v api.View, of []int) int             = audit.Stays
	_ func(w *world.World, of []int, draws []uint32) api.Errno = audit.Round
)

// Package script.
var (
	_ func(t script.Turn) bool                                       = script.May
	_ func(s string) (l []script.Turn, line int, e api.Errno)        = script.Parse
	_ func(l []script.Turn) (string, api.Errno)                      = script.Show
	_ func(c api.Config, l []script.Turn) (script.Report, api.Errno) = script.Play
)
