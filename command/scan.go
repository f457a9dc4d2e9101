package command

import "frustum/api"

// noQuery is the ID of the active query if there is none.
const noQuery = -1

// scan is a place in a list of commands.
type scan struct {
	inPass, hasPipeline bool
	// active is the ID of the active query, and used marks those of all queries so far.
	active int
	used   [api.MaxSlots]bool
}

// next returns the first error of the next command, and goes behind it if there is none.
func (s *scan) next(c api.Command) api.Errno {
	code := Check(c)
	switch {
	case code != api.OK:
		return code
	case !s.isPlaced(c.Kind):
		return api.ErrState
	case c.Kind == api.Draw && !s.hasPipeline:
		return api.ErrCommand
	case !s.isQueryRight(c):
		return api.ErrQuery
	}
	s.follow(c)
	return api.OK
}

// isPlaced reports whether a kind can be at this place, inside or outside of a pass.
func (s *scan) isPlaced(k api.CommandKind) bool {
	switch k {
	case api.BeginPass, api.CopyToImage, api.Resolve, api.Barrier:
		return !s.inPass
	case api.EndPass, api.Draw, api.BeginQuery, api.EndQuery:
		return s.inPass
	}
	return true
}

// isQueryRight reports whether a command begins a new query, ends the active one, or ends a pass without one.
func (s *scan) isQueryRight(c api.Command) bool {
	switch c.Kind {
	case api.BeginQuery:
		return s.active == noQuery && !s.used[c.ID]
	case api.EndQuery:
		return s.active == c.ID
	case api.EndPass:
		return s.active == noQuery
	}
	return true
}

// follow goes behind a command that can be at this place.
func (s *scan) follow(c api.Command) {
	switch c.Kind {
	case api.BindPipeline:
		s.hasPipeline = true
	case api.BeginPass:
		s.inPass = true
	case api.EndPass:
		s.inPass = false
	case api.BeginQuery:
		s.active = c.ID
		s.used[c.ID] = true
	case api.EndQuery:
		s.active = noQuery
	}
}
