package ir

import (
	"slices"

	"swage/api"
	"swage/fields"
)

// isMeta tells whether m is a call of the code's function, or one that waits
// for the other that stands on it.
func (c checker) isMeta(m api.Meta) bool {
	switch len(m.Parts) {
	case 1:
		return m.Parts[0].Fn == c.code.Fn && c.runs(m.Parts[0])
	case 2:
		return m.Parts[0].Fn == c.code.Fn && c.waitsFor(m.Parts[0], m.Parts[1].Fn) && c.runs(m.Parts[1])
	}
	return false
}

func (c checker) runs(p api.Part) bool {
	return c.Runs(p.Fn, p.Pc, len(p.Locals), len(p.Stack)) && c.hasSrcs(p)
}

func (c checker) waitsFor(p api.Part, callee int) bool {
	return c.Waits(p.Fn, p.Pc, len(p.Locals), len(p.Stack), callee) && c.hasSrcs(p)
}

func (c checker) hasSrcs(p api.Part) bool {
	return c.areSrcs(p.Locals) && c.areSrcs(p.Stack)
}

func (c checker) areSrcs(list []api.Src) bool {
	return !slices.ContainsFunc(list, func(s api.Src) bool { return !c.isSrc(s) })
}

func (c checker) isSrc(s api.Src) bool {
	if s.Const {
		return c.holds(fields.Number, s.V)
	}
	return c.holds(fields.Register, s.V)
}
