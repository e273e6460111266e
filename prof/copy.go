package prof

import (
	"slices"

	"swage/api"
)

// copyOf shares no list with r.
func copyOf(r api.Prof) api.Prof {
	funcs := slices.Clone(r.Funcs)
	for fn := range funcs {
		f := &funcs[fn]
		f.Jumps = slices.Clone(f.Jumps)
		f.Falls = slices.Clone(f.Falls)
		f.Args = slices.Clone(f.Args)
	}
	return api.Prof{Funcs: funcs}
}
