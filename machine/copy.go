package machine

import (
	"swage/api"
)

func copyOfState(s api.State) api.State {
	var frames []api.Frame
	for _, f := range s.Frames {
		f.Locals = copyOfList(f.Locals)
		f.Stack = copyOfList(f.Stack)
		frames = append(frames, f)
	}
	s.Frames = frames
	s.Out = copyOfList(s.Out)
	return s
}

func copyOfList(list []int) []int {
	return append([]int(nil), list...)
}
