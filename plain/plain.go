// Package plain tells of the plain registers, for the layers that lay a
// function's locals and stack in them: chapter 11.
package plain

import (
	"swage/api"
)

// Regs tells how many registers a function needs that has so many locals.
func Regs(locals int) int {
	return locals + api.MaxStack
}

// Stack tells the register of what stands j-th on the stack, the lowest one 0.
func Stack(locals int, j int) int {
	return locals + j
}

// Part is a call's plain part, of so many locals, and so many on its stack.
func Part(fn int, pc int, locals int, height int) api.Part {
	return api.Part{
		Fn:     fn,
		Pc:     pc,
		Locals: srcs(0, locals),
		Stack:  srcs(Stack(locals, 0), height),
	}
}

// srcs are so many registers from one on.
func srcs(from int, many int) []api.Src {
	list := make([]api.Src, many)
	for k := range list {
		list[k].V = from + k
	}
	return list
}
