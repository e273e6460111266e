package tests

import (
	"math/rand/v2"
	"testing"

	"swage/api"
	"swage/verify"
)

// chance makes programs by a row of numbers that is the same each time.
type chance struct {
	*rand.Rand
	p api.Program
	// f is the function that is being written; height is how many stand on its stack.
	f      api.Func
	height int
}

func newChance(seed uint64) *chance {
	return &chance{Rand: rand.New(rand.NewPCG(seed, 1))}
}

// program makes a verified program of some functions.
func (c *chance) program() api.Program {
	for {
		c.p = api.Program{}
		for range 1 + c.IntN(5) {
			args := c.IntN(5)
			c.p.Funcs = append(c.p.Funcs, api.Func{Args: args, Locals: args + c.IntN(5-args/2)})
		}
		for fn := range c.p.Funcs {
			c.f, c.height = c.p.Funcs[fn], 0
			c.statements(1+c.IntN(3), 2)
			c.value(2)
			c.put(api.InsRet, 0, 0)
			c.p.Funcs[fn] = c.f
		}
		if verify.Program(c.p) == api.OK {
			return c.p
		}
	}
}

// put tells the pc of what it puts, and keeps the height.
func (c *chance) put(kind, a, higher int) int {
	c.f.Code = append(c.f.Code, api.Ins{Kind: kind, A: a})
	c.height += higher
	return len(c.f.Code) - 1
}

func (c *chance) number() int {
	few := [...]int{0, 0, 1, 1, 2, 3, -1, 7, least, greatest}
	return few[c.IntN(len(few))]
}

// value puts what leaves one more on the stack.
func (c *chance) value(deep int) {
	if deep <= 0 {
		if c.f.Locals > 0 && c.IntN(2) == 0 {
			c.put(api.InsLoad, c.IntN(c.f.Locals), 1)
		} else {
			c.put(api.InsConst, c.number(), 1)
		}
		return
	}
	switch c.IntN(8) {
	case 0:
		fn := c.IntN(len(c.p.Funcs))
		for range c.p.Funcs[fn].Args {
			c.value(deep - 2)
		}
		c.put(api.InsCall, fn, 1-c.p.Funcs[fn].Args)
	case 1:
		c.value(deep - 1)
		c.put(api.InsDup, 0, 1)
		c.operation()
	case 2:
		c.either(deep)
	case 3, 4:
		c.value(deep - 1)
	default:
		c.value(deep - 1)
		c.value(deep - 1)
		c.operation()
	}
}

func (c *chance) operation() {
	c.put(api.InsAdd+c.IntN(api.InsLt-api.InsAdd+1), 0, -1)
}

// either puts one of two values, with what is not reached between them at times.
func (c *chance) either(deep int) {
	c.value(deep - 1)
	zero := c.put(api.InsZero, 0, -1)
	c.value(deep - 1)
	jump := c.put(api.InsJump, 0, -1)
	c.garbage()
	c.f.Code[zero].A = len(c.f.Code)
	c.value(deep - 1)
	c.f.Code[jump].A = len(c.f.Code)
}

// garbage is not reached, wherever it leads.
func (c *chance) garbage() {
	for range c.IntN(3) {
		kind, a := c.IntN(api.InsRet+1), 0
		if kind <= api.InsStore || kind == api.InsJump || kind == api.InsZero || kind == api.InsCall {
			a = c.IntN(8)
		}
		c.put(kind, a, 0)
	}
}

// statements put what leaves the stack as it is.
func (c *chance) statements(many, deep int) {
	for range many {
		switch c.IntN(8) {
		case 0, 1:
			if c.f.Locals > 0 {
				c.value(2)
				c.put(api.InsStore, c.IntN(c.f.Locals), -1)
			}
		case 2:
			c.value(2)
			c.put(api.InsPrint, 0, -1)
		case 3:
			c.value(1)
			c.put(api.InsDrop, 0, -1)
		case 4:
			c.choice(deep)
		case 5:
			c.loop(deep)
		case 6:
			c.repeat(deep)
		default:
			c.onStack(deep)
		}
	}
}

func (c *chance) choice(deep int) {
	if deep > 0 {
		c.value(1)
		zero := c.put(api.InsZero, 0, -1)
		c.statements(1, deep-1)
		c.f.Code[zero].A = len(c.f.Code)
	}
}

// loop goes back by a jump.
func (c *chance) loop(deep int) {
	if deep > 0 {
		from := len(c.f.Code)
		c.value(1)
		zero := c.put(api.InsZero, 0, -1)
		c.statements(1, deep-1)
		c.put(api.InsJump, from, 0)
		c.garbage()
		c.f.Code[zero].A = len(c.f.Code)
	}
}

// repeat goes back by an InsZero.
func (c *chance) repeat(deep int) {
	if deep > 0 {
		from := len(c.f.Code)
		c.statements(1, deep-1)
		c.value(1)
		c.put(api.InsZero, from, -1)
	}
}

// onStack does what it does over a value that stands below it.
func (c *chance) onStack(deep int) {
	if deep > 0 {
		c.value(0)
		c.statements(1+c.IntN(2), deep-1)
		if c.f.Locals > 0 {
			c.put(api.InsStore, c.IntN(c.f.Locals), -1)
		} else {
			c.put(api.InsPrint, 0, -1)
		}
	}
}

// TestChance holds that programs by chance have all that is asked for.
func TestChance(t *testing.T) {
	c := newChance(1)
	var kinds [api.InsRet + 1]int
	unreachedPcs, highBack, args := 0, 0, 0
	for range 300 {
		p := c.program()
		for fn, f := range p.Funcs {
			heights, _, _ := verify.Heights(p, fn)
			for pc, i := range f.Code {
				kinds[i.Kind]++
				if heights[pc] == unreached {
					unreachedPcs++
				} else if i.Kind == api.InsJump && i.A <= pc && heights[pc] > 0 {
					highBack++
				} else if i.Kind == api.InsCall {
					args |= 1 << p.Funcs[i.A].Args
				}
			}
		}
	}
	for kind, many := range kinds {
		if many < 30 {
			t.Errorf("%d of kind %d", many, kind)
		}
	}
	if unreachedPcs < 100 || highBack < 10 || args != 1<<5-1 {
		t.Errorf("%d not reached, %d back with a stack, args %b", unreachedPcs, highBack, args)
	}
}
