package tests

import (
	"slices"

	"loop.example/g00221/impl"
)

// copiedModule: one of its own.
func copiedModule(m impl.Module) impl.Module {
	m.Code = slices.Clone(m.Code)
	return m
}

// sameModule: are all numbers and instructions the same?
func sameModule(a impl.Module, b impl.Module) bool {
	return a.Basis == b.Basis && a.Slots == b.Slots && a.Spots == b.Spots && a.Params == b.Params && slices.Equal(a.Code, b.Code)
}

// standing is a place with a height.
type standing struct {
	at     int64
	height int64
}

// heightsIn: the heights of a module whose instructions are right; false, if something is wrong on the way. It finds all heights
// that each place would have, and looks at the end whether one has two, or one that can't be.
func heightsIn(m impl.Module) ([]int64, bool) {
	list := []standing{{}}
	known := map[standing]bool{{}: true}
	for n := 0; n < len(list); n++ {
		s := list[n]
		// A wrong module may have no end of heights: a few beyond the bounds tell enough.
		if s.at >= int64(len(m.Code)) || s.height < 0 || s.height > 62 {
			continue
		}
		i := m.Code[s.at]
		left := s.height - takenBy(i)
		if left < 0 {
			return nil, false
		}
		for _, to := range leavesTo(i, s.at) {
			behind := standing{at: to, height: left + putBy(i)}
			if !known[behind] {
				known[behind] = true
				list = append(list, behind)
			}
		}
	}
	heights := slices.Repeat([]int64{-1}, len(m.Code))
	for _, s := range list {
		if s.at >= int64(len(m.Code)) || s.height > 60 || heights[s.at] != -1 {
			return nil, false
		}
		heights[s.at] = s.height
	}
	return heights, true
}

// moduleHeights: of any module, by the document's words alone; false, if it is not right.
func moduleHeights(m impl.Module) ([]int64, bool) {
	if m.Basis < 1 || m.Basis > 3 || m.Slots < 1 || m.Slots > 6 || m.Spots < m.Slots || m.Spots > 10 || m.Params < 0 || m.Params > 8 {
		return nil, false
	}
	if len(m.Code) < 1 || len(m.Code) > 2000 {
		return nil, false
	}
	for _, i := range m.Code {
		if !holdsIns(m, i) {
			return nil, false
		}
	}
	return heightsIn(m)
}

// coder makes right modules, place by place, by a maker's numbers.
type coder struct {
	*maker
	m impl.Module
	// heights has those of the places, as they are found, -1 of one that is not reached (yet).
	heights []int64
	// pushing: how often, of ten times, something is pushed, if that can be.
	pushing int64
}

// operand: one that may stand there.
func (g *coder) operand(what string) int64 {
	switch what {
	case "number":
		return g.within(-impl.MaxMoney, impl.MaxMoney)
	case "local":
		return g.within(0, 49)
	case "param":
		return g.within(0, g.m.Params-1)
	case "slot":
		return g.within(0, g.m.Slots-1)
	case "function":
		return g.within(1, 7)
	case "place":
		return g.within(0, int64(len(g.m.Code))-1)
	case "spot":
		return g.within(0, g.m.Spots-1)
	case "reason":
		return g.within(1, 99)
	}
	return 0
}

// instruction: a right one, whatever it takes.
func (g *coder) instruction() impl.Ins {
	i := impl.Ins{Op: 1 + g.below(26)}
	if len(leavesTo(i, 0)) == 0 && g.below(4) != 0 {
		i.Op = opNamed("jz")
	}
	if g.below(10) < g.pushing {
		i.Op = 2 + g.below(9)
	}
	if i.Op == opNamed("param") && g.m.Params == 0 {
		i.Op = opNamed("today")
	}
	row := opRow(i.Op)
	i.A, i.B = g.operand(row[1]), g.operand(row[2])
	return i
}

// fits: may that stand at a place that is reached, with what is known of all others?
func (g *coder) fits(i impl.Ins, at int64) bool {
	left := g.heights[at] - takenBy(i) + putBy(i)
	if g.heights[at] < takenBy(i) || left > 60 {
		return false
	}
	for _, to := range leavesTo(i, at) {
		if to >= int64(len(g.heights)) || g.heights[to] != -1 && g.heights[to] != left || g.heights[to] == -1 && to < at {
			return false
		}
		if to == at && left != g.heights[at] {
			return false
		}
	}
	return true
}

// place: an instruction for it, with which the module can still be right.
func (g *coder) place(at int64) {
	if g.heights[at] == -1 {
		g.m.Code[at] = g.instruction()
		return
	}
	i := g.instruction()
	for tries := 0; !g.fits(i, at); tries++ {
		i = g.instruction()
		if tries == 30 {
			i = impl.Ins{Op: opNamed("end")}
		}
	}
	g.m.Code[at] = i
	for _, to := range leavesTo(i, at) {
		g.heights[to] = g.heights[at] - takenBy(i) + putBy(i)
	}
}

// module: a right one of so many places, with their heights.
func (g *coder) module(size int64) (impl.Module, []int64) {
	slots := g.within(1, 6)
	g.m = impl.Module{Basis: g.within(1, 3), Slots: slots, Spots: g.within(slots, 10), Params: g.within(0, 8), Code: make([]impl.Ins, size)}
	g.heights = slices.Repeat([]int64{-1}, int(size))
	g.heights[0] = 0
	g.pushing = g.below(11)
	for at := range size {
		g.place(at)
	}
	return g.m, g.heights
}

// altered: the module with one thing another one; it may still be right.
func (g *coder) altered(m impl.Module) impl.Module {
	g.m = copiedModule(m)
	at := g.below(int64(len(m.Code)))
	i := &g.m.Code[at]
	switch g.below(10) {
	case 0:
		i.A += g.within(-1, 1)
	case 1:
		i.B += g.within(-1, 1)
	case 2:
		i.Op = g.within(0, 27)
	case 3:
		g.m.Code = slices.Delete(g.m.Code, int(at), int(at+1))
	case 4:
		g.m.Code = slices.Insert(g.m.Code, int(at), g.instruction())
	case 5:
		field := []*int64{&g.m.Basis, &g.m.Slots, &g.m.Spots, &g.m.Params}[g.below(4)]
		*field += g.within(-1, 1)
	default:
		*i = g.instruction()
	}
	return g.m
}

// madeModules: so many right ones, of sizes from 1 on, with their heights.
func madeModules(count int) ([]impl.Module, [][]int64, *coder) {
	g := &coder{maker: &maker{nums: someNums(9973)}}
	var list []impl.Module
	var heights [][]int64
	for n := range count {
		m, h := g.module(1 + g.below(5+int64(n)%90))
		list, heights = append(list, m), append(heights, h)
	}
	return list, heights, g
}
