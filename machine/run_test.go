package machine_test

import (
	"fmt"
	"slices"
	"testing"

	"scarfjoint/api"
	"scarfjoint/code"
	"scarfjoint/machine"
)

// stepper is the chapter once more, without a throw: each step is worked out on a copy, which is taken over unless its instruction ended the run.
type stepper struct {
	regs  api.Regs
	words []int32
}

// run plays an image step by step, and gives the registers and how it stopped.
func run(t *testing.T, m api.Image, fuel int) (api.Regs, api.Stop) {
	t.Helper()
	s := stepper{words: make([]int32, m.Memory)}
	for k := range s.words {
		if k < len(m.Code) {
			s.words[k] = int32(m.Code[k])
		} else if k < len(m.Code)+len(m.Data) {
			s.words[k] = m.Data[k-len(m.Code)]
		}
	}
	s.regs.R[13] = int32(m.Memory)
	var stop api.Stop
	for stop.Steps < fuel && stop.End == api.EndFuel {
		stop.Steps++
		s.step(m, &stop)
	}
	return s.regs, stop
}

func (s *stepper) step(m api.Image, stop *api.Stop) {
	at := s.regs.PC
	if at < 0 || at >= len(m.Code) {
		stop.End = api.EndWrong
		return
	}
	i, ok := code.Decode(m.Code[at])
	if !ok {
		stop.End = api.EndWrong
		return
	}
	next := s.regs
	next.PC = at + 1
	stop.End = s.done(m, i, &next, stop)
	sp := int(next.R[13])
	switch {
	case stop.End != api.EndFuel:
	case sp < len(m.Code)+len(m.Data):
		stop.End, next.PC = api.EndFull, at
		s.regs = next
	case sp > m.Memory:
		stop.End, next.PC = api.EndWrong, at
		s.regs = next
	default:
		s.regs = next
	}
}

// done works out what the registers become, and says how the run ends by the instruction itself.
func (s *stepper) done(m api.Image, i api.Instr, next *api.Regs, stop *api.Stop) int {
	a, b, c := s.regs.R[i.A], s.regs.R[i.B], s.regs.R[i.C]
	where := int64(b) + int64(i.Imm)
	there := where >= 0 && where < int64(m.Memory)
	switch text, _ := code.Text(api.Instr{Op: i.Op}); text[:3] {
	case "jum", "zer", "cal":
		s.gone(i, next)
	case "loa":
		if !there {
			return api.EndWrong
		}
		next.R[i.A] = s.words[where]
	case "sto":
		if !there || where < int64(len(m.Code)) {
			return api.EndWrong
		}
		s.words[where] = a
	case "out":
		stop.Out = append(stop.Out, a)
	case "exi":
		stop.Value = a
		return api.EndExit
	case "div", "rem":
		if c == 0 {
			return api.EndDivided
		}
		fallthrough
	default:
		next.R[i.A] = computed(i, a, b, c)
	}
	return api.EndFuel
}

// gone is where a jump, a zero or a call goes.
func (s *stepper) gone(i api.Instr, next *api.Regs) {
	behind := next.PC
	switch i.Op {
	case api.ICallr, api.IJumpr:
		next.PC = int(s.regs.R[i.A])
	case api.IZero:
		if s.regs.R[i.A] == 0 {
			next.PC = i.Imm
		}
	default:
		next.PC = i.Imm
	}
	if i.Op == api.ICall || i.Op == api.ICallr {
		next.R[14] = int32(behind)
	}
}

// computed is the word that an instruction makes of words alone; a long has room for all on the way.
func computed(i api.Instr, a, b, c int32) int32 {
	yes := func(is bool) int32 {
		if is {
			return 1
		}
		return 0
	}
	switch i.Op {
	case 1:
		return b
	case 2:
		return int32(i.Imm)
	case 3:
		return int32(i.Imm*65536 + int(uint16(a)))
	case 4:
		return int32(int64(b) + int64(c))
	case 5:
		return int32(int64(b) - int64(c))
	case 6:
		return int32(int64(b) * int64(c))
	case 7:
		return int32(uint64(uint32(b)) * uint64(uint32(c)) >> 32)
	case 8:
		return int32(int64(b) / int64(c))
	case 9:
		return int32(int64(b) % int64(c))
	case 10:
		return b & c
	case 11:
		return b | c
	case 12:
		return b ^ c
	case 13:
		return yes(b < c)
	case 14:
		return yes(uint32(b) < uint32(c))
	case 15:
		return yes(b == c)
	}
	return int32(int64(b) + int64(i.Imm))
}

// drawer gives numbers without a pattern, the same ones each time.
type drawer uint64

func (d *drawer) below(n int) int {
	*d ^= *d << 13
	*d ^= *d >> 7
	*d ^= *d << 17
	return int(uint64(*d>>11) % uint64(n))
}

// instruction draws one that is likely to go on for a while.
func (d *drawer) instruction(size, words int) uint32 {
	if d.below(60) == 0 {
		return uint32(d.below(1 << 32))
	}
	i := api.Instr{Op: 1 + d.below(25), A: d.below(16), B: d.below(16), C: d.below(16), Imm: d.below(words) - words/3}
	switch i.Op {
	case api.IExit:
		i.Op = 1 + d.below(25)
	case api.IJump, api.IZero, api.ICall:
		i.Imm = d.below(size)
	case api.IMovh:
		i.Imm = d.below(3) * 32767
	case api.IAddi:
		i.Imm = d.below(9) - 6
	}
	if d.below(3) > 0 && i.A == 13 {
		i.A = d.below(12)
	}
	for _, cut := range []func(){func() {}, func() { i.C = 0 }, func() { i.Imm = 0 }, func() { i.C, i.B = 0, 0 }, func() { i.C, i.Imm = 0, 0 }, func() { i.A, i.B, i.C = 0, 0, 0 }, func() { i.B, i.C, i.Imm = 0, 0, 0 }} {
		keep := i
		cut()
		if w, e := code.Encode(i); e == api.OK {
			return w
		}
		i = keep
	}
	return 0
}

// C3 and C4: drawn images, at each fuel up to their end, against the chapter once more.
func TestDrawnImages(t *testing.T) {
	d := drawer(88172645463325252)
	ends := [5]int{}
	for range 4000 {
		size := 1 + d.below(24)
		m := api.Image{Memory: 64 + d.below(40)}
		for range size {
			m.Code = append(m.Code, d.instruction(size, m.Memory))
		}
		for range d.below(20) {
			m.Data = append(m.Data, int32(d.below(m.Memory)-d.below(9)))
		}
		_, all := run(t, m, 60)
		ends[all.End]++
		for fuel := range all.Steps + 3 {
			shown, stop := run(t, m, fuel)
			checkRun(t, fmt.Sprintf("%x, fuel %d", m.Code, fuel), m, fuel, stop, shown)
		}
		if t.Failed() {
			return
		}
	}
	for end, count := range ends {
		if count < 20 {
			t.Errorf("too few runs (%d) end by %d", count, end)
		}
	}
}

// C4: the chapter's example, at each fuel: the last step ends, though no fuel is left then.
func TestExampleAtEachFuel(t *testing.T) {
	m := api.Image{Code: assembled(t, "movi r0 7; out r0; exit r0"), Memory: memory}
	told := []int32{7}
	checkRun(t, "fuel 0", m, 0, api.Stop{}, regs{}.whole(0))
	checkRun(t, "fuel 1", m, 1, api.Stop{Steps: 1}, regs{0: 7}.whole(1))
	checkRun(t, "fuel 2", m, 2, api.Stop{Out: told, Steps: 2}, regs{0: 7}.whole(2))
	for _, fuel := range []int{3, 4, api.MaxFuel} {
		checkRun(t, "exit", m, fuel, api.Stop{End: api.EndExit, Value: 7, Out: told, Steps: 3}, regs{0: 7}.whole(2))
	}
}

// C4: all that was told, in its order, with nothing left out and nothing kept from another run.
func TestAllThatIsTold(t *testing.T) {
	m := api.Image{Code: assembled(t, "out r1; addi r1 r1 -1; jump 0"), Memory: memory}
	first, _ := machine.Run(m, api.MaxFuel)
	if first.End != api.EndFuel || first.Steps != api.MaxFuel || len(first.Out) != api.MaxFuel/3 {
		t.Fatalf("%d %d %d", first.End, first.Steps, len(first.Out))
	}
	for k, w := range first.Out {
		if w != int32(-k) {
			t.Fatalf("word %d: %d", k, w)
		}
	}
	second, _ := machine.Run(m, 30)
	first.Out[0] = 99
	if want := []int32{0, -1, -2, -3, -4, -5, -6, -7, -8, -9}; !slices.Equal(second.Out, want) {
		t.Error(second.Out)
	}
}

// C2: the greatest image, which goes on to its last instruction.
func TestGreatestImage(t *testing.T) {
	l := slices.Repeat(assembled(t, "addi r1 r1 1"), api.MaxCode)
	l[api.MaxCode-1] = assembled(t, "exit r1")[0]
	m := api.Image{Code: l, Data: make([]int32, api.MaxMemory-api.MaxCode-16), Memory: api.MaxMemory}
	stop := api.Stop{End: api.EndExit, Value: api.MaxCode - 1, Steps: api.MaxCode}
	checkRun(t, "all", m, api.MaxFuel, stop, regs{1: api.MaxCode - 1, 13: api.MaxMemory}.whole(api.MaxCode-1))
}

// P3: lists that are handed in stay as they are, and what lies behind their length is neither read nor written.
func TestListsThatAreHandedIn(t *testing.T) {
	l := assembled(t, "store r13 r0 4; store r13 r0 5; load r1 r0 6; out r1; exit r0; exit r0")
	data := []int32{1, 2, 3, 4}
	kept, keptData := slices.Clone(l), slices.Clone(data)
	// Behind Code of four instructions stand two more, behind Data of two words two more.
	m := api.Image{Code: l[:4], Data: data[:2], Memory: memory}
	stop := api.Stop{End: api.EndWrong, Out: []int32{0}, Steps: 5}
	checkRun(t, "cut lists", m, 9, stop, regs{}.whole(4))
	if !slices.Equal(l, kept) || !slices.Equal(data, keptData) {
		t.Error(l, data)
	}
	checkRun(t, "once more", m, 9, stop, regs{}.whole(4))
}

// P3: nothing that an image is changed to later is seen in what was told.
func TestNothingIsKept(t *testing.T) {
	m := api.Image{Code: assembled(t, "load r1 r0 3; out r1; exit r1"), Data: []int32{5}, Memory: memory}
	s, _ := machine.Run(m, 9)
	m.Data[0], m.Code[1] = 6, 0
	if want := (api.Stop{End: api.EndExit, Value: 5, Out: []int32{5}, Steps: 3}); !sameStop(s, want) {
		t.Errorf("%+v", s)
	}
	checkRun(t, "changed", m, 9, api.Stop{End: api.EndWrong, Steps: 2}, regs{1: 6}.whole(1))
}
