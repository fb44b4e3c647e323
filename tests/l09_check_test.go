package tests

import (
	"slices"
	"strconv"
	"strings"
	"testing"

	"loop.example/g00175/impl"
)

// passing: the same classes, with code in each method that has some that passes.
func passing(list []impl.Class) []impl.Class {
	for class := range list {
		for at := range list[class].Methods {
			m := &list[class].Methods[at]
			if m.Abstract {
				continue
			}
			m.Stack = 1
			switch result := impl.DescRead(m.Desc).Desc.Result; {
			case m.Name == "<init>":
				m.Code = []impl.Ins{{Op: 3}, {Op: 38, Class: list[class].Super, Name: "<init>", Desc: "()V"}, {Op: 26}}
			case result == "V":
				m.Code = []impl.Ins{{Op: 26}}
			case result == "I":
				m.Code = []impl.Ins{{Op: 1}, {Op: 27}}
			default:
				m.Code = []impl.Ins{{Op: 2}, {Op: 28}}
			}
		}
	}
	return list
}

// checkWorld: the world of the steps with that method behind those of M, all others of which pass.
func checkWorld(m impl.Method) []impl.Class {
	list := passing(worldOf(flowTold))
	list[inM].Methods = append(list[inM].Methods, m)
	return list
}

// checkCase: a method told by what it is and its Desc, its Stack and Locals, its handlers, and its code line by line: each
// instruction, and behind a slash the frame that the check finds ahead of it, or - where it finds none.
type checkCase struct {
	what     string
	method   string
	stack    int64
	locals   int64
	handlers string
	code     []string
}

func (c checkCase) world(t *testing.T) []impl.Class {
	t.Helper()
	var code []impl.Ins
	for _, line := range c.code {
		ins, _, _ := strings.Cut(line, "/")
		code = append(code, insOf(t, ins))
	}
	m := methodOf(c.method, c.stack, c.locals, code...)
	if c.handlers != "" {
		m.Handlers = handlersOf(t, c.handlers)
	}
	list := checkWorld(m)
	same(t, list, c.what+": the world", impl.WorldCheck(list), impl.WorldOut{})
	return list
}

func (c checkCase) typing() (seen []bool, frames []impl.Frame) {
	for _, line := range c.code {
		_, frame, _ := strings.Cut(line, "/")
		isSeen := strings.TrimSpace(frame) != "-"
		seen = append(seen, isSeen)
		if isSeen {
			frames = append(frames, frameOf(frame))
		} else {
			frames = append(frames, impl.Frame{})
		}
	}
	return seen, frames
}

// linesOf: the lines by which a typing of some code is told.
func linesOf(code []impl.Ins, seen []bool, frames []impl.Frame) string {
	var lines string
	for at, i := range code {
		shown := "-"
		if seen[at] {
			shown = impl.FrameShown(frames[at])
		}
		lines += strconv.Itoa(at) + " " + impl.OpName(i.Op) + " " + shown + "\n"
	}
	return lines
}

// checkPasses: a method that passes, with all that can be asked of it.
func checkPasses(t *testing.T, c checkCase) {
	t.Helper()
	list := c.world(t)
	seen, frames := c.typing()
	before := shown(list)
	for range 2 {
		same(t, list, c.what, impl.Check(list, inM, behind), impl.CheckOut{Seen: seen, Frames: frames})
		same(t, list, c.what+": right", impl.TypingRight(list, inM, behind, seen, frames), true)
		same(t, list, c.what+": its lines", impl.CheckText(list, inM, behind), linesOf(list[inM].Methods[behind].Code, seen, frames))
		same(t, list, c.what+": all", impl.CheckAll(list), impl.AllOut{})
	}
	same(t, nil, c.what+": the list", shown(list), before)
	same(t, list, c.what+": the model", model(list).checkMethod(inM, behind), impl.CheckOut{Seen: seen, Frames: frames})
}

// checkFails: a method that does not pass, by that code at that place.
func checkFails(t *testing.T, c checkCase, at int64, code int64) {
	t.Helper()
	list := c.world(t)
	before := shown(list)
	for range 2 {
		same(t, list, c.what, impl.Check(list, inM, behind), impl.CheckOut{At: at, Code: code})
		same(t, list, c.what+": its lines", impl.CheckText(list, inM, behind), "")
		same(t, list, c.what+": all", impl.CheckAll(list), impl.AllOut{Class: inM, Method: behind, At: at, Code: code})
	}
	same(t, nil, c.what+": the list", shown(list), before)
	same(t, list, c.what+": the model", model(list).checkMethod(inM, behind), impl.CheckOut{At: at, Code: code})
}

// steps: a method's code one instruction behind the other, as the document says what its check does.
func (m model) steps(class, method int) []modelStep {
	c := m[class]
	var steps []modelStep
	for at, i := range c.Methods[method].Code {
		steps = append(steps, modelStep{m, c, c.Methods[method], int64(at), i, impl.OpName(i.Op)})
	}
	return steps
}

func (m model) checkMethod(class, method int) impl.CheckOut {
	steps := m.steps(class, method)
	out := impl.CheckOut{Seen: make([]bool, len(steps)), Frames: make([]impl.Frame, len(steps))}
	out.Seen[0], out.Frames[0] = true, m.frameStart(class, method).Frame
	for waits := []int64{0}; len(waits) > 0; {
		at := slices.Min(waits)
		waits = slices.DeleteFunc(waits, func(one int64) bool { return one == at })
		flow := steps[at].flow(out.Frames[at])
		if flow.Code != impl.OK {
			return impl.CheckOut{At: at, Code: flow.Code}
		}
		for way, next := range flow.Next {
			told := impl.FrameOut{Frame: flow.Frames[way]}
			if out.Seen[next] {
				told = m.frameLub(out.Frames[next], flow.Frames[way])
			}
			if told.Code != impl.OK {
				return impl.CheckOut{At: at, Code: told.Code}
			}
			if !out.Seen[next] || shown(told.Frame) != shown(out.Frames[next]) {
				out.Seen[next], out.Frames[next] = true, told.Frame
				waits = append(waits, next)
			}
		}
	}
	return out
}

func (m model) typingRight(class, method int, seen []bool, frames []impl.Frame) bool {
	steps := m.steps(class, method)
	if len(seen) != len(steps) || len(frames) != len(steps) || !seen[0] || !m.frameBelow(m.frameStart(class, method).Frame, frames[0]) {
		return false
	}
	for at, s := range steps {
		if !seen[at] {
			if len(frames[at].Stack)+len(frames[at].Locals) > 0 {
				return false
			}
			continue
		}
		flow := s.flow(frames[at])
		for way, next := range flow.Next {
			if !seen[next] || !m.frameBelow(flow.Frames[way], frames[next]) {
				return false
			}
		}
		if flow.Code != impl.OK {
			return false
		}
	}
	return true
}

func TestChecksOfOneInstruction(t *testing.T) {
	for _, c := range []checkCase{
		{"return", "static ()V", 0, 0, "", []string{"return / |"}},
		{"return with room", "static (I[LM;)V", 16, 16, "", []string{"return / | int, refs M" + strings.Repeat(", top", 14)}},
		{"return of an object's", "plain ([I)V", 0, 3, "", []string{"return / | ref M, ints, top"}},
		{"a jump to itself", "static ()V", 0, 0, "", []string{"goto 0 / |"}},
		{"a jump to itself with locals", "plain (I)LM;", 3, 2, "", []string{"goto 0 / | ref M, int"}},
		{"a constructor without end", "init (I)V", 0, 2, "", []string{"goto 0 / | this, int"}},
	} {
		checkPasses(t, c)
	}
	for _, c := range []struct {
		method, ins string
		stack       int64
		handlers    string
		code        int64
	}{
		{"static ()V", "const 1", 1, "", impl.ErrFlow},
		{"static ()V", "const 1", 0, "", impl.ErrStack},
		{"static ()V", "pop", 1, "", impl.ErrStack},
		{"static ()V", "throw", 1, "", impl.ErrStack},
		{"static ()I", "return", 1, "", impl.ErrFlow},
		{"static ()V", "load 0", 1, "", impl.ErrType},
		{"static ()V", "load 2", 1, "", impl.ErrType},
		{"static ()V", "new Zed", 1, "", impl.ErrName},
		{"static ()V", "new S", 1, "", impl.ErrAccess},
		{"static ()V", "getstatic S b I", 1, "", impl.ErrNone},
		{"init ()V", "return", 0, "", impl.ErrType},
		{"static ()V", "return", 1, "0 1 0 Zed", impl.ErrName},
		{"static ()V", "return", 1, "0 1 0 M", impl.ErrType},
		{"static ()V", "return", 0, "0 1 0 Error", impl.ErrStack},
		// The handler is the instruction itself: there a stack of one meets an empty one.
		{"static ()V", "return", 1, "0 1 0 Error", impl.ErrStack},
	} {
		checkFails(t, checkCase{c.ins, c.method, c.stack, 1, c.handlers, []string{c.ins}}, 0, c.code)
	}
}

func TestChecksOfInstructionsOneBehindTheOther(t *testing.T) {
	for _, c := range []checkCase{
		{"reckoning", "static (I)I", 2, 1, "", []string{"load 0 / | int", "const 5 / int | int", "add / int, int | int", "ireturn / int | int"}},
		{"a constructor", "init (I[I)V", 4, 4, "", []string{
			"load 0 / | this, int, ints, top", "store 3 / this | this, int, ints, top", "load 3 / | this, int, ints, this",
			"load 1 / this | this, int, ints, this", "load 2 / this, int | this, int, ints, this",
			"callspecial S <init> (I[I)V / this, int, ints | this, int, ints, this",
			"load 3 / | ref M, int, ints, ref M", "load 2 / ref M | ref M, int, ints, ref M",
			"putfield M a [I / ref M, ints | ref M, int, ints, ref M", "return / | ref M, int, ints, ref M"}},
		{"a constructor by another one", "init ()V", 2, 1, "", []string{
			"load 0 / | this", "null / this | this", "callspecial M <init> (LM;)V / this, null | this", "return / | ref M"}},
		{"a new one", "static ()I", 2, 1, "", []string{
			"new O / | top", "dup / new O 0 | top", "store 0 / new O 0, new O 0 | top", "callspecial O <init> ()V / new O 0 | new O 0",
			"load 0 / | ref O", "const 1 / ref O | ref O", "call O up (I)I / ref O, int | ref O", "ireturn / int | ref O"}},
		{"a list", "static ()I", 2, 1, "", []string{
			"const 3 / | top", "newlist LM; / int | top", "dup / refs M | top", "store 0 / refs M, refs M | top", "load 0 / refs M | refs M", "pop / refs M, refs M | refs M",
			"const 0 / refs M | refs M", "get / refs M, int | refs M", "pop / ref M | refs M", "load 0 / | refs M", "size / refs M | refs M", "ireturn / int | refs M"}},
		{"up to the end by a throw", "plain ()LM;", 1, 1, "", []string{"null / | ref M", "throw / null | ref M"}},
	} {
		checkPasses(t, c)
	}
}

// What no way leads to is not looked at, whatever stands there.
func TestChecksOfInstructionsThatAreNotReached(t *testing.T) {
	for _, c := range []checkCase{
		{"behind return", "static ()V", 0, 0, "", []string{"return / |", "new Zed / -"}},
		{"behind ireturn", "static ()I", 1, 1, "", []string{"const 1 / | top", "ireturn / int | top", "load 0 / -", "areturn / -", "const 3 / -"}},
		{"behind areturn", "static ()LM;", 1, 1, "", []string{"null / | top", "areturn / null | top", "store 1 / -"}},
		{"behind throw", "static ()V", 1, 0, "", []string{"null / |", "throw / null |", "load 0 / -"}},
		{"behind a jump backwards", "static ()V", 1, 0, "", []string{"goto 1 / |", "goto 0 / |", "return / -", "add / -"}},
		{"ahead of others", "static ()V", 1, 0, "", []string{"goto 3 / |", "pop / -", "new Zed / -", "return / |"}},
		{"between", "static (I)V", 1, 1, "", []string{"load 0 / | int", "ifeq 4 / int | int", "goto 6 / | int", "pop / -", "goto 6 / | int", "throw / -", "return / | int", "swap / -"}},
		{"a round of its own", "static ()V", 1, 0, "", []string{"return / |", "const 1 / -", "goto 1 / -"}},
		{"one that leads to what is reached", "static ()V", 2, 0, "", []string{"goto 2 / |", "const 1 / -", "return / |", "goto 0 / -", "const 5 / -"}},
		{"handlers over none that is reached", "static ()V", 0, 0, "1 3 3 Zed, 2 4 0 O, 1 4 1 Error", []string{"return / |", "pop / -", "pop / -", "pop / -"}},
		{"a handler over what is not reached", "static ()V", 1, 0, "1 2 2 Error", []string{"return / |", "return / -", "pop / -", "return / -"}},
		{"a handler to which what it is over leads alone", "static ()V", 1, 0, "0 1 2 E", []string{"return / |", "pop / -", "pop / ref E |", "return / |"}},
	} {
		checkPasses(t, c)
	}
}

func TestChecksOfLoops(t *testing.T) {
	for _, c := range []checkCase{
		{"joined twice", "static (LN;LM;LS;)V", 1, 3, "", []string{
			"load 0 / | ref S, ref S, ref S", "ifnull 7 / ref S | ref S, ref S, ref S", "load 1 / | ref S, ref S, ref S", "store 0 / ref S | ref S, ref S, ref S",
			"load 2 / | ref S, ref S, ref S", "store 1 / ref S | ref S, ref S, ref S", "goto 0 / | ref S, ref S, ref S", "return / | ref S, ref S, ref S"}},
		{"joined to top", "static ()V", 1, 1, "", []string{
			"const 1 / | top", "store 0 / int | top", "const 1 / | top", "ifeq 7 / int | top", "null / | top", "store 0 / null | top", "goto 2 / | null", "return / | top"}},
		{"joined to top on the stack", "static (I)V", 2, 1, "", []string{
			"const 1 / | int", "load 0 / top | int", "ifeq 6 / top, int | int", "pop / top | int", "null / | int", "goto 1 / null | int", "pop / top | int", "return / | int"}},
		{"joined by what is below and what is above", "static (LM;)V", 1, 2, "", []string{
			"null / | ref M, top", "store 1 / ref M | ref M, top", "load 1 / | ref M, ref M", "ifnull 6 / ref M | ref M, ref M", "null / | ref M, ref M", "goto 1 / null | ref M, ref M",
			"load 0 / | ref M, ref M", "goto 1 / ref M | ref M, ref M"}},
		{"a jump to itself", "static (I)V", 1, 1, "", []string{"load 0 / | int", "store 0 / int | int", "goto 2 / | int", "return / -"}},
		{"a jump to the next one", "static (I)V", 1, 1, "", []string{"load 0 / | int", "ifeq 2 / int | int", "goto 3 / | int", "return / | int"}},
		{"a new one each time", "static ()V", 1, 1, "", []string{"new O / | top", "store 0 / new O 0 | top", "goto 0 / | new O 0"}},
		{"one that is built each time", "static ()V", 2, 1, "", []string{
			"new O / | top", "dup / new O 0 | top", "callspecial O <init> ()V / new O 0, new O 0 | top", "store 0 / ref O | top", "goto 0 / | ref O"}},
		{"counted down", "static (I)I", 2, 2, "", []string{
			"const 0 / | int, top", "store 1 / int | int, top", "load 0 / | int, int", "ifeq 13 / int | int, int", "load 1 / | int, int", "load 0 / int | int, int",
			"add / int, int | int, int", "store 1 / int | int, int", "load 0 / | int, int", "const -1 / int | int, int", "add / int, int | int, int",
			"store 0 / int | int, int", "goto 2 / | int, int", "load 1 / | int, int", "ireturn / int | int, int"}},
	} {
		checkPasses(t, c)
	}
	// What is loaded each time is none any more when it is joined to top.
	loop := []string{"const 1", "store 0", "load 0", "ifeq 7", "null", "store 0", "goto 2", "return"}
	checkFails(t, checkCase{"loaded from top", "static ()V", 1, 1, "", loop}, 2, impl.ErrType)
	loop[5] = "pop"
	checkPasses(t, checkCase{"loaded from an int", "static ()V", 1, 1, "", []string{
		"const 1 / | top", "store 0 / int | top", "load 0 / | int", "ifeq 7 / int | int", "null / | int", "pop / null | int", "goto 2 / | int", "return / | int"}})
}

// Two ways to one place, with a Param each or null: there stands the least one above both.
func TestChecksOfTwoWaysThatMeet(t *testing.T) {
	for _, told := range []string{
		"LN; LO; ref Object", "LN; LS; ref S", "LM; LN; ref M", "LE; LMathError; ref Error", "LE; LN; ref Object", "LN; LN; ref N",
		"null LN; ref N", "LN; null ref N", "null null null", "null [I ints", "[LM; null refs M", "[I [LN; ref Object", "[LN; [LO; refs Object", "[LN; [LM; refs M",
		"LO; [LO; ref Object", "LObject; LO; ref Object", "I I int", "I null top", "LN; I top", "[I I top",
	} {
		words := strings.SplitN(told, " ", 3)
		put := []string{"load 1", "load 2"}
		for way, word := range words[:2] {
			if word == "null" {
				words[way], put[way] = "LError;", "null"
			}
		}
		met := typeOf(words[2])
		m := methodOf("static (I"+words[0]+words[1]+")V", 2, 4, plainCode(t, "load 0", "ifeq 5", put[0], "dup", "goto 7", put[1], "dup", "store 3", "pop", "return")...)
		list := checkWorld(m)
		out := impl.Check(list, inM, behind)
		same(t, list, told, out, model(list).checkMethod(inM, behind))
		if out.Code != impl.OK {
			t.Fatalf("%s: code %d", told, out.Code)
		}
		same(t, list, told, out.Frames[7].Stack, []impl.Type{met, met})
		same(t, list, told, out.Frames[8].Stack, []impl.Type{met})
		same(t, list, told, out.Frames[8].Locals[3], met)
		same(t, list, told, out.Frames[9].Locals[3], met)
		same(t, list, told, impl.TypingRight(list, inM, behind, out.Seen, out.Frames), true)
	}
}

// Stacks of different lengths have no frame above: the code stands with the instruction that leads there second.
func TestChecksOfStacksOfDifferentLengths(t *testing.T) {
	for _, c := range []struct {
		told string
		at   int64
	}{
		{"const 1, goto 0", 1},
		{"const 1, ifeq 3, const 1, return", 2},
		{"const 1, ifeq 3, const 1, new Zed", 2},
		{"const 1, ifeq 1, return", 1},
		{"const 1, ifeq 4, const 1, goto 4, return", 3},
		{"const 1, ifeq 3, goto 0, const 1, goto 2", 4},
		{"const 1, const 1, ifeq 4, goto 4, pop, goto 1, return", 5},
		{"goto 3, return, pop, const 1, ifeq 1, const 2, goto 1", 6},
	} {
		checkFails(t, checkCase{c.told, "static ()V", 2, 0, "", strings.Split(c.told, ", ")}, c.at, impl.ErrStack)
	}
	// A handler begins with one on the stack, the way that leads there otherwise may have none.
	checkFails(t, checkCase{"into a handler", "static ()V", 1, 0, "0 1 1 E", []string{"goto 1", "return"}}, 0, impl.ErrStack)
	checkFails(t, checkCase{"into a handler later", "static ()V", 1, 0, "0 1 3 E", []string{"goto 1", "goto 2", "goto 3", "return"}}, 2, impl.ErrStack)
	checkFails(t, checkCase{"a handler later", "static ()V", 1, 0, "2 3 1 E", []string{"goto 1", "goto 2", "goto 3", "return"}}, 2, impl.ErrStack)
	checkPasses(t, checkCase{"into a handler with one", "static ()V", 1, 0, "1 2 2 E", []string{"null / |", "goto 2 / null |", "throw / ref E |"}})
}

func TestChecksOfHandlers(t *testing.T) {
	for _, c := range []checkCase{
		{"locals joined", "static (LN;LM;LO;)V", 1, 3, "0 5 5 Error", []string{
			"load 1 / | ref N, ref M, ref O", "store 0 / ref M | ref N, ref M, ref O", "load 2 / | ref M, ref M, ref O", "store 0 / ref O | ref M, ref M, ref O", "return / | ref O, ref M, ref O",
			"throw / ref Error | ref Object, ref M, ref O"}},
		{"locals as they were", "static (LN;LM;)V", 1, 2, "0 2 3 Error", []string{
			"load 1 / | ref N, ref M", "store 0 / ref M | ref N, ref M", "return / | ref M, ref M", "throw / ref Error | ref N, ref M"}},
		{"two classes at one place", "static ()V", 1, 0, "0 1 2 E, 0 2 2 MathError", []string{"goto 1 / |", "return / |", "throw / ref Error |"}},
		{"one on the other", "static ()V", 1, 0, "0 1 2 Error, 0 1 2 E", []string{"goto 1 / |", "return / |", "throw / ref Error |"}},
		{"two places", "static ()V", 1, 0, "0 1 2 Error, 0 1 4 E", []string{"goto 1 / |", "return / |", "pop / ref Error |", "return / |", "pop / ref E |", "goto 0 / |"}},
		{"over itself", "static ()V", 1, 1, "0 4 1 E", []string{"goto 3 / | top", "store 0 / ref E | top", "goto 2 / | ref E", "return / | top"}},
		{"a constructor's", "init ()V", 1, 2, "0 3 4 E", []string{
			"load 0 / | this, top", "callspecial S <init> ()V / this | this, top", "goto 3 / | ref M, top", "return / | ref M, top", "throw / ref E | top, top"}},
	} {
		checkPasses(t, c)
	}
	checkFails(t, checkCase{"returns unbuilt", "init ()V", 1, 1, "0 3 4 E", []string{"load 0", "callspecial S <init> ()V", "goto 3", "return", "pop", "return"}}, 5, impl.ErrType)
	checkFails(t, checkCase{"of a class that is not known", "static ()V", 1, 0, "1 2 2 Zed", []string{"goto 1", "goto 3", "return", "return"}}, 1, impl.ErrName)
	checkFails(t, checkCase{"of a class that can't be thrown", "static ()V", 1, 0, "1 2 2 O", []string{"goto 1", "goto 3", "return", "return"}}, 1, impl.ErrType)
	checkFails(t, checkCase{"without room", "static ()V", 0, 0, "1 2 2 E", []string{"goto 1", "goto 3", "return", "return"}}, 1, impl.ErrStack)
}

// A constructor's object is of its class when each way that leads to a return has built it.
func TestChecksOfConstructors(t *testing.T) {
	checkPasses(t, checkCase{"on both ways", "init (I)V", 2, 2, "", []string{
		"load 1 / | this, int", "ifeq 5 / int | this, int", "load 0 / | this, int", "callspecial S <init> ()V / this | this, int", "goto 8 / | ref M, int",
		"load 0 / | this, int", "null / this | this, int", "callspecial M <init> (LM;)V / this, null | this, int", "return / | ref M, int"}})
	checkPasses(t, checkCase{"or thrown", "init (I)V", 1, 2, "", []string{
		"load 1 / | this, int", "ifeq 5 / int | this, int", "load 0 / | this, int", "callspecial S <init> ()V / this | this, int", "return / | ref M, int",
		"null / | this, int", "throw / null | this, int"}})
	checkFails(t, checkCase{"on one way", "init (I)V", 1, 2, "", []string{"load 1", "ifeq 4", "load 0", "callspecial S <init> ()V", "return"}}, 4, impl.ErrType)
	checkFails(t, checkCase{"on no way", "init ()V", 1, 1, "", []string{"load 0", "pop", "return"}}, 2, impl.ErrType)
	checkFails(t, checkCase{"by another class", "init ()V", 1, 1, "", []string{"load 0", "callspecial Object <init> ()V", "return"}}, 1, impl.ErrType)
	checkFails(t, checkCase{"time and again", "init ()V", 1, 1, "", []string{"load 0", "callspecial S <init> ()V", "goto 0"}}, 0, impl.ErrType)
	checkFails(t, checkCase{"written over", "init ()V", 1, 1, "", []string{"null", "store 0", "return"}}, 1, impl.ErrAccess)
}

// Of those that wait the least one is looked at first, also when others wait for longer: its fault is told.
func TestChecksInTheirOrder(t *testing.T) {
	for _, c := range []struct {
		told     string
		handlers string
		at       int64
		code     int64
	}{
		// Two faults, one behind the other.
		{"pop, new Zed, return", "", 0, impl.ErrStack},
		{"null, new Zed, load 3, return", "", 1, impl.ErrName},
		// The next one ahead of the one jumped to, and the other way round.
		{"const 0, ifeq 3, new Zed, pop, return", "", 2, impl.ErrName},
		{"const 0, ifeq 3, pop, new Zed, return", "", 2, impl.ErrStack},
		{"goto 3, pop, return, const 0, ifeq 1, new Zed", "", 1, impl.ErrStack},
		{"goto 3, new Zed, return, const 0, ifeq 1, pop", "", 1, impl.ErrName},
		// Others came to wait ahead of it.
		{"const 0, ifeq 5, const 0, ifeq 4, load 1, new Zed, return", "", 4, impl.ErrType},
		{"const 0, ifeq 4, goto 3, new Zed, pop", "", 3, impl.ErrName},
		{"const 0, ifeq 6, const 0, ifeq 5, return, load 1, new Zed", "", 5, impl.ErrType},
		// What has been looked at waits again, ahead of what has not yet been.
		{"const 1, store 0, load 0, ifeq 7, null, store 0, goto 2, new Zed", "", 2, impl.ErrType},
		{"const 1, store 0, const 1, ifeq 7, null, store 0, goto 2, load 0", "", 7, impl.ErrType},
		{"const 1, store 0, const 1, ifeq 7, null, store 0, goto 2, new Zed", "", 7, impl.ErrName},
		// A handler's place waits with the others.
		{"goto 2, pop, goto 3, new Zed, add", "0 1 4 E", 3, impl.ErrName},
		{"goto 2, add, goto 3, new Zed, pop", "0 1 1 E", 1, impl.ErrStack},
		// A step that is refused is told ahead of where its ways meet; one that is not told of is no fault.
		{"const 1, ifeq 4, null, add, return", "", 3, impl.ErrStack},
		{"goto 2, new Zed, pop", "", 2, impl.ErrStack},
		{"const 1, new Zed, goto 0", "", 1, impl.ErrName},
	} {
		checkFails(t, checkCase{c.told, "static ()V", 2, 2, c.handlers, strings.Split(c.told, ", ")}, c.at, c.code)
	}
}

// typingTold: a method with two ways that meet, and an instruction that is not reached, with its least typing.
func typingTold() checkCase {
	return checkCase{"two ways", "static (LN;)V", 1, 2, "", []string{
		"load 0 / | ref N, top", "ifnull 4 / ref N | ref N, top", "load 0 / | ref N, top", "goto 5 / ref N | ref N, top",
		"null / | ref N, top", "store 1 / ref N | ref N, top", "return / | ref N, ref N", "goto 6 / -"}}
}

func TestTypingsOneByOne(t *testing.T) {
	c := typingTold()
	checkPasses(t, c)
	list := c.world(t)
	for _, one := range []struct {
		// The places that are changed, with their frames, or - where they are not Seen.
		told string
		want bool
	}{
		{"", true},
		{"0 / -", false}, {"1 / -", false}, {"5 / -", false}, {"6 / -", false}, {"2 / -", false},
		{"0 / | ref N, int", false}, {"0 / | null, top", false}, {"0 / | ref O, top", false}, {"0 / int | ref N, top", false}, {"0 / | ref N", false}, {"0 / | ref N, top, top", false}, {"0 / |", false},
		// Above the least one: right, if what follows is above, too.
		{"6 / | top, ref N", true}, {"6 / | ref N, top", true}, {"6 / | ref M, ref Object", true}, {"6 / | top, top", true},
		{"6 / | ref N, null", false}, {"6 / | ref N, ref O", false}, {"6 / | ref N, ints", false}, {"6 / | null, ref N", false}, {"6 / ref N | ref N, ref N", false}, {"6 / | ref N, ref N, ref N", false},
		{"5 / ref M | ref N, top", false}, {"5 / ref M | ref N, top ; 6 / | ref N, ref M", true}, {"5 / ref M | ref N, top ; 6 / | ref N, ref Object", true},
		{"5 / top | ref N, top ; 6 / | ref N, top", true}, {"5 / top | top, top ; 6 / | ref N, top", false}, {"5 / null | ref N, top", false}, {"5 / null | ref N, top ; 6 / | ref N, null", false},
		{"0 / | ref M, top", false}, {"4 / | ref M, top", false}, {"4 / | ref N, int", false},
		{"0 / | ref M, top ; 1 / ref M | ref M, top ; 2 / | ref M, top ; 3 / ref M | ref M, top ; 4 / | ref M, top ; 5 / ref M | ref M, top ; 6 / | ref M, ref M", true},
		{"0 / | ref M, top ; 1 / ref M | ref M, top ; 2 / | ref M, top ; 3 / ref M | ref M, top ; 4 / | ref M, top ; 5 / ref M | ref M, top ; 6 / | ref M, ref N", false},
		// So far above that an instruction is refused.
		{"1 / top | ref N, top", false}, {"3 / top | ref N, top ; 5 / top | ref N, top ; 6 / | ref N, top", true}, {"2 / | top, top", false},
		// What is not reached can be Seen all the same; if it is not, it has no frame.
		{"7 / | ref N, ref N", true}, {"7 / | null, null", true}, {"7 / | ref N, null", true}, {"7 / | ref M, ref N", false}, {"7 / | top, top", false}, {"7 / |", false}, {"7 / | ref N", false}, {"7 / ref N | ref N, ref N", false},
		{"7 / | ref Zed, ref N", false}, {"7 / int, int | ref N, ref N", false}, {"7 / | ref N, ref M ; 6 / | top, ref M", true},
		{"6 / | ref N, ref Zed", false}, {"6 / | ref N, other", false}, {"1 / ref Zed | ref N, top", false},
	} {
		seen, frames := c.typing()
		for _, change := range strings.Split(one.told, " ; ") {
			place, frame, there := strings.Cut(change, " / ")
			if !there {
				continue
			}
			at, _ := strconv.Atoi(place)
			seen[at], frames[at] = true, frameOf(frame)
			if frame == "-" {
				seen[at], frames[at] = false, impl.Frame{}
			}
		}
		same(t, list, one.told, impl.TypingRight(list, inM, behind, seen, frames), one.want)
		same(t, list, "the model of "+one.told, model(list).typingRight(inM, behind, seen, frames), one.want)
	}
}

func TestTypingsThatHaveNotWhatTheyShould(t *testing.T) {
	c := typingTold()
	list := c.world(t)
	seen, frames := c.typing()
	no := impl.Frame{}
	right := func(what string, seen []bool, frames []impl.Frame, want bool) {
		t.Helper()
		before := shown([]any{seen, frames})
		same(t, nil, what, impl.TypingRight(list, inM, behind, seen, frames), want)
		same(t, nil, what+", what was handed in", shown([]any{seen, frames}), before)
	}
	right("as it is", seen, frames, true)
	right("none", nil, nil, false)
	right("empty", []bool{}, []impl.Frame{}, false)
	right("no frames", seen, nil, false)
	right("none Seen", nil, frames, false)
	right("Seen one too short", seen[:7], frames, false)
	right("frames one too short", seen, frames[:7], false)
	right("both too short", seen[:7], frames[:7], false)
	right("Seen too long", append(slices.Clone(seen), false), frames, false)
	right("frames too long", seen, append(slices.Clone(frames), no), false)
	right("both too long", append(slices.Clone(seen), false), append(slices.Clone(frames), no), false)
	right("one alone", seen[:1], frames[:1], false)
	for _, count := range []int{impl.MaxCode, impl.MaxList, impl.MaxList + 1, 3 * impl.MaxList} {
		right("far too long", slices.Repeat(seen, count), slices.Repeat(frames, count), false)
		right("Seen far too long", slices.Repeat(seen, count), frames, false)
		right("frames far too long", seen, slices.Repeat(frames, count), false)
	}
	right("Seen nowhere", make([]bool, 8), make([]impl.Frame, 8), false)
	right("Seen nowhere, with frames", make([]bool, 8), frames, false)
	right("Seen everywhere, without frames", slices.Repeat([]bool{true}, 8), make([]impl.Frame, 8), false)
	for at := range frames {
		not := slices.Clone(seen)
		not[at] = false
		right("not Seen, with a frame", not, frames, at == 7)
		without := slices.Clone(frames)
		without[at] = no
		right("Seen, without a frame", seen, without, at == 7)
		right("neither", not, without, at == 7)
	}
	for _, told := range []string{"int |", "| top", "top |", "| ref N, ref N", "other |", "| other", "| top, top"} {
		with := slices.Clone(frames)
		with[7] = frameOf(told)
		right("a frame at what is not Seen: "+told, seen, with, false)
	}
	with := slices.Clone(frames)
	with[7] = impl.Frame{Stack: []impl.Type{}, Locals: []impl.Type{}}
	right("empty lists", seen, with, true)
	with[0].Stack = []impl.Type{}
	right("an empty stack", seen, with, true)
	with[7] = impl.Frame{Stack: times(impl.MaxList+1, "top")}
	right("a long one", seen, with, false)
	with[7] = impl.Frame{Locals: make([]impl.Type, 1)}
	right("a zero one", seen, with, false)
}

// Where there is neither a stack nor a local, what is Seen and what is not have the same frame.
func TestTypingsWithoutAnyTypes(t *testing.T) {
	c := checkCase{"no types", "static ()V", 1, 0, "", []string{"goto 2 / |", "return / -", "null / |", "ifnull 0 / null |", "goto 4 / |"}}
	checkPasses(t, c)
	list := c.world(t)
	for mask := range 1 << 5 {
		var seen []bool
		frames := make([]impl.Frame, 5)
		frames[3] = frameOf("null |")
		for at := range 5 {
			seen = append(seen, mask>>at&1 == 1)
		}
		if !seen[3] {
			frames[3] = impl.Frame{}
		}
		want := seen[0] && seen[2] && seen[3] && seen[4]
		same(t, list, shown(seen), impl.TypingRight(list, inM, behind, seen, frames), want)
	}
	list = checkWorld(methodOf("static ()V", 0, 0, plainCode(t, "return")...))
	same(t, list, "one Seen", impl.TypingRight(list, inM, behind, []bool{true}, []impl.Frame{{}}), true)
	same(t, list, "one not Seen", impl.TypingRight(list, inM, behind, []bool{false}, []impl.Frame{{}}), false)
}

// A typing can be right that the check does not come to: the check looks at the least frames, which are refused.
func TestTypingsOfWhatDoesNotPass(t *testing.T) {
	c := checkCase{"null", "static ()V", 1, 0, "", []string{"null / |", "size / ints |", "pop / int |", "return / |"}}
	checkFails(t, c, 1, impl.ErrType)
	list := c.world(t)
	seen, frames := c.typing()
	same(t, list, "ints", impl.TypingRight(list, inM, behind, seen, frames), true)
	frames[1] = frameOf("null |")
	same(t, list, "null", impl.TypingRight(list, inM, behind, seen, frames), false)
	frames[1] = frameOf("refs O |")
	same(t, list, "refs", impl.TypingRight(list, inM, behind, seen, frames), true)
	// One that is refused has none, be it Seen or not; a fault that is not Seen is none.
	c = checkCase{"a fault", "static ()V", 1, 0, "", []string{"goto 2 / |", "new Zed / |", "return / |"}}
	list = c.world(t)
	seen, frames = c.typing()
	same(t, list, "a fault Seen", impl.TypingRight(list, inM, behind, seen, frames), false)
	seen[1] = false
	same(t, list, "a fault not Seen", impl.TypingRight(list, inM, behind, seen, frames), true)
	// A last one that goes on, and a handler that is none.
	c = checkCase{"on beyond the end", "static ()V", 1, 0, "", []string{"return / |", "const 1 / |"}}
	list = c.world(t)
	seen, frames = c.typing()
	same(t, list, "on beyond the end", impl.TypingRight(list, inM, behind, seen, frames), false)
	c = checkCase{"a handler", "static (LN;)V", 1, 1, "0 1 1 E", []string{"return / | ref N", "throw / ref E | ref N"}}
	list = c.world(t)
	seen, frames = c.typing()
	same(t, list, "a handler", impl.TypingRight(list, inM, behind, seen, frames), true)
	frames[1] = frameOf("ref Error | top")
	same(t, list, "a handler above", impl.TypingRight(list, inM, behind, seen, frames), true)
	frames[1] = frameOf("ref MathError | ref N")
	same(t, list, "a handler of another class", impl.TypingRight(list, inM, behind, seen, frames), false)
	seen[1], frames[1] = false, impl.Frame{}
	same(t, list, "a handler not Seen", impl.TypingRight(list, inM, behind, seen, frames), false)
}

// allWorld: classes with methods that pass, some without code, and one class without methods.
func allWorld() []impl.Class {
	return passing(worldOf("class A Object abstract, method f ()V, method g ()V abstract, method h (I)I static, method k ()V abstract, method <init> ()V, " +
		"class B Object, class C A, method <init> ()V, method g ()V, method k ()V, class D C abstract, method m ()LD; abstract"))
}

func TestChecksOfAllMethods(t *testing.T) {
	list := allWorld()
	same(t, list, "all", impl.CheckAll(list), impl.AllOut{})
	same(t, nil, "no classes", impl.CheckAll(nil), impl.AllOut{})
	same(t, nil, "no classes", impl.CheckAll([]impl.Class{}), impl.AllOut{})
	for _, one := range [][]impl.Class{plainWorld(1), plainWorld(impl.MaxClasses), worldOf("class A Object abstract, method f ()V abstract, method g ()V abstract")} {
		same(t, one, "no code", impl.CheckAll(one), impl.AllOut{})
	}
	// Each method by itself: it alone is told, with its own place.
	for class, c := range list {
		for method, m := range c.Methods {
			if m.Abstract {
				continue
			}
			for _, wrong := range []struct {
				code string
				at   int64
				told int64
			}{{"pop", 0, impl.ErrStack}, {"const 1, pop, new Zed", 2, impl.ErrName}, {"const 1, const 1", 1, impl.ErrStack}, {"const 1", 0, impl.ErrFlow}, {"null, ifeq 0", 1, impl.ErrType}} {
				list := allWorld()
				list[class].Methods[method].Code = plainCode(t, strings.Split(wrong.code, ", ")...)
				same(t, list, wrong.code, impl.CheckAll(list), impl.AllOut{Class: int64(class), Method: int64(method), At: wrong.at, Code: wrong.told})
				same(t, list, wrong.code, impl.Check(list, int64(class), int64(method)), impl.CheckOut{At: wrong.at, Code: wrong.told})
				same(t, list, wrong.code, impl.CheckText(list, int64(class), int64(method)), "")
			}
		}
	}
}

// Of two methods that do not pass the first one is told, whatever its fault, and where it stands.
func TestChecksOfTwoMethodsThatDoNotPass(t *testing.T) {
	codes := map[string]impl.AllOut{"pop": {Code: impl.ErrStack}, "const 1, pop, new Zed": {At: 2, Code: impl.ErrName}}
	var places [][2]int
	for class, c := range allWorld() {
		for method, m := range c.Methods {
			if !m.Abstract {
				places = append(places, [2]int{class, method})
			}
		}
	}
	for at, first := range places {
		for _, second := range places[at+1:] {
			for one, want := range codes {
				for other := range codes {
					list := allWorld()
					list[first[0]].Methods[first[1]].Code = plainCode(t, strings.Split(one, ", ")...)
					list[second[0]].Methods[second[1]].Code = plainCode(t, strings.Split(other, ", ")...)
					want.Class, want.Method = int64(first[0]), int64(first[1])
					same(t, list, one+" ahead of "+other, impl.CheckAll(list), want)
				}
			}
		}
	}
}

// checkNoMethod: what is told of a method that is not there, whatever typing comes with it.
func checkNoMethod(t *testing.T, what string, list []impl.Class, class, method int64, code int64) {
	t.Helper()
	same(t, list, what, impl.Check(list, class, method), impl.CheckOut{Code: code})
	same(t, list, what+": its lines", impl.CheckText(list, class, method), "")
	same(t, list, what+": no typing", impl.TypingRight(list, class, method, nil, nil), false)
	same(t, list, what+": a typing", impl.TypingRight(list, class, method, []bool{true}, []impl.Frame{{}}), false)
	same(t, list, what+": a typing of many", impl.TypingRight(list, class, method, []bool{true}, []impl.Frame{{Locals: times(impl.MaxLocals, "top")}}), false)
}

func TestChecksByPlace(t *testing.T) {
	list := allWorld()
	for class, c := range list {
		for method, m := range c.Methods {
			if m.Abstract {
				checkNoMethod(t, "abstract", list, int64(class), int64(method), impl.ErrForm)
				continue
			}
			out := impl.Check(list, int64(class), int64(method))
			same(t, list, m.Name, out, model(list).checkMethod(class, method))
			same(t, list, m.Name, impl.CheckText(list, int64(class), int64(method)), linesOf(m.Code, out.Seen, out.Frames))
			same(t, list, m.Name, impl.TypingRight(list, int64(class), int64(method), out.Seen, out.Frames), true)
		}
		for _, method := range strangePlaces(len(c.Methods)) {
			checkNoMethod(t, "no method", list, int64(class), method, impl.ErrForm)
		}
	}
	for _, class := range strangePlaces(len(list)) {
		checkNoMethod(t, "no class", list, class, 0, impl.ErrForm)
	}
	checkNoMethod(t, "no places at all", list, -1, -1, impl.ErrForm)
	checkNoMethod(t, "no classes at all", nil, 0, 0, impl.ErrForm)
}

func TestChecksInWorldsThatAreNotRight(t *testing.T) {
	for _, pass := range wrongWorlds() {
		for _, w := range pass {
			list := passing(worldOf(w.told))
			same(t, list, w.told, impl.CheckAll(list), impl.AllOut{Class: w.class, Code: w.code})
			for class := range list {
				for method := range len(list[class].Methods) + 1 {
					checkNoMethod(t, w.told, list, int64(class), int64(method), impl.ErrForm)
				}
			}
			// The world is looked at ahead of all methods.
			pop := impl.Method{Name: "pop", Desc: "()V", Static: true, Code: []impl.Ins{{Op: 5}}}
			list[0].Methods = append([]impl.Method{pop}, list[0].Methods...)
			same(t, list, w.told, impl.CheckAll(list), impl.AllOut{Class: w.class, Code: w.code})
			checkNoMethod(t, w.told, list, 0, 0, impl.ErrForm)
		}
	}
	for _, count := range []int{impl.MaxClasses + 1, impl.MaxClasses + 2, impl.MaxList - 1, impl.MaxList} {
		list := slices.Repeat(allWorld(), count)[:count]
		same(t, nil, "too many", impl.CheckAll(list), impl.AllOut{Class: impl.MaxClasses, Code: impl.ErrForm})
		checkNoMethod(t, "too many", list, 0, 0, impl.ErrForm)
	}
	same(t, nil, "a zero class", impl.CheckAll([]impl.Class{{}}), impl.AllOut{Code: impl.ErrForm})
	checkNoMethod(t, "a zero class", []impl.Class{{}}, 0, 0, impl.ErrForm)
	for _, list := range [][]impl.Class{plainWorld(impl.MaxList + 1), make([]impl.Class, impl.MaxList+1), slices.Repeat(allWorld(), impl.MaxList)} {
		same(t, nil, "a long list", impl.CheckAll(list), impl.AllOut{Code: impl.ErrSize})
		for _, place := range []int64{0, -1, impl.MaxList + 1} {
			checkNoMethod(t, "a long list", list, place, 0, impl.ErrSize)
			checkNoMethod(t, "a long list", list, 0, place, impl.ErrSize)
		}
	}
}

// Promise 20: a line for each instruction, whatever kinds of types stand there.
func TestChecksLines(t *testing.T) {
	for _, one := range []struct {
		c    checkCase
		want string
	}{
		{checkCase{"all kinds", "init (I[I[LM;LN;)V", 2, 6, "", []string{
			"null", "new O", "pop", "pop", "load 0", "callspecial S <init> ()V", "load 2", "load 3", "swap", "pop", "pop", "return", "return"}},
			`0 null | this int int[] M[] N top
1 new null | this int int[] M[] N top
2 pop null newO@1 | this int int[] M[] N top
3 pop null | this int int[] M[] N top
4 load | this int int[] M[] N top
5 callspecial this | this int int[] M[] N top
6 load | M int int[] M[] N top
7 load int[] | M int int[] M[] N top
8 swap int[] M[] | M int int[] M[] N top
9 pop M[] int[] | M int int[] M[] N top
10 pop M[] | M int int[] M[] N top
11 return | M int int[] M[] N top
12 return -
`},
		{checkCase{"nothing", "static ()V", 0, 0, "", []string{"return"}}, "0 return |\n"},
		{checkCase{"a stack alone", "static ()I", 1, 0, "", []string{"const -7", "ireturn"}}, "0 const |\n1 ireturn int |\n"},
		{checkCase{"not Seen", "static (I)V", 1, 1, "", []string{"goto 2", "pop", "load 0", "ifeq 5", "return", "return", "new Zed"}},
			"0 goto | int\n1 pop -\n2 load | int\n3 ifeq int | int\n4 return | int\n5 return | int\n6 new -\n"},
	} {
		list := one.c.world(t)
		same(t, list, one.c.what, impl.CheckText(list, inM, behind), one.want)
	}
	// As many as there can be.
	m := methodOf("static ()V", impl.MaxStack, impl.MaxLocals, slices.Repeat(plainCode(t, "const 1", "pop"), impl.MaxCode/2)...)
	m.Code[impl.MaxCode-1] = insOf(t, "throw")
	m.Code[impl.MaxCode-2] = insOf(t, "null")
	list := checkWorld(m)
	lines := strings.SplitAfter(impl.CheckText(list, inM, behind), "\n")
	tops := strings.Repeat(" top", impl.MaxLocals)
	if len(lines) != impl.MaxCode+1 || lines[59] != "59 throw null |"+tops+"\n" || lines[57] != "57 pop int |"+tops+"\n" || lines[60] != "" {
		t.Errorf("the most lines: %q", lines)
	}
}

// No list that is told is one that was handed in, nor another one that is told: not even where frames are alike.
func TestChecksShareNoLists(t *testing.T) {
	c := checkCase{"frames", "static (LN;LM;)V", 2, 2, "0 3 5 Error, 0 3 7 E", []string{
		"goto 1 / | ref N, ref M", "goto 2 / | ref N, ref M", "load 0 / | ref N, ref M", "store 1 / ref N | ref N, ref M", "goto 4 / | ref N, ref N",
		"pop / ref Error | ref N, ref M", "return / | ref N, ref M", "pop / ref E | ref N, ref M", "goto 6 / | ref N, ref M"}}
	checkPasses(t, c)
	list := c.world(t)
	seen, frames := c.typing()
	for at := range frames {
		out, other := impl.Check(list, inM, behind), impl.Check(list, inM, behind)
		scribble(out.Frames[at].Stack)
		same(t, list, "the locals", out.Frames[at].Locals, frames[at].Locals)
		scribble(out.Frames[at].Locals)
		for place := range frames {
			if place != at {
				same(t, list, "another frame", out.Frames[place], frames[place])
			}
		}
		clear(out.Seen)
		clear(out.Frames)
		same(t, list, "another call", other, impl.CheckOut{Seen: seen, Frames: frames})
		same(t, list, "again", impl.Check(list, inM, behind), other)
	}
}

// What was told of one list is not kept for another one, nor a typing that was handed in.
func TestChecksKeepNothing(t *testing.T) {
	c := typingTold()
	list := c.world(t)
	seen, frames := c.typing()
	before := shown([]any{list, seen, frames})
	out, text := impl.Check(list, inM, behind), impl.CheckText(list, inM, behind)
	same(t, list, "a typing", impl.TypingRight(list, inM, behind, seen, frames), true)
	same(t, nil, "what was handed in", shown([]any{list, seen, frames}), before)
	code := slices.Clone(list[inM].Methods[behind].Code)
	list[inM].Methods[behind].Code[4] = insOf(t, "pop")
	same(t, list, "another code", impl.Check(list, inM, behind), impl.CheckOut{At: 4, Code: impl.ErrStack})
	same(t, list, "another code", impl.CheckAll(list), impl.AllOut{Class: inM, Method: behind, At: 4, Code: impl.ErrStack})
	same(t, list, "another code", impl.TypingRight(list, inM, behind, seen, frames), false)
	list[inM].Methods[behind].Code = code
	list[inM].Name = "Other"
	same(t, list, "another world", impl.Check(list, inM, behind), impl.CheckOut{Code: impl.ErrForm})
	list[inM].Name = "M"
	same(t, list, "as it was", impl.Check(list, inM, behind), out)
	same(t, list, "as it was", impl.CheckText(list, inM, behind), text)
	scribble(frames[0].Stack, frames[0].Locals)
	clear(seen)
	same(t, list, "as it was told", out, impl.Check(list, inM, behind))
	same(t, list, "another typing", impl.TypingRight(list, inM, behind, seen, frames), false)
}

func TestChecksShareNoTexts(t *testing.T) {
	c := checkCase{"texts", "plain (LN;[LM;)LM;", 1, 4, "0 3 6 E", []string{
		"load 1", "store 3", "new O", "pop", "load 0", "areturn", "throw", "pop"}}
	list := c.world(t)
	out := impl.Check(list, inM, behind)
	if out.Code != impl.OK {
		t.Fatalf("code %d at %d", out.Code, out.At)
	}
	var handedIn []string
	for _, one := range list {
		handedIn = append(handedIn, one.Name, one.Super)
		for _, m := range one.Methods {
			handedIn = append(handedIn, m.Desc)
			for _, i := range m.Code {
				handedIn = append(handedIn, i.Class, i.Desc)
			}
			for _, h := range m.Handlers {
				handedIn = append(handedIn, h.Class)
			}
		}
	}
	told := append(classesIn(out.Frames...), impl.CheckText(list, inM, behind))
	ownMemory(t, "frames", told, handedIn)
	if len(slices.Compact(slices.Sorted(slices.Values(told)))) < 5 {
		t.Errorf("too few classes: %q", told)
	}
}

// statementsTold: pieces of code that begin and end without a stack, # being one of the locals and @ a place where one begins.
const statementsTold = `const 1, store # / null, store # / load #, store # / load #, store # / load #, ifeq @ / load #, ifeq @ / load #, ifnull @ / load #, ifnull @ /
load #, load #, ifis @ / load #, load #, add, store # / goto @ / new O, dup, callspecial O <init> ()V, store # / new O, store # / new E, dup, callspecial E <init> ()V, store # /
load #, callspecial O <init> ()V / const 2, newlist I, store # / const 2, newlist LM;, store # / load #, const 0, get, store # / load #, size, store # /
load #, cast M, store # / load #, cast N, store # / load #, isof N, store # / getstatic S d LM;, store # / load #, getfield M n LM;, store # / load #, putstatic S d LM; /
return / load #, throw`

// What a dealt method has as its Stack and its Locals.
const (
	dealtStack  = 2
	dealtLocals = 5
)

// methodDealer deals methods of M, of statements that mostly pass one behind the other.
type methodDealer struct {
	stepDealer
	t    *testing.T
	list []impl.Class
}

// statement: one of those told, its locals and its place dealt.
func (d methodDealer) statement(places int) []string {
	told := pick(d.stepDealer, strings.Split(strings.ReplaceAll(statementsTold, "\n", " "), "/"))
	for strings.Contains(told, "#") {
		told = strings.Replace(told, "#", strconv.Itoa(d.IntN(dealtLocals)), 1)
	}
	return strings.Split(strings.ReplaceAll(told, "@", "@"+strconv.Itoa(d.IntN(places))), ",")
}

// behind: the frame behind some lines, as the model says, and whether none of them is refused.
func (d methodDealer) behind(m impl.Method, at int, lines []string, f impl.Frame) (impl.Frame, bool) {
	for _, line := range lines {
		i := insOf(d.t, strings.ReplaceAll(line, "@", ""))
		out := modelStep{model(d.list), d.list[inM], m, int64(at), i, impl.OpName(i.Op)}.effect(f)
		if out.Code != impl.OK {
			return f, false
		}
		f = out.Frame
		at++
	}
	return f, true
}

// method: one of some statements, a handler perhaps, and now and then with an instruction that is any one.
func (d methodDealer) method() impl.Method {
	m := methodOf(pick(d.stepDealer, []string{"static (ILM;[I)V", "static (LN;LM;LO;)V", "plain (LN;I)V", "init (I)V"}), dealtStack, dealtLocals)
	list := slices.Clone(d.list)
	list[inM].Methods = []impl.Method{m}
	f := model(list).frameStart(inM, 0).Frame
	var lines []string
	var starts []int
	count := 3 + d.IntN(7)
	for len(starts) < count {
		told := d.statement(count)
		if m.Name == "<init>" && len(starts) == 0 && !d.rarely() {
			told = strings.Split("load 0, callspecial S <init> ()V", ", ")
		}
		after, passes := d.behind(m, len(lines), told, f)
		if !passes && d.IntN(30) > 0 {
			continue
		}
		starts, lines, f = append(starts, len(lines)), append(lines, told...), after
	}
	lines = append(lines, "return")
	if d.IntN(3) == 0 {
		h := impl.Handler{To: 1 + d.Int64N(int64(len(lines))), At: int64(len(lines)), Class: pick(d.stepDealer, []string{"Error", "E", "MathError"})}
		h.From = d.Int64N(h.To)
		m.Handlers = append(m.Handlers, h)
		lines = append(lines, "store 4", "goto @"+strconv.Itoa(d.IntN(count)))
	}
	for _, line := range lines {
		before, place, jumps := strings.Cut(line, "@")
		if jumps {
			to, _ := strconv.Atoi(place)
			line = before + strconv.Itoa(starts[to])
		}
		m.Code = append(m.Code, insOf(d.t, line))
	}
	if d.IntN(6) == 0 {
		told := pick(d.stepDealer, toldOps(d.t))
		m.Code[d.IntN(len(m.Code))] = d.instruction(d.list, told, "S", len(m.Code))
	}
	return m
}

func newMethodDealer(t *testing.T) methodDealer {
	return methodDealer{newStepDealer(), t, passing(worldOf(flowTold))}
}

// Promises 9, 10 and 20, of dealt methods: all as the document's words have it.
func TestDealtMethodsAsTheModelSays(t *testing.T) {
	d := newMethodDealer(t)
	codes := map[int64]int{}
	var jumpsBack, notSeen int
	for range 400 {
		m := d.method()
		list := checkWorld(m)
		same(t, list, "the world", impl.WorldCheck(list), impl.WorldOut{})
		out := impl.Check(list, inM, behind)
		same(t, list, "dealt", out, model(list).checkMethod(inM, behind))
		codes[out.Code]++
		if out.Code != impl.OK {
			same(t, list, "all", impl.CheckAll(list), impl.AllOut{Class: inM, Method: behind, At: out.At, Code: out.Code})
			same(t, list, "its lines", impl.CheckText(list, inM, behind), "")
			continue
		}
		same(t, list, "all", impl.CheckAll(list), impl.AllOut{})
		same(t, list, "its lines", impl.CheckText(list, inM, behind), linesOf(m.Code, out.Seen, out.Frames))
		same(t, list, "right", impl.TypingRight(list, inM, behind, out.Seen, out.Frames), true)
		same(t, list, "right, as the model says", model(list).typingRight(inM, behind, out.Seen, out.Frames), true)
		for at, i := range m.Code {
			if out.Seen[at] && impl.OpForm(i.Op) == "t" && i.A < int64(at) {
				jumpsBack++
			}
			if !out.Seen[at] {
				notSeen++
			}
		}
	}
	for code, least := range map[int64]int{impl.OK: 100, impl.ErrType: 40, impl.ErrStack: 10} {
		if codes[code] < least {
			t.Errorf("too few of code %d: %v", code, codes)
		}
	}
	if jumpsBack < 50 || notSeen < 50 {
		t.Errorf("only %d jumps back, and %d instructions not Seen", jumpsBack, notSeen)
	}
}

// typeIn: one type in a typing, by its place among those of all frames, the stack's ahead of the locals in each.
func typeIn(frames []impl.Frame, place int) *impl.Type {
	for _, f := range frames {
		for _, row := range [][]impl.Type{f.Stack, f.Locals} {
			if place < len(row) {
				return &row[place]
			}
			place -= len(row)
		}
	}
	return nil
}

func cloneFrames(frames []impl.Frame) []impl.Frame {
	var clones []impl.Frame
	for _, f := range frames {
		clones = append(clones, cloneFrame(f))
	}
	return clones
}

// settled: the typing made right by raising what is told to be too low, if no instruction is refused then.
func (m model) settled(class, method int, seen []bool, frames []impl.Frame) bool {
	steps := m.steps(class, method)
	for again := true; again; {
		again = false
		for at, s := range steps {
			if !seen[at] {
				continue
			}
			flow := s.flow(frames[at])
			for way, next := range flow.Next {
				both := m.frameLub(frames[next], flow.Frames[way])
				again = again || shown(both.Frame) != shown(frames[next])
				frames[next] = cloneFrame(both.Frame)
			}
			if flow.Code != impl.OK {
				return false
			}
		}
	}
	return true
}

// Promise 9: what the check finds is a right typing, and the least one: no right one has anything that is not above it.
func TestChecksFindTheLeastTyping(t *testing.T) {
	d := newMethodDealer(t)
	types := knownTypes(d.list)
	var lowered, above, others int
	for range 150 {
		m := d.method()
		list := checkWorld(m)
		all := model(list)
		out := impl.Check(list, inM, behind)
		if out.Code != impl.OK {
			continue
		}
		count := 0
		for _, f := range out.Frames {
			count += len(f.Stack) + len(f.Locals)
		}
		right := func(what string, frames []impl.Frame, want bool) {
			t.Helper()
			same(t, list, what+frameNamed(frames...), impl.TypingRight(list, inM, behind, out.Seen, frames), want)
		}
		right("the least", out.Frames, true)
		// One type that is lower than it, and all others as they are.
		for range 40 {
			frames := cloneFrames(out.Frames)
			one := typeIn(frames, d.IntN(count))
			if lower := pick(d.stepDealer, types); lower != *one && all.below(lower, *one) {
				*one = lower
				right("lowered", frames, false)
				lowered++
			}
		}
		// Others, that begin above it and come down as long as they stay right.
		frames := cloneFrames(out.Frames)
		for range 4 {
			raised := cloneFrames(frames)
			one := typeIn(raised, d.IntN(count))
			if higher := pick(d.stepDealer, types); all.below(*one, higher) {
				*one = higher
				if all.settled(inM, behind, out.Seen, raised) {
					frames = raised
				}
			}
		}
		for range 10 {
			raised := cloneFrames(frames)
			*typeIn(raised, d.IntN(count)) = pick(d.stepDealer, types)
			isRight := all.typingRight(inM, behind, out.Seen, raised)
			right("another one", raised, isRight)
			if isRight {
				frames = raised
				above++
			}
		}
		right("above", frames, true)
		for at, f := range frames {
			same(t, list, "the least is below"+frameNamed(out.Frames[at], f), all.frameBelow(out.Frames[at], f), true)
		}
		if shown(frames) != shown(out.Frames) {
			others++
		}
	}
	if lowered < 400 || above < 30 || others < 12 {
		t.Errorf("too few: %d lowered, %d above, %d others", lowered, above, others)
	}
}

// Promise 10: classes pass just if they are a right world, and each method that is not abstract passes.
func TestDealtClassesPassAsTheirMethodsDo(t *testing.T) {
	dealt, wrong := dealtWorlds(80)
	passed, refused := 0, 0
	for _, list := range append(append(allRightWorlds(), dealt...), wrong...) {
		list = passing(slices.Clone(list))
		all := model(list)
		world := all.check()
		want := impl.AllOut{Class: world.Class, Code: world.Code}
		for class, c := range list {
			for method, m := range c.Methods {
				if m.Abstract || world.Code != impl.OK {
					same(t, list, m.Name, impl.Check(list, int64(class), int64(method)), impl.CheckOut{Code: impl.ErrForm})
					continue
				}
				out := all.checkMethod(class, method)
				same(t, list, m.Name, impl.Check(list, int64(class), int64(method)), out)
				if out.Code != impl.OK && want.Code == impl.OK {
					want = impl.AllOut{Class: int64(class), Method: int64(method), At: out.At, Code: out.Code}
				}
			}
		}
		same(t, list, "all", impl.CheckAll(list), want)
		if want.Code == impl.OK {
			passed++
		} else if world.Code == impl.OK {
			refused++
		}
	}
	if passed < 30 || refused < 20 {
		t.Errorf("only %d that pass and %d that do not", passed, refused)
	}
}
