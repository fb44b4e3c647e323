package tests

import (
	"math/rand/v2"
	"reflect"
	"slices"
	"strconv"
	"strings"
	"testing"

	"loop.example/g00175/impl"
)

// builtInTold: the built-in classes, as the document tells them.
func builtInTold() []string {
	return strings.Fields("Object Error NullError RangeError CastError MathError FullError DeepError")
}

// worldOf: classes told piece by piece, with a comma and a blank between: class Name Super, field Name
// Type, method Name Desc, each with its flags behind.
func worldOf(told string) []impl.Class {
	var list []impl.Class
	for _, piece := range strings.Split(told, ", ") {
		words := strings.Fields(piece)
		if len(words) == 0 {
			continue
		}
		has := func(flag string) bool { return slices.Contains(words[3:], flag) }
		if words[0] == "class" {
			list = append(list, impl.Class{Name: words[1], Super: words[2], Final: has("final"), Abstract: has("abstract")})
			continue
		}
		c := &list[len(list)-1]
		if words[0] == "field" {
			c.Fields = append(c.Fields, impl.Field{Name: words[1], Type: words[2], Static: has("static")})
			continue
		}
		m := impl.Method{Name: words[1], Desc: words[2], Static: has("static"), Abstract: has("abstract"), Final: has("final")}
		if !m.Abstract {
			m.Locals, m.Code = impl.MaxLocals, []impl.Ins{{Op: 26}}
		}
		c.Methods = append(c.Methods, m)
	}
	return list
}

// plainWorld: so many classes that stand on Object.
func plainWorld(count int) []impl.Class {
	var list []impl.Class
	for i := range count {
		list = append(list, impl.Class{Name: "C" + strconv.Itoa(i), Super: "Object"})
	}
	return list
}

// model answers what chapter 6 asks for by its words, going through the list each time.
type model []impl.Class

func (m model) class(name string) (impl.Class, bool) {
	for _, c := range m {
		if c.Name == name {
			return c, true
		}
	}
	switch slices.Index(builtInTold(), name) {
	case -1:
		return impl.Class{}, false
	case 0:
		return impl.Class{Name: name}, true
	case 1:
		return impl.Class{Name: name, Super: "Object"}, true
	}
	return impl.Class{Name: name, Super: "Error"}, true
}

func (m model) known(name string) bool {
	_, known := m.class(name)
	return known
}

// up: a class and those on which it stands, round and round if it is so, but not for ever.
func (m model) up(name string) []impl.Class {
	var way []impl.Class
	for range 2*impl.MaxClasses + 4 {
		c, known := m.class(name)
		if !known {
			break
		}
		way = append(way, c)
		name = c.Super
	}
	return way
}

func (m model) addFault(at int) int64 {
	if !impl.ClassRight(m[at]) {
		return impl.ErrForm
	}
	if m[:at].known(m[at].Name) {
		return impl.ErrThere
	}
	return impl.OK
}

func (m model) superFault(at int) int64 {
	super, known := m.class(m[at].Super)
	if !known {
		return impl.ErrNone
	}
	if super.Final || slices.Index(builtInTold(), super.Name) > 1 {
		return impl.ErrAccess
	}
	return impl.OK
}

func (m model) typesFault(at int) int64 {
	var texts []string
	for _, f := range m[at].Fields {
		texts = append(texts, f.Type)
	}
	for _, method := range m[at].Methods {
		texts = append(texts, method.Desc)
	}
	for _, text := range texts {
		// In what is right a name stands between L and a semicolon, and nothing else has one.
		for _, piece := range strings.SplitAfter(text, ";") {
			_, name, there := strings.Cut(strings.TrimLeft(piece, "()I["), "L")
			if there && !m.known(strings.TrimSuffix(name, ";")) {
				return impl.ErrName
			}
		}
	}
	return impl.OK
}

func (m model) roundFault(at int) int64 {
	for _, c := range m.up(m[at].Super) {
		if c.Name == m[at].Name {
			return impl.ErrCycle
		}
	}
	return impl.OK
}

func methodIn(c impl.Class, name string, desc string) int {
	return slices.IndexFunc(c.Methods, func(m impl.Method) bool { return m.Name == name && m.Desc == desc })
}

func (m model) methodsFault(at int) int64 {
	c := m[at]
	for _, upper := range m.up(c.Super) {
		for _, above := range upper.Methods {
			own := methodIn(c, above.Name, above.Desc)
			if above.Name == "<init>" {
				continue
			}
			if own >= 0 && (above.Final || above.Static != c.Methods[own].Static) {
				return impl.ErrAccess
			}
			if c.Abstract || !above.Abstract {
				continue
			}
			for _, near := range m.up(c.Name) {
				if place := methodIn(near, above.Name, above.Desc); place >= 0 {
					if near.Methods[place].Abstract {
						return impl.ErrAccess
					}
					break
				}
			}
		}
	}
	return impl.OK
}

func (m model) check() impl.WorldOut {
	if len(m) > impl.MaxClasses {
		return impl.WorldOut{Class: impl.MaxClasses, Code: impl.ErrForm}
	}
	for _, pass := range []func(model, int) int64{
		model.addFault, model.superFault, model.typesFault, model.roundFault, model.methodsFault,
	} {
		for at := range m {
			if code := pass(m, at); code != impl.OK {
				return impl.WorldOut{Class: int64(at), Code: code}
			}
		}
	}
	return impl.WorldOut{}
}

func (m model) fields(name string) []impl.Field {
	c, known := m.class(name)
	if !known {
		return nil
	}
	fields := m.fields(c.Super)
	for _, f := range c.Fields {
		if !f.Static {
			fields = append(fields, f)
		}
	}
	return fields
}

// members: the fields of classes that are static, or those that are not, each with its class.
func members(classes []impl.Class, static bool) []string {
	var list []string
	for _, c := range classes {
		for _, f := range c.Fields {
			if f.Static == static {
				list = append(list, c.Name+"."+f.Name)
			}
		}
	}
	return list
}

func (m model) findField(class, name, text string) impl.Found {
	way := m.up(class)
	for _, c := range way {
		for _, f := range c.Fields {
			if f.Name != name || f.Type != text {
				continue
			}
			all := members(m, true)
			if !f.Static {
				slices.Reverse(way)
				all = members(way, false)
			}
			return impl.Found{Class: c.Name, Place: int64(slices.Index(all, c.Name+"."+name))}
		}
	}
	return impl.Found{Code: impl.ErrNone}
}

func (m model) findMethod(class, name, desc string) impl.Found {
	for _, c := range m.up(class) {
		if place := methodIn(c, name, desc); place >= 0 {
			return impl.Found{Class: c.Name, Place: int64(place)}
		}
		if name == "<init>" {
			if desc == "()V" && slices.Contains(builtInTold(), class) {
				return impl.Found{Class: class, Place: -1}
			}
			break
		}
	}
	return impl.Found{Code: impl.ErrNone}
}

// strangers: texts that are no class of a world.
func strangers() []string {
	return []string{"", "Zed", "object", "Objec", "Objects", "<init>", "LObject;", "a", "A ", "I", "V", "\x00", strings.Repeat("N", 21)}
}

// namesOf: the names of a world, and strangers.
func namesOf(list []impl.Class) []string {
	names := builtInTold()
	for _, c := range list {
		names = append(names, c.Name)
	}
	return append(names, strangers()...)
}

// knownOf: the names that are known in a world.
func knownOf(list []impl.Class) []string {
	return namesOf(list)[:len(builtInTold())+len(list)]
}

// parts: a name, and a type or desc.
type parts struct {
	name string
	text string
}

// fieldParts, methodParts: those of a world's fields, of its methods, and ones that aren't there.
func fieldParts(list []impl.Class) []parts {
	all := []parts{{"", ""}, {"x", "V"}, {"x", "LZed;"}, {"none", "I"}, {"<init>", "()V"}, {"f", "()V"}}
	for _, c := range list {
		for _, f := range c.Fields {
			all = append(all, parts{f.Name, f.Type}, parts{f.Name, "[" + f.Type}, parts{f.Name + "x", f.Type})
		}
	}
	return all
}

func methodParts(list []impl.Class) []parts {
	all := []parts{{"", ""}, {"<init>", "()V"}, {"<init>", "(I)V"}, {"<init>", "()I"}, {"init", "()V"}, {"none", "()V"}, {"x", "I"}}
	for _, c := range list {
		for _, m := range c.Methods {
			all = append(all, parts{m.Name, m.Desc}, parts{m.Name, m.Desc + "I"}, parts{m.Name + "x", m.Desc})
		}
	}
	return all
}

func same[T any](t *testing.T, list []impl.Class, what string, got T, want T) {
	t.Helper()
	if shown(got) != shown(want) {
		t.Fatalf("%s: got %s, want %s\nof %.1000s", what, shown(got), shown(want), shown(list))
	}
}

func checkCode(t *testing.T, what string, list []impl.Class, want impl.WorldOut) {
	t.Helper()
	same(t, list, what, impl.WorldCheck(list), want)
}

// checkAsked holds all that can be asked of a world against what the model says of it.
func checkAsked(t *testing.T, list []impl.Class) {
	t.Helper()
	m := model(list)
	same(t, list, "check", impl.WorldCheck(list), m.check())
	if m.check().Code != impl.OK {
		checkNothingTold(t, list)
		return
	}
	for _, a := range namesOf(list) {
		c, known := m.class(a)
		same(t, list, "known "+a, impl.Known(list, a), known)
		same(t, list, "super "+a, impl.SuperOf(list, a), c.Super)
		same(t, list, "fields "+a, impl.FieldsOf(list, a), m.fields(a))
		for _, b := range namesOf(list) {
			same(t, list, "sub "+a+" "+b, impl.IsSub(list, a, b), known && isOneOf(m.up(a), b))
			same(t, list, "common "+a+" "+b, impl.CommonOf(list, a, b), firstOf(m.up(a), m.up(b)))
		}
		for _, p := range fieldParts(list) {
			same(t, list, "field "+a+" "+shown(p), impl.FindField(list, a, p.name, p.text), m.findField(a, p.name, p.text))
		}
		for _, p := range methodParts(list) {
			same(t, list, "method "+a+" "+shown(p), impl.FindMethod(list, a, p.name, p.text), m.findMethod(a, p.name, p.text))
		}
	}
}

func isOneOf(way []impl.Class, name string) bool {
	return slices.ContainsFunc(way, func(c impl.Class) bool { return c.Name == name })
}

// firstOf: the first class of one way that is on the other, too.
func firstOf(way, other []impl.Class) string {
	for _, c := range way {
		if isOneOf(other, c.Name) {
			return c.Name
		}
	}
	return ""
}

// checkNothingTold: in a world that is not right all that is asked has the zero answer.
func checkNothingTold(t *testing.T, list []impl.Class) {
	t.Helper()
	for _, a := range namesOf(list) {
		same(t, list, "known "+a, impl.Known(list, a), false)
		same(t, list, "super "+a, impl.SuperOf(list, a), "")
		same(t, list, "fields "+a, impl.FieldsOf(list, a), nil)
		for _, b := range []string{a, "Object", "Error", "Zed"} {
			same(t, list, "sub "+a+" "+b, impl.IsSub(list, a, b), false)
			same(t, list, "common "+a+" "+b, impl.CommonOf(list, a, b), "")
		}
		for _, p := range fieldParts(list) {
			same(t, list, "field "+a+" "+shown(p), impl.FindField(list, a, p.name, p.text), impl.Found{})
		}
		for _, p := range methodParts(list) {
			same(t, list, "method "+a+" "+shown(p), impl.FindMethod(list, a, p.name, p.text), impl.Found{})
		}
	}
}

// rightWorlds: right worlds of all kinds.
func rightWorlds() []string {
	return []string{
		"",
		"class A Object",
		"class A Error",
		"class A Object final",
		"class A Object abstract, method f ()V abstract",
		"class B A, class A Object",
		"class C B, class B A, class A Error",
		"class A Object, class B A, class C A, class D B, class E Error, class F C final",
		// A name of a built-in class but for its case, or with more behind.
		"class object Object, class Objects object, class Error2 Error, class NullError2 Error",
		// Types that name classes of the list, ahead or behind, itself, and built-in ones, and lists of them.
		"class A Object, field a LA;, field b [LB;, field c LObject;, field d [LDeepError;, field e [I, method f (I[I[LB;LA;LNullError;)[LError;, class B A, field a LA;, method g ()LB;",
		// Names that read like types.
		"class A Object, field I LI;, class I Object, field V [LV;, class V A, class L V, field L LL;",
		"class A Object, method f ()V, method g ()V static, method <init> ()V, class B A, method f ()V final, method g ()V static final, method <init> ()V, class C B, method f (I)V static, method g (I)V, method <init> ()V",
		"class A Object abstract, method f ()V abstract, class B A, method f ()V",
		"class A Object abstract, method f ()V abstract, class B A abstract, method f ()V abstract, class C B, method f ()V",
		"class A Object abstract, method f ()V abstract, class B A abstract, class C B, method f ()V, class D C",
		"class A Object abstract, method f ()V abstract, class B A abstract, method f ()V final, class C B, class D C final",
		"class A Object, method f ()V, class B A abstract, method f ()V abstract, class C B, method f ()V, class D C",
		"class A Object abstract, method f ()V abstract, method f ()I, class B A, method f ()V",
		// Static and other fields of one name with different types, at several heights.
		"class C B, field x I, field s LA; static, field y [I, class A Object, field x [I static, field y I, field s I static, class B A, field x LB;, field y I static, field z I, field s I, class D C, field x [I, field y LD;, field t I static, class E A, field x I, field t I static",
		"class A Object, field x I, class B A, field x I, field y I, class C B, field y I static, field x I, class D C, field y I, field z I static",
		// Constructors of the class itself, of one above alone.
		"class A Object, method f ()V, method <init> (I)V, class B A, method <init> (LA;)V, class C B, class D C, method <init> ()V, class E Error",
	}
}

// deepWorld: a right world of MaxClasses classes, each on the next one in the list.
func deepWorld() []impl.Class {
	list := plainWorld(impl.MaxClasses)
	for i := range list {
		if i > 0 {
			list[i-1].Super = list[i].Name
		}
		list[i].Fields = []impl.Field{{Name: "x", Type: "I", Static: i%3 == 0}, {Name: "y" + strconv.Itoa(i), Type: "I", Static: i%3 == 1}, {Name: "z", Type: "[I"}}
		m := plainMethod()
		m.Name = "m" + strconv.Itoa(i/2)
		list[i].Methods = []impl.Method{m}
	}
	return list
}

func allRightWorlds() [][]impl.Class {
	worlds := [][]impl.Class{nil, {}, plainWorld(impl.MaxClasses), deepWorld()}
	for _, told := range rightWorlds() {
		worlds = append(worlds, worldOf(told))
	}
	return worlds
}

func TestRightWorlds(t *testing.T) {
	for _, list := range allRightWorlds() {
		checkCode(t, "right", list, impl.WorldOut{})
		checkAsked(t, list)
		back := slices.Clone(list)
		slices.Reverse(back)
		checkCode(t, "right the other way round", back, impl.WorldOut{})
		checkAsked(t, back)
	}
}

func TestBuiltInClasses(t *testing.T) {
	first := impl.BuiltIn()
	if !slices.Equal(first, builtInTold()) {
		t.Errorf("built in: %q", first)
	}
	clear(first)
	if !slices.Equal(impl.BuiltIn(), builtInTold()) || impl.SuperOf(nil, "DeepError") != "Error" {
		t.Errorf("an answer shares its memory: %q", impl.BuiltIn())
	}
	for i, name := range builtInTold() {
		super := "Error"
		if i < 2 {
			super = []string{"", "Object"}[i]
		}
		same(t, nil, "super of "+name, impl.SuperOf(nil, name), super)
		same(t, nil, "fields of "+name, len(impl.FieldsOf(nil, name)), 0)
		same(t, nil, "constructor of "+name, impl.FindMethod(nil, name, "<init>", "()V"), impl.Found{Class: name, Place: -1})
		same(t, nil, "another one of "+name, impl.FindMethod(nil, name, "<init>", "(I)V"), impl.Found{Code: impl.ErrNone})
		same(t, nil, "a method of "+name, impl.FindMethod(nil, name, "f", "()V"), impl.Found{Code: impl.ErrNone})
		same(t, nil, "a field of "+name, impl.FindField(nil, name, "x", "I"), impl.Found{Code: impl.ErrNone})
	}
}

func TestWorldsLimits(t *testing.T) {
	tooMany := impl.WorldOut{Class: impl.MaxClasses, Code: impl.ErrForm}
	checkCode(t, "10", plainWorld(impl.MaxClasses), impl.WorldOut{})
	checkCode(t, "11", plainWorld(impl.MaxClasses+1), tooMany)
	checkCode(t, "11 that are nothing", make([]impl.Class, impl.MaxClasses+1), tooMany)
	checkCode(t, "11 of one name", slices.Repeat(plainWorld(1), impl.MaxClasses+1), tooMany)
	checkCode(t, "400", plainWorld(impl.MaxList), tooMany)
	checkCode(t, "401", plainWorld(impl.MaxList+1), impl.WorldOut{Code: impl.ErrSize})
	checkCode(t, "401 that are nothing", make([]impl.Class, impl.MaxList+1), impl.WorldOut{Code: impl.ErrSize})
	for _, count := range []int{impl.MaxClasses + 1, impl.MaxList} {
		checkNothingTold(t, plainWorld(count))
	}
	checkTooMuch(t, plainWorld(impl.MaxList+1), "C0", "f", "()V")
	checkTooMuch(t, plainWorld(impl.MaxList+1), "", "", "")
}

// checkTooMuch: a call to which too much is handed in.
func checkTooMuch(t *testing.T, list []impl.Class, a string, b string, c string) {
	t.Helper()
	few := list[:min(len(list), 3)]
	same(t, few, "field", impl.FindField(list, a, b, c), impl.Found{Code: impl.ErrSize})
	same(t, few, "method", impl.FindMethod(list, a, b, c), impl.Found{Code: impl.ErrSize})
	same(t, few, "sub", impl.IsSub(list, a, b), false)
	same(t, few, "common", impl.CommonOf(list, a, b), "")
	if len(list) > impl.MaxList || len(a) > impl.MaxBytes {
		same(t, few, "known", impl.Known(list, a), false)
		same(t, few, "super", impl.SuperOf(list, a), "")
		same(t, few, "fields", len(impl.FieldsOf(list, a)), 0)
	}
}

func TestLongTextsAskedOfWorlds(t *testing.T) {
	most, more := strings.Repeat("N", impl.MaxBytes), strings.Repeat("N", impl.MaxBytes+1)
	right := worldOf("class A Object, field x I, method f ()V")
	wrong := worldOf("class A B")
	for _, list := range [][]impl.Class{nil, right, wrong, plainWorld(impl.MaxClasses + 1), plainWorld(impl.MaxList + 1)} {
		checkTooMuch(t, list, more, "x", "I")
		checkTooMuch(t, list, "A", more, "I")
		same(t, nil, "field", impl.FindField(list, "A", "x", more), impl.Found{Code: impl.ErrSize})
		same(t, nil, "method", impl.FindMethod(list, "A", "f", more), impl.Found{Code: impl.ErrSize})
	}
	none := impl.Found{Code: impl.ErrNone}
	for at := range 3 {
		texts := []string{"A", "x", "I"}
		texts[at] = most
		same(t, right, "field", impl.FindField(right, texts[0], texts[1], texts[2]), none)
		same(t, right, "method", impl.FindMethod(right, texts[0], texts[1], texts[2]), none)
		same(t, wrong, "field", impl.FindField(wrong, texts[0], texts[1], texts[2]), impl.Found{})
		same(t, wrong, "method", impl.FindMethod(wrong, texts[0], texts[1], texts[2]), impl.Found{})
	}
	same(t, right, "known", impl.Known(right, most), false)
}

// wrongWorld: a world with a fault, and the class at which it is seen.
type wrongWorld struct {
	told  string
	class int64
	code  int64
}

// wrongWorlds: by the pass that finds the fault.
func wrongWorlds() [][]wrongWorld {
	worlds := [][]wrongWorld{{
		{"class A Object final abstract", 0, impl.ErrForm},
		{"class A A", 0, impl.ErrForm},
		{"class A Object, class B Object, field x V", 1, impl.ErrForm},
		{"class A Object, method f ()V abstract", 0, impl.ErrForm},
		{"class A Object, class A Object", 1, impl.ErrThere},
		{"class A Object, class B Object, class A B", 2, impl.ErrThere},
	}, {
		{"class A Zed", 0, impl.ErrNone},
		{"class A Object, class B object", 1, impl.ErrNone},
		{"class A Object final, class B A", 1, impl.ErrAccess},
		{"class B A, class A Object final", 0, impl.ErrAccess},
	}, {
		{"class A Object, field x LZed;", 0, impl.ErrName},
		{"class A Object, class B A, field x I, field y [LZed;", 1, impl.ErrName},
		{"class A Object, field x LZed; static", 0, impl.ErrName},
		{"class A Object, method f ()LZed;", 0, impl.ErrName},
		{"class A Object, method f ()[LZed;", 0, impl.ErrName},
		{"class A Object, method f (LZed;)V", 0, impl.ErrName},
		{"class A Object, method f ()V, method g (ILA;[I[LA;LObject;II[LZed;)V static", 0, impl.ErrName},
		{"class A Object abstract, method f (I[LZed;I)V abstract", 0, impl.ErrName},
		{"class A Object, method <init> (LZed;)V", 0, impl.ErrName},
		{"class A Object, field x LObjec;", 0, impl.ErrName},
	}, {
		{"class A B, class B A", 0, impl.ErrCycle},
		{"class A B, class B C, class C A", 0, impl.ErrCycle},
		{"class D A, class A B, class B C, class C A", 1, impl.ErrCycle},
		{"class E D, class D B, class C Object, class A B, class B A", 3, impl.ErrCycle},
		{"class A Object, class D A, class C B, class B C", 2, impl.ErrCycle},
	}, {
		{"class A Object, method f ()V final, class B A, method f ()V", 1, impl.ErrAccess},
		{"class A Object, method f ()V static final, class B A, method f ()V static", 1, impl.ErrAccess},
		{"class A Object, method f ()V final, class B A, class C B, method f ()V final", 2, impl.ErrAccess},
		{"class A Object, method f ()V static, class B A, method f ()V", 1, impl.ErrAccess},
		{"class A Object, method f ()V, class B A, method f ()V static", 1, impl.ErrAccess},
		{"class A Object, method f ()V, class B A, method g ()V, class C B, method g (I)V, method f ()V static", 2, impl.ErrAccess},
		{"class A Object abstract, method f ()V abstract, class B A, method f ()V static", 1, impl.ErrAccess},
		{"class A Object abstract, method f ()V abstract, class B A abstract, method f ()V static", 1, impl.ErrAccess},
		{"class A Object, method f ()V final, class B A abstract, method f ()V abstract", 1, impl.ErrAccess},
		{"class A Object abstract, method f ()V abstract, class B A", 1, impl.ErrAccess},
		{"class A Object abstract, method f ()V abstract, class B A final", 1, impl.ErrAccess},
		{"class A Object abstract, method f ()V abstract, class B A, method f (I)V, method g ()V", 1, impl.ErrAccess},
		{"class A Object abstract, method f ()V abstract, class B A abstract, class C B", 2, impl.ErrAccess},
		{"class A Object abstract, method f ()V abstract, class B A abstract, method f ()V abstract, class C B", 2, impl.ErrAccess},
		// Written between, and abstract again below.
		{"class A Object, method f ()V, class B A abstract, method f ()V abstract, class C B", 2, impl.ErrAccess},
		{"class A Object abstract, method f ()V abstract, class B A abstract, method f ()V, class C B abstract, method f ()V abstract, class D C", 3, impl.ErrAccess},
		// What stands between is at fault, too, but comes later.
		{"class C B, method f ()V, class B A, method f ()V, class A Object, method f ()V final", 0, impl.ErrAccess},
		{"class C B, method f ()V, class B A, method f ()V static, class A Object, method f ()V static", 0, impl.ErrAccess},
		{"class C B, class B A, class A Object abstract, method f ()V abstract", 0, impl.ErrAccess},
	}}
	for i, name := range builtInTold() {
		if i > 0 {
			worlds[0] = append(worlds[0], wrongWorld{"class A Object, class " + name + " Object", 1, impl.ErrThere})
		}
		if i > 1 {
			worlds[1] = append(worlds[1], wrongWorld{"class A Object, class B A, class C " + name, 2, impl.ErrAccess})
		}
	}
	worlds[0] = append(worlds[0], wrongWorld{"class Object Error", 0, impl.ErrThere}, wrongWorld{"class A Object, class Object A", 1, impl.ErrThere})
	return worlds
}

func TestWrongWorlds(t *testing.T) {
	for _, pass := range wrongWorlds() {
		for _, w := range pass {
			list := worldOf(w.told)
			checkCode(t, w.told, list, impl.WorldOut{Class: w.class, Code: w.code})
			same(t, list, "the model of "+w.told, model(list).check(), impl.WorldOut{Class: w.class, Code: w.code})
			checkNothingTold(t, list)
		}
	}
}

func TestClassesThatAreNotRightInAWorld(t *testing.T) {
	for at := range impl.MaxClasses {
		list := plainWorld(impl.MaxClasses)
		c := fullClass()
		c.Methods[2].Stack = -1
		list[at] = c
		checkCode(t, "not right", list, impl.WorldOut{Class: int64(at), Code: impl.ErrForm})
		list[at] = impl.Class{}
		checkCode(t, "nothing", list, impl.WorldOut{Class: int64(at), Code: impl.ErrForm})
		list[at] = impl.Class{Name: strings.Repeat("N", impl.MaxBytes+1), Super: "Object"}
		checkCode(t, "a long name", list, impl.WorldOut{Class: int64(at), Code: impl.ErrForm})
	}
}

// named: a world with other names of its own classes.
func named(told string, from string, to string) string {
	words := strings.Split(told, " ")
	for i, word := range words {
		rest := strings.TrimSuffix(word, ",")
		if len(rest) == 1 && strings.Contains(from, rest) {
			words[i] = strings.Replace(word, rest, to[strings.Index(from, rest):][:1], 1)
		}
		words[i] = strings.ReplaceAll(words[i], "LA;", "L"+to[:1]+";")
	}
	return strings.Join(words, " ")
}

// Of two faults in one list the one that an earlier pass sees is named, or of one pass the earlier class's.
func TestOfTwoFaultsInOneWorldTheFirstIsNamed(t *testing.T) {
	passes := wrongWorlds()
	for i, earlier := range passes {
		for j, later := range passes {
			for _, a := range earlier {
				for _, b := range later {
					checkTwoFaults(t, a, b, i <= j)
				}
			}
		}
	}
}

func checkTwoFaults(t *testing.T, a wrongWorld, b wrongWorld, firstNamed bool) {
	t.Helper()
	other := named(b.told, "ABCDE", "PQRST")
	list := append(worldOf(a.told), worldOf(other)...)
	want := impl.WorldOut{Class: a.class, Code: a.code}
	if !firstNamed {
		want = impl.WorldOut{Class: int64(len(worldOf(a.told))) + b.class, Code: b.code}
	}
	checkCode(t, a.told+" | "+other, list, want)
}

// Both faults in one class: the one that is named first.
func TestTwoFaultsInOneClass(t *testing.T) {
	for told, code := range map[string]int64{
		"class Object Object":                                                   impl.ErrForm,
		"class Error Zed final abstract":                                        impl.ErrForm,
		"class NullError Zed":                                                   impl.ErrThere,
		"class Error NullError, field x LZed;":                                  impl.ErrThere,
		"class A Zed, field x LZed;":                                            impl.ErrNone,
		"class A Zed, method f (LZed;)V":                                        impl.ErrNone,
		"class A MathError, field x LZed;":                                      impl.ErrAccess,
		"class A B, field x LZed;, class B A":                                   impl.ErrName,
		"class A B, method f ()V, class B A, method f ()V":                      impl.ErrCycle,
		"class A B, class B A abstract, method f ()V abstract":                  impl.ErrCycle,
		"class A B, method f (LZed;)V, class B Object, method f (LZed;)V final": impl.ErrName,
	} {
		checkCode(t, told, worldOf(told), impl.WorldOut{Code: code})
	}
	twice := append(plainWorld(1), impl.Class{Name: "C0", Super: "C0"})
	checkCode(t, "not right, and there", twice, impl.WorldOut{Class: 1, Code: impl.ErrForm})
	slices.Reverse(twice)
	checkCode(t, "not right, ahead of one of its name", twice, impl.WorldOut{Code: impl.ErrForm})
}

// What instructions and handlers name is looked for by the check of methods, not here.
func TestInstructionsMayNameWhatIsNotThere(t *testing.T) {
	list := []impl.Class{fullClass()}
	checkCode(t, "instructions", list, impl.WorldOut{})
	checkAsked(t, list)
	list[0].Methods[2].Code[4].Desc = "(LZed;)[LZed;"
	checkCode(t, "an instruction's desc", list, impl.WorldOut{})
}

// All ways in which up to four classes can stand on each other and on others.
func TestWorldsByWhatTheyStandOn(t *testing.T) {
	supers := strings.Fields("A B C D Object Error CastError Zed")
	for count := 1; count <= 4; count++ {
		ways := 1
		for range count {
			ways *= len(supers)
		}
		for way := range ways {
			var list []impl.Class
			for i, rest := 0, way; i < count; i, rest = i+1, rest/len(supers) {
				list = append(list, impl.Class{Name: supers[i], Super: supers[rest%len(supers)]})
			}
			checkCode(t, "supers", list, model(list).check())
		}
	}
}

// All ways in which three classes, one on the other and in any order, can have a method of one name.
func TestWorldsByTheirMethods(t *testing.T) {
	kinds := []string{"", "f ()V", "f ()V static", "f ()V final", "f ()V static final", "f ()V abstract", "f (I)V final", "<init> ()V"}
	orders := [][3]int{{0, 1, 2}, {0, 2, 1}, {1, 0, 2}, {1, 2, 0}, {2, 0, 1}, {2, 1, 0}}
	seen := map[int64]int{}
	for way := range len(kinds) * len(kinds) * len(kinds) * 8 {
		var told [3]string
		rest := way
		for i, head := range []string{"class A Object", "class B A", "class C B"} {
			told[i] = head
			if rest%2 == 1 {
				told[i] += " abstract"
			}
			if kind := kinds[rest/2%len(kinds)]; kind != "" {
				told[i] += ", method " + kind
			}
			rest /= 2 * len(kinds)
		}
		for _, order := range orders {
			list := worldOf(told[order[0]] + ", " + told[order[1]] + ", " + told[order[2]])
			want := model(list).check()
			seen[want.Code]++
			checkCode(t, "methods", list, want)
		}
	}
	if seen[impl.OK] < 1000 || seen[impl.ErrAccess] < 1000 || seen[impl.ErrForm] < 1000 {
		t.Errorf("too few of a kind: %v", seen)
	}
}

// dealtWorld: a world dealt from a source of numbers, mostly right.
func dealtWorld(r *rand.Rand) []impl.Class {
	heads := strings.Fields("A B C D E F G")
	pick := func(list ...string) string { return list[r.IntN(len(list))] }
	names := heads[:1+r.IntN(len(heads))]
	types := append([]string{"I", "[I", "LObject;", "I", "I"}, "L"+pick(names...)+";", "[L"+pick(names...)+";")
	var list []impl.Class
	for i, name := range names {
		told := "class " + name + " " + pick(append(slices.Clone(names[:i]), "Object", "Error")...) + pick("", "", " abstract", "")
		for _, field := range []string{"x", "y", "z"}[r.IntN(4):] {
			told += ", field " + field + " " + pick(types...) + pick("", " static")
		}
		for _, method := range []string{"f", "g", "<init>"}[r.IntN(4):] {
			told += ", method " + method + " (" + pick(types...) + ")V"
			if method == "g" {
				told += " static"
			}
			if method == "f" {
				told += pick("", "", "", " final", " abstract")
			}
		}
		list = append(list, worldOf(told)...)
	}
	r.Shuffle(len(list), func(i, j int) { list[i], list[j] = list[j], list[i] })
	if r.IntN(8) == 0 {
		list[r.IntN(len(list))].Super = pick(append(slices.Clone(heads), "Zed", "FullError")...)
	}
	return list
}

// dealtWorlds: so many right ones among those dealt, the same each time, and what the others tell.
func dealtWorlds(count int) (right [][]impl.Class, wrong [][]impl.Class) {
	r := rand.New(rand.NewPCG(1, 2))
	for len(right) < count {
		list := dealtWorld(r)
		if model(list).check().Code == impl.OK {
			right = append(right, list)
		} else {
			wrong = append(wrong, list)
		}
	}
	return right, wrong
}

func TestDealtWorlds(t *testing.T) {
	right, wrong := dealtWorlds(40)
	for _, list := range right {
		checkAsked(t, list)
	}
	for _, list := range wrong {
		checkCode(t, "dealt", list, model(list).check())
	}
	if len(wrong) < 8 {
		t.Errorf("only %d wrong ones", len(wrong))
	}
}

// Promise 5: to stand on goes on upwards and never round.
func TestToStandOnGoesOnUpwards(t *testing.T) {
	dealt, _ := dealtWorlds(60)
	for _, list := range append(allRightWorlds(), dealt...) {
		names := knownOf(list)
		for _, a := range names {
			same(t, list, a+" is itself", impl.IsSub(list, a, a), true)
			same(t, list, a+" on Object", impl.IsSub(list, a, "Object"), true)
			checkWay(t, list, a)
			for _, b := range names {
				if a != b && impl.IsSub(list, a, b) {
					same(t, list, b+" on "+a+" and the other way", impl.IsSub(list, b, a), false)
					same(t, list, a+" goes on to "+b, impl.IsSub(list, impl.SuperOf(list, a), b), true)
				}
			}
		}
	}
}

// checkWay: going up from a class ends at Object, and never meets a class again.
func checkWay(t *testing.T, list []impl.Class, name string) {
	t.Helper()
	first := name
	var way []string
	for ; name != "Object"; name = impl.SuperOf(list, name) {
		if !impl.Known(list, name) || slices.Contains(way, name) {
			t.Fatalf("from %s: %q comes behind %q in %s", first, name, way, shown(list))
		}
		way = append(way, name)
		same(t, list, first+" is on "+name, impl.IsSub(list, first, name), true)
	}
	same(t, list, "above Object", impl.SuperOf(list, "Object"), "")
}

// Promise 5: two classes that are known have a least one above both.
func TestTwoClassesHaveALeastOneAboveBoth(t *testing.T) {
	dealt, _ := dealtWorlds(20)
	for _, list := range append(allRightWorlds(), dealt...) {
		names := knownOf(list)
		above := map[string][]string{}
		for _, a := range names {
			for _, b := range names {
				if impl.IsSub(list, a, b) {
					above[a] = append(above[a], b)
				}
			}
		}
		for _, a := range names {
			for _, b := range names {
				c := impl.CommonOf(list, a, b)
				same(t, list, "the other way round of "+a+" "+b, impl.CommonOf(list, b, a), c)
				if !slices.Contains(above[a], c) || !slices.Contains(above[b], c) {
					t.Errorf("%q is not above %s and %s in %s", c, a, b, shown(list))
				}
				for _, d := range above[a] {
					if slices.Contains(above[b], d) && !slices.Contains(above[c], d) {
						t.Errorf("%s above %s and %s is not above %s in %s", d, a, b, c, shown(list))
					}
				}
			}
		}
	}
}

// Promise 6: fields stand behind those above, each at the place at which it is found.
func TestFieldsStandBehindThoseAbove(t *testing.T) {
	dealt, _ := dealtWorlds(60)
	for _, list := range append(allRightWorlds(), dealt...) {
		var statics []impl.Field
		for _, c := range list {
			above := impl.FieldsOf(list, c.Super)
			for _, f := range c.Fields {
				found := impl.Found{Class: c.Name, Place: int64(len(above))}
				if f.Static {
					found.Place = int64(len(statics))
					statics = append(statics, f)
				} else {
					above = append(above, f)
				}
				same(t, list, "field "+c.Name+" "+f.Name, impl.FindField(list, c.Name, f.Name, f.Type), found)
			}
			same(t, list, "fields "+c.Name, impl.FieldsOf(list, c.Name), above)
		}
	}
}

// Promise 6: a method found is the nearest one.
func TestAMethodFoundIsTheNearest(t *testing.T) {
	dealt, _ := dealtWorlds(60)
	for _, list := range append(allRightWorlds(), dealt...) {
		for _, name := range knownOf(list) {
			for _, p := range methodParts(list) {
				found := impl.FindMethod(list, name, p.name, p.text)
				checkNearest(t, list, name, p, found)
			}
		}
	}
}

func checkNearest(t *testing.T, list []impl.Class, name string, p parts, found impl.Found) {
	t.Helper()
	if found.Code == impl.OK && found.Place == -1 {
		same(t, list, "built in", []any{p, slices.Contains(builtInTold(), name)}, []any{parts{"<init>", "()V"}, true})
		return
	}
	for at := name; at != found.Class && at != "Object"; at = impl.SuperOf(list, at) {
		c, _ := model(list).class(at)
		if methodIn(c, p.name, p.text) >= 0 && (p.name != "<init>" || at == name) {
			t.Errorf("from %s: %v of %s is passed by for %v in %s", name, p, at, found, shown(list))
		}
	}
	if found.Code != impl.OK {
		same(t, list, "none", found, impl.Found{Code: impl.ErrNone})
		return
	}
	c, _ := model(list).class(found.Class)
	m := c.Methods[found.Place]
	same(t, list, "the method found", parts{m.Name, m.Desc}, p)
}

func TestConstructorsAreFoundInTheClassItselfAlone(t *testing.T) {
	list := worldOf("class A Object, method f ()V, method <init> (I)V, class B A, method <init> ()V, class C B, class D Error")
	none := impl.Found{Code: impl.ErrNone}
	for _, c := range []struct {
		class string
		desc  string
		want  impl.Found
	}{
		{"A", "(I)V", impl.Found{Class: "A", Place: 1}}, {"A", "()V", none},
		{"B", "()V", impl.Found{Class: "B"}}, {"B", "(I)V", none},
		{"C", "()V", none}, {"C", "(I)V", none},
		{"D", "()V", none}, {"Zed", "()V", none}, {"", "()V", none},
		{"Object", "()V", impl.Found{Class: "Object", Place: -1}}, {"Object", "(I)V", none}, {"Object", "()I", none}, {"Object", "", none},
		{"DeepError", "()V", impl.Found{Class: "DeepError", Place: -1}},
	} {
		same(t, list, c.class+c.desc, impl.FindMethod(list, c.class, "<init>", c.desc), c.want)
	}
	same(t, list, "a method above", impl.FindMethod(list, "C", "f", "()V"), impl.Found{Class: "A"})
}

func TestPlacesOfFields(t *testing.T) {
	// C on B on A; the list's order is C, A, B, D.
	list := worldOf("class C B, field x I, field s LA; static, field y [I, " +
		"class A Object, field x [I static, field y I, field s I static, " +
		"class B A, field x LB;, field y I static, field z I, field s I, " +
		"class D Object, field q I static")
	for told, want := range map[string]impl.Found{
		"C x I":   {Class: "C", Place: 4},
		"C x LB;": {Class: "B", Place: 1},
		"C x [I":  {Class: "A", Place: 1},
		"C s LA;": {Class: "C", Place: 0},
		"C s I":   {Class: "B", Place: 3},
		"C y [I":  {Class: "C", Place: 5},
		"C y I":   {Class: "B", Place: 3},
		"C z I":   {Class: "B", Place: 2},
		"B s I":   {Class: "B", Place: 3},
		"B y I":   {Class: "B", Place: 3},
		"A y I":   {Class: "A", Place: 0},
		"A s I":   {Class: "A", Place: 2},
		"D q I":   {Class: "D", Place: 4},
		"A x I":   {Code: impl.ErrNone},
		"B x I":   {Code: impl.ErrNone},
		"C q I":   {Code: impl.ErrNone},
		"D y I":   {Code: impl.ErrNone},
		"Zed y I": {Code: impl.ErrNone},
		"C x V":   {Code: impl.ErrNone},
	} {
		words := strings.Fields(told)
		same(t, list, told, impl.FindField(list, words[0], words[1], words[2]), want)
	}
	same(t, list, "fields", impl.FieldsOf(list, "C"), worldOf("class A Object, field y I, field x LB;, field z I, field s I, field x I, field y [I")[0].Fields)
}

func TestWorldsShareNothing(t *testing.T) {
	told := rightWorlds()[9]
	list := worldOf(told)
	fields := impl.FieldsOf(list, "B")
	if len(fields) < 2 {
		t.Fatalf("too few fields: %v", fields)
	}
	clear(fields)
	checkAsked(t, list)
	if !reflect.DeepEqual(list, worldOf(told)) {
		t.Errorf("changed: %s", shown(list))
	}
	before := impl.FieldsOf(list, "B")
	clear(list[0].Fields)
	clear(list[1].Fields)
	if shown(before) != shown(impl.FieldsOf(worldOf(told), "B")) {
		t.Errorf("an answer is changed with the list: %v", before)
	}
	same(t, list, "nothing is kept", impl.WorldCheck(list), impl.WorldOut{Code: impl.ErrForm})
}
