package bag_test

import (
	"fmt"
	"math"
	"reflect"
	"slices"
	"testing"

	"drover/api"
	"drover/bag"
)

// The rules that hold everywhere, P1 and the bound, for this package. (R5 stands behind P4.2, where the chapter names it too.)

const spare = 8

// lists: all lists that lie in v, in a fixed order.
func lists(v reflect.Value) []reflect.Value {
	var l []reflect.Value
	switch v.Kind() {
	case reflect.Struct:
		for i := range v.NumField() {
			l = append(l, lists(v.Field(i))...)
		}
	case reflect.Slice:
		l = append(l, v)
		for i := range v.Len() {
			l = append(l, lists(v.Index(i))...)
		}
	}
	return l
}

func listsOf(m *api.Msg) []reflect.Value { return lists(reflect.ValueOf(m).Elem()) }

// filler: an item of a list that is like none in whole.
func filler(kind reflect.Type) reflect.Value {
	v := reflect.New(kind).Elem()
	switch kind {
	case reflect.TypeFor[int]():
		v.SetInt(777)
	case reflect.TypeFor[api.Step]():
		v.Set(reflect.ValueOf(api.Step{Name: "filler", Stub: 777}))
	case reflect.TypeFor[api.Op]():
		v.Set(reflect.ValueOf(op(777, "filler")))
	}
	return v
}

// roomy: whole, its lists with filled room behind their ends; the second answer is those lists, room and all.
func roomy() (api.Msg, []reflect.Value) {
	m := whole()
	var all []reflect.Value
	widen := func(list reflect.Value) {
		n := list.Len()
		wide := reflect.MakeSlice(list.Type(), n+spare, n+spare)
		reflect.Copy(wide, list)
		for i := range spare {
			wide.Index(n + i).Set(filler(list.Type().Elem()))
		}
		list.Set(wide.Slice(0, n))
		all = append(all, wide)
	}
	v := reflect.ValueOf(&m).Elem()
	widen(v.FieldByName("Ops")) // ahead of the lists that lie in it, since it is made anew
	widen(v.FieldByName("Incs"))
	widen(v.FieldByName("Op").FieldByName("Def").FieldByName("Steps"))
	for i := range m.Ops {
		widen(v.FieldByName("Ops").Index(i).FieldByName("Def").FieldByName("Steps"))
	}
	return m, all
}

// picture: what lists hold, as a text.
func picture(l []reflect.Value) string {
	s := ""
	for _, v := range l {
		s += fmt.Sprintf("%v;", v.Interface())
	}
	return s
}

// scribble writes over all lists of m, what lies in them, and the room behind their ends.
func scribble(m api.Msg) {
	l := listsOf(&m)
	slices.Reverse(l) // what lies within first, as it is not found any more when its list is written over
	for _, v := range l {
		v = v.Slice(0, v.Cap())
		for i := range v.Len() {
			v.Index(i).Set(filler(v.Type().Elem()))
		}
	}
}

// told: the ways by which a message comes out of a Bag, each of a Bag that holds m alone, by number 1.
func told() map[string]func(t *testing.T, b *bag.Bag) api.Msg {
	return map[string]func(t *testing.T, b *bag.Bag) api.Msg{
		"Look": func(t *testing.T, b *bag.Bag) api.Msg {
			m, ok := b.Look(1)
			if !ok {
				t.Error("Look: false")
			}
			return m
		},
		"Take": func(t *testing.T, b *bag.Bag) api.Msg {
			m, err := b.Take(1)
			if err != api.OK {
				t.Errorf("Take: %v", err)
			}
			return m
		},
		"Twice": func(t *testing.T, b *bag.Bag) api.Msg {
			id, err := b.Twice(1)
			m, ok := b.Look(id)
			if err != api.OK || !ok {
				t.Errorf("Twice: %v", err)
			}
			return m
		},
	}
}

// R1, P1

func numbers() []int {
	return []int{0, 1, 2, 3, -1, 10000, 10001, math.MaxInt32, math.MinInt32, 1 << 40, math.MaxInt, math.MinInt}
}

func TestEveryCallEnds(t *testing.T) {
	var zero bag.Bag
	messages := append(longer(), api.Msg{}, whole(), api.Msg{Ops: make([]api.Op, 3000), Incs: make([]int, 3000)})
	for _, n := range numbers() {
		messages = append(messages, api.Msg{Kind: n, From: n, To: n, View: n, Num: n, Nonce: n, Incs: []int{n}, Op: api.Op{Kind: n, Def: api.Def{Name: "\xff\x00", Steps: []api.Step{{Name: "\xff", Stub: n}}}}})
	}
	bags := []*bag.Bag{nil, &zero, new(bag.Bag)}
	for _, n := range numbers() {
		bags = append(bags, bag.New(n))
	}
	for _, b := range bags {
		for _, m := range messages {
			b.Put(m)
			bag.Same(m, messages[0])
			bag.Copy(m)
		}
		for _, n := range numbers() {
			b.Look(n)
			b.Twice(n)
			b.To(n)
			b.Take(n)
			b.Ids()
			b.Clear(n)
		}
	}
}

// R2, R7

func TestAnErrorChangesNothing(t *testing.T) {
	for _, most := range []int{3, 4} {
		b := three(t, most)
		for _, id := range absent() {
			b.Take(id)
			b.Twice(id)
			b.Look(id)
		}
		if most == 3 {
			b.Put(whole())
			b.Twice(1)
			b.Twice(3)
			b.Take(3) // so that there is room for one more
		}
		if id := put(t, b, to(5, 5)); id != 4 {
			t.Errorf("behind errors the next number is %d, want 4", id)
		}
		b.Take(3)
		holds(t, b, 1, 2, 4)
		for id, want := range map[int]api.Msg{1: to(1, 1), 2: to(2, 2), 4: to(5, 5)} {
			if m, ok := b.Look(id); !ok || !alike(m, want) {
				t.Errorf("behind errors message %d is %v, %v", id, m, ok)
			}
		}
	}
}

func TestTheFirstErrorIsTold(t *testing.T) {
	full := three(t, 3)
	var zero bag.Bag
	for _, c := range []struct {
		b    *bag.Bag
		id   int
		want api.Errno
	}{
		{nil, 1, api.ErrMade}, {nil, 0, api.ErrMade}, {&zero, 1, api.ErrMade}, {&zero, -1, api.ErrMade},
		{full, 4, api.ErrNone}, {full, 0, api.ErrNone}, {full, 1, api.ErrFull}, {full, 3, api.ErrFull},
		{bag.New(0), 1, api.ErrNone},
	} {
		if id, err := c.b.Twice(c.id); id != 0 || err != c.want {
			t.Errorf("Twice(%d): %d, %v, want %v", c.id, id, err, c.want)
		}
	}
	if id, err := zero.Put(api.Msg{}); id != 0 || err != api.ErrMade {
		t.Errorf("Put of a zero value: %d, %v", id, err)
	}
	if id, err := bag.New(0).Put(api.Msg{}); id != 0 || err != api.ErrFull {
		t.Errorf("Put of a Bag for none: %d, %v", id, err)
	}
}

// R3

func TestNothingHandedInIsChanged(t *testing.T) {
	m, room := roomy()
	before := picture(room)
	b := bag.New(9)
	put(t, b, m)
	b.Twice(1)
	b.Look(1)
	b.To(4)
	x, _ := b.Take(1)
	bag.Copy(m)
	bag.Same(m, x)
	bag.Same(x, m)
	b.Clear(4)
	if !alike(m, whole()) || picture(room) != before {
		t.Errorf("what was handed in became %v; %s", m, picture(room))
	}
}

func TestSameLooksNotBehindAListsEnd(t *testing.T) {
	m, _ := roomy()
	if !bag.Same(m, whole()) || !bag.Same(whole(), m) {
		t.Error("the room behind a list's end is held against another's")
	}
}

func TestABagKeepsNothingThatItWasHanded(t *testing.T) {
	for name, tell := range told() {
		m, _ := roomy()
		b := bag.New(9)
		put(t, b, m)
		scribble(m)
		if got := tell(t, b); !alike(got, whole()) {
			t.Errorf("%s of what was written over behind Put: %v", name, got)
		}
	}
}

func TestABagKeepsNothingThatItTold(t *testing.T) {
	for name, tell := range told() {
		b := bag.New(9)
		put(t, b, whole())
		b.Twice(1)
		b.Twice(2)
		scribble(tell(t, b))
		for _, id := range b.Ids() {
			if m, ok := b.Look(id); !ok || !alike(m, whole()) {
				t.Errorf("behind %s message %d is %v", name, id, m)
			}
		}
	}
}

func TestWhatIsToldLastsWhateverIsCalled(t *testing.T) {
	for name, tell := range told() {
		m, room := roomy()
		before := picture(room)
		b := bag.New(3)
		put(t, b, m)
		got := tell(t, b)
		for range 20 {
			b.Put(to(4, 1))
			b.Twice(b.Ids()[0])
			other, _ := b.Take(b.Ids()[0])
			scribble(other)
			b.Clear(4)
			b.Put(to(1, 1))
		}
		if !alike(got, whole()) {
			t.Errorf("what %s told became %v", name, got)
		}
		scribble(got)
		if picture(room) != before {
			t.Errorf("what %s told shares memory with what was put", name)
		}
	}
}

func TestCopyIsNewMemory(t *testing.T) {
	m, room := roomy()
	before := picture(room)
	got, other := bag.Copy(m), bag.Copy(m)
	scribble(got)
	if picture(room) != before || !alike(other, whole()) {
		t.Error("a Copy shares memory with what it is one of, or with another")
	}
	scribble(m)
	if !alike(other, whole()) {
		t.Errorf("what was copied was written over: its Copy is %v", other)
	}
}

// oneList: a message whose lists of steps are all parts of one piece of memory.
func oneList() api.Msg {
	few := steps("shared")
	o := op(1, "o")
	o.Def.Steps = few
	m := api.Msg{Op: o, Ops: []api.Op{o, o, o}}
	m.Ops[1].Def.Steps = few[:1]
	return m
}

func stepLists(m api.Msg) [][]api.Step {
	l := [][]api.Step{m.Op.Def.Steps}
	for _, o := range m.Ops {
		l = append(l, o.Def.Steps)
	}
	return l
}

func TestListsOfOneAnswerShareNothing(t *testing.T) {
	ways := told()
	ways["Copy"] = func(*testing.T, *bag.Bag) api.Msg { return bag.Copy(oneList()) }
	for name, tell := range ways {
		b := bag.New(9)
		put(t, b, oneList())
		l, want := stepLists(tell(t, b)), stepLists(oneList())
		for i := range l {
			all := l[i][:cap(l[i])]
			for j := range all {
				all[j] = api.Step{Name: "filler"}
			}
			for j := i + 1; j < len(l); j++ {
				if !slices.Equal(l[j], want[j]) {
					t.Errorf("%s: lists %d and %d share memory", name, i, j)
				}
			}
			copy(all, want[i])
			for j := range i {
				if !slices.Equal(l[j], want[j]) {
					t.Errorf("%s: lists %d and %d share room", name, i, j)
				}
			}
		}
	}
}

func TestListsOfNumbersAreNewMemory(t *testing.T) {
	b := three(t, 9)
	for range 3 {
		for _, l := range [][]int{b.Ids(), b.To(1), b.To(2), b.To(3)} {
			l = l[:cap(l)]
			for i := range l {
				l[i] = 777
			}
		}
		holds(t, b, 1, 2, 3)
		if got := b.To(1); !slices.Equal(got, []int{1, 3}) {
			t.Errorf("To(1): %v", got)
		}
	}
	ids, ones := b.Ids(), b.To(1)
	b.Clear(1)
	put(t, b, to(1, 9))
	if !slices.Equal(ids, []int{1, 2, 3}) || !slices.Equal(ones, []int{1, 3}) {
		t.Errorf("what was told became %v and %v", ids, ones)
	}
}

// R4

func TestBagsKnowNothingOfEachOther(t *testing.T) {
	a, b, c := bag.New(30), bag.New(30), bag.New(30)
	for i := range 30 {
		x := put(t, a, to(i%4, i))
		put(t, c, to(7, 7))
		c.Twice(i)
		c.Take(2 * i)
		c.Clear(i % 9)
		bag.New(5).Put(to(1, 1))
		if y := put(t, b, to(i%4, i)); x != y || x != i+1 {
			t.Fatalf("message %d is %d and %d", i+1, x, y)
		}
	}
	for place := range 5 {
		if x, y := a.To(place), b.To(place); !slices.Equal(x, y) {
			t.Errorf("To(%d): %v and %v", place, x, y)
		}
	}
	if x, y := a.Clear(1), b.Clear(1); x != y || x != 8 {
		t.Errorf("Clear(1): %d and %d", x, y)
	}
	if x, y := a.Ids(), b.Ids(); !slices.Equal(x, y) || len(x) != 22 {
		t.Errorf("Ids: %v and %v", x, y)
	}
}

// R6

func TestNumbersAtTheirEnds(t *testing.T) {
	b := bag.New(10000)
	for _, n := range numbers() {
		m := api.Msg{Kind: n, From: n, To: n, View: n, Last: n, Num: n, Commit: n, Nonce: n, Request: n, Incs: []int{n, n}}
		id := put(t, b, m)
		if l := b.To(n); !slices.Equal(l, []int{id}) {
			t.Errorf("To(%d): %v, want %d alone", n, l, id)
		}
		if got, ok := b.Look(id); !ok || !alike(got, m) || !bag.Same(got, m) {
			t.Errorf("Look: %v, %v, want %v", got, ok, m)
		}
	}
	if l := b.Ids(); len(l) != len(numbers()) {
		t.Errorf("Ids: %v", l)
	}
}

// The bound

func TestMuchIsTaken(t *testing.T) {
	const most, rounds = 10000, 20
	b := bag.New(most)
	for round := range rounds {
		for i := range most {
			if id, err := b.Put(to(i%3, i)); id != round*most+i+1 || err != api.OK {
				t.Fatalf("Put %d of round %d: %d, %v", i, round, id, err)
			}
		}
		if l := b.Ids(); len(l) != most || l[0] != round*most+1 || l[most-1] != (round+1)*most || !slices.IsSorted(l) {
			t.Fatalf("Ids of round %d: %d of them", round, len(l))
		}
		if n := b.Clear(0) + b.Clear(1) + b.Clear(2); n != most {
			t.Fatalf("Clear of round %d: %d", round, n)
		}
	}
	m := api.Msg{Ops: slices.Repeat([]api.Op{op(5, "much")}, 1<<14), Incs: make([]int, 1<<20)}
	id := put(t, b, m)
	if got, err := b.Take(id); err != api.OK || !bag.Same(got, m) || !bag.Same(bag.Copy(m), m) {
		t.Errorf("a long message is another when it is taken, %v", err)
	}
}
