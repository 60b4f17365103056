package bag_test

import (
	"maps"
	"math"
	"math/rand/v2"
	"reflect"
	"slices"
	"testing"

	"drover/api"
	"drover/bag"
)

// The signatures that the chapter lists.
var (
	_ func(int) *bag.Bag                       = bag.New
	_ func(*bag.Bag, api.Msg) (int, api.Errno) = (*bag.Bag).Put
	_ func(*bag.Bag, int) (api.Msg, api.Errno) = (*bag.Bag).Take
	_ func(*bag.Bag, int) (int, api.Errno)     = (*bag.Bag).Twice
	_ func(*bag.Bag, int) (api.Msg, bool)      = (*bag.Bag).Look
	_ func(*bag.Bag) []int                     = (*bag.Bag).Ids
	_ func(*bag.Bag, int) []int                = (*bag.Bag).To
	_ func(*bag.Bag, int) int                  = (*bag.Bag).Clear
	_ func(api.Msg, api.Msg) bool              = bag.Same
	_ func(api.Msg) api.Msg                    = bag.Copy
)

func to(place, num int) api.Msg { return api.Msg{Kind: api.MsgPrepareOK, From: 3, To: place, Num: num} }

func steps(name string) []api.Step {
	return []api.Step{
		{Name: name, Stub: 1, Retry: 2, Wait: 3, Undo: true, Pivot: true},
		{Name: name + "2", Stub: 2, Retry: 4, Wait: 5, Undo: true, Pivot: true},
	}
}

func op(n int, name string) api.Op {
	return api.Op{Kind: n, Client: n + 1, Request: n + 2, Def: api.Def{Name: name, Steps: steps(name)}, Saga: n + 3, Step: n + 4, Try: n + 5, Back: true, Good: true}
}

// whole: a message with something in each field, made anew by each call.
func whole() api.Msg {
	return api.Msg{
		Kind: 2, From: 3, To: 4, View: 5, Last: 6, Num: 7, Commit: 8, Nonce: 9, Request: 10, Lead: true, Good: true, Fenced: true,
		Op:      op(20, "one"),
		Reply:   api.Reply{Err: api.ErrLate, Saga: 11, State: 12, Step: 13},
		Command: api.Command{View: 14, Stub: 15, Saga: 16, Step: 17, Try: 18, Back: true},
		Ops:     []api.Op{op(30, "two"), op(40, "three"), op(50, "four")},
		Incs:    []int{60, 61, 62},
	}
}

// alike holds a message against another by the language's own means, nil and empty lists being different.
func alike(a, b api.Msg) bool { return reflect.DeepEqual(a, b) }

// leaves: all that lies in v and is a number, a text or a bool, in a fixed order.
func leaves(v reflect.Value) []reflect.Value {
	var l []reflect.Value
	switch v.Kind() {
	case reflect.Struct:
		for i := range v.NumField() {
			l = append(l, leaves(v.Field(i))...)
		}
	case reflect.Slice:
		for i := range v.Len() {
			l = append(l, leaves(v.Index(i))...)
		}
	default:
		l = append(l, v)
	}
	return l
}

// others: what the leaf may be instead.
func others(v reflect.Value) []reflect.Value {
	var l []reflect.Value
	add := func(x any) { l = append(l, reflect.ValueOf(x).Convert(v.Type())) }
	switch v.Kind() {
	case reflect.Bool:
		add(!v.Bool())
	case reflect.String:
		for _, s := range []string{"", v.String() + "x", v.String()[1:], "x" + v.String()[1:], v.String() + "\x00"} {
			add(s)
		}
	default:
		for _, n := range []int64{0, v.Int() + 1, v.Int() - 1, -v.Int(), v.Int() + 1<<32, v.Int() ^ math.MinInt64, math.MaxInt64, math.MinInt64} {
			add(n)
		}
	}
	return l
}

// changed: messages each of which is another than whole in one number, text or bool.
func changed() []api.Msg {
	var l []api.Msg
	m := whole()
	for i, v := range leaves(reflect.ValueOf(&m).Elem()) {
		for _, x := range others(v) {
			m := whole()
			leaves(reflect.ValueOf(&m).Elem())[i].Set(x)
			l = append(l, m)
		}
	}
	return l
}

func relisted(change func(m *api.Msg)) api.Msg {
	m := whole()
	change(&m)
	return m
}

// longer: messages each of which is another than whole in one list's length or order.
func longer() []api.Msg {
	return []api.Msg{
		relisted(func(m *api.Msg) { m.Ops = nil }),
		relisted(func(m *api.Msg) { m.Ops = m.Ops[:2] }),
		relisted(func(m *api.Msg) { m.Ops = m.Ops[1:] }),
		relisted(func(m *api.Msg) { m.Ops = append(m.Ops, api.Op{}) }),
		relisted(func(m *api.Msg) { m.Ops = append(m.Ops, m.Ops[2]) }),
		relisted(func(m *api.Msg) { slices.Reverse(m.Ops) }),
		relisted(func(m *api.Msg) { m.Ops[0], m.Ops[1] = m.Ops[1], m.Ops[0] }),
		relisted(func(m *api.Msg) { m.Incs = nil }),
		relisted(func(m *api.Msg) { m.Incs = m.Incs[:2] }),
		relisted(func(m *api.Msg) { m.Incs = m.Incs[1:] }),
		relisted(func(m *api.Msg) { m.Incs = append(m.Incs, 0) }),
		relisted(func(m *api.Msg) { m.Incs = append(m.Incs, 62) }),
		relisted(func(m *api.Msg) { slices.Reverse(m.Incs) }),
		relisted(func(m *api.Msg) { m.Op.Def.Steps = nil }),
		relisted(func(m *api.Msg) { m.Op.Def.Steps = m.Op.Def.Steps[:1] }),
		relisted(func(m *api.Msg) { m.Op.Def.Steps = append(m.Op.Def.Steps, api.Step{}) }),
		relisted(func(m *api.Msg) { slices.Reverse(m.Op.Def.Steps) }),
		relisted(func(m *api.Msg) { m.Ops[1].Def.Steps = nil }),
		relisted(func(m *api.Msg) { m.Ops[2].Def.Steps = m.Ops[2].Def.Steps[:1] }),
		relisted(func(m *api.Msg) { m.Ops[2].Def.Steps = append(m.Ops[2].Def.Steps, api.Step{}) }),
		relisted(func(m *api.Msg) { slices.Reverse(m.Ops[1].Def.Steps) }),
	}
}

func put(t *testing.T, b *bag.Bag, m api.Msg) int {
	t.Helper()
	id, err := b.Put(m)
	if err != api.OK {
		t.Fatalf("Put: %d, %v", id, err)
	}
	return id
}

// three: a Bag of at most most, with three messages to places 1, 2 and 1.
func three(t *testing.T, most int) *bag.Bag {
	t.Helper()
	b := bag.New(most)
	for i, place := range []int{1, 2, 1} {
		if id := put(t, b, to(place, i+1)); id != i+1 {
			t.Fatalf("the number of message %d is %d", i+1, id)
		}
	}
	return b
}

func holds(t *testing.T, b *bag.Bag, want ...int) {
	t.Helper()
	if got := b.Ids(); !slices.Equal(got, want) {
		t.Errorf("Ids: %v, want %v", got, want)
	}
}

// P4.1

func TestNew(t *testing.T) {
	for _, most := range []int{0, 1, 2, 399, api.MaxBag, 9999, 10000} {
		b := bag.New(most)
		if b == nil {
			t.Fatalf("New(%d) is nil", most)
		}
		holds(t, b)
		if l := b.To(0); len(l) != 0 || b.Clear(0) != 0 {
			t.Errorf("New(%d) has messages to place 0: %v", most, l)
		}
	}
	for _, most := range []int{-1, -2, -10000, 10001, 20000, 65536, 1 << 32, 1<<32 + 5, math.MaxInt, math.MinInt} {
		if bag.New(most) != nil {
			t.Errorf("New(%d) is not nil", most)
		}
	}
}

func TestTheChaptersExample(t *testing.T) {
	b := bag.New(9)
	first, second := put(t, b, to(1, 10)), put(t, b, to(2, 20))
	third, err := b.Twice(1)
	if first != 1 || second != 2 || third != 3 || err != api.OK {
		t.Errorf("Put, Put, Twice(1): %d, %d, %d, %v", first, second, third, err)
	}
	if m, err := b.Take(1); !alike(m, to(1, 10)) || err != api.OK {
		t.Errorf("Take(1): %v, %v", m, err)
	}
	holds(t, b, 2, 3)
}

func TestABagTakesAsManyAsWasSaid(t *testing.T) {
	for _, most := range []int{0, 1, 2, 3, 400, 10000} {
		b := bag.New(most)
		for i := range most {
			if id, err := b.Put(to(1, i)); id != i+1 || err != api.OK {
				t.Fatalf("Put %d of %d: %d, %v", i+1, most, id, err)
			}
		}
		for range 3 {
			if id, err := b.Put(to(1, -1)); id != 0 || err != api.ErrFull {
				t.Errorf("Put behind %d of %d: %d, %v", most, most, id, err)
			}
		}
		if len(b.Ids()) != most {
			t.Errorf("of %d there are %d", most, len(b.Ids()))
		}
	}
}

func TestFullIsWhatIsThereAndNotWhatWas(t *testing.T) {
	b := bag.New(2)
	for i := 1; i <= 50; i++ {
		if id := put(t, b, to(1, i)); id != 2*i-1 {
			t.Fatalf("Put: %d, want %d", id, 2*i-1)
		}
		if id, err := b.Twice(2*i - 1); id != 2*i || err != api.OK {
			t.Fatalf("Twice: %d, %v, want %d", id, err, 2*i)
		}
		if id, err := b.Put(to(1, 0)); id != 0 || err != api.ErrFull {
			t.Fatalf("Put behind two: %d, %v", id, err)
		}
		if i%2 == 0 {
			if n := b.Clear(1); n != 2 {
				t.Fatalf("Clear: %d", n)
			}
			continue
		}
		for _, id := range []int{2 * i, 2*i - 1} {
			if m, err := b.Take(id); !alike(m, to(1, i)) || err != api.OK {
				t.Fatalf("Take(%d): %v, %v", id, m, err)
			}
		}
	}
}

func TestEachNumberIsUsedOnce(t *testing.T) {
	b := three(t, 3)
	if id, err := b.Put(to(9, 9)); id != 0 || err != api.ErrFull {
		t.Errorf("Put behind three: %d, %v", id, err)
	}
	if id, err := b.Twice(2); id != 0 || err != api.ErrFull {
		t.Errorf("Twice behind three: %d, %v", id, err)
	}
	b.Take(3)
	if id := put(t, b, to(1, 4)); id != 4 {
		t.Errorf("behind Take of the last one: %d, want 4", id)
	}
	b.Clear(1)
	if id := put(t, b, to(1, 5)); id != 5 {
		t.Errorf("behind Clear: %d, want 5", id)
	}
	b.Take(2)
	b.Take(5)
	if id := put(t, b, to(1, 6)); id != 6 {
		t.Errorf("of an empty Bag that was not: %d, want 6", id)
	}
	if id, err := b.Twice(6); id != 7 || err != api.OK {
		t.Errorf("Twice: %d, %v, want 7", id, err)
	}
	holds(t, b, 6, 7)
}

func TestTake(t *testing.T) {
	for _, id := range []int{1, 2, 3} {
		b := three(t, 3)
		want := to([]int{1, 2, 1}[id-1], id)
		if m, err := b.Take(id); !alike(m, want) || err != api.OK {
			t.Errorf("Take(%d): %v, %v, want %v", id, m, err, want)
		}
		holds(t, b, slices.DeleteFunc([]int{1, 2, 3}, func(n int) bool { return n == id })...)
		if m, err := b.Take(id); !alike(m, api.Msg{}) || err != api.ErrNone {
			t.Errorf("Take(%d) again: %v, %v", id, m, err)
		}
		if m, ok := b.Look(id); ok || !alike(m, api.Msg{}) {
			t.Errorf("Look(%d) behind Take: %v, %v", id, m, ok)
		}
	}
}

// absent: numbers that no message of a Bag has that gave three.
func absent() []int {
	return []int{0, 4, -1, -3, 5, 1000, 1<<32 + 1, math.MaxInt, math.MinInt, math.MinInt + 1}
}

func TestNoSuchMessage(t *testing.T) {
	for _, most := range []int{3, 4} { // that it is full is told behind it
		b := three(t, most)
		for _, id := range absent() {
			if m, err := b.Take(id); !alike(m, api.Msg{}) || err != api.ErrNone {
				t.Errorf("Take(%d): %v, %v", id, m, err)
			}
			if got, err := b.Twice(id); got != 0 || err != api.ErrNone {
				t.Errorf("Twice(%d): %d, %v", id, got, err)
			}
			if m, ok := b.Look(id); !alike(m, api.Msg{}) || ok {
				t.Errorf("Look(%d): %v, %v", id, m, ok)
			}
		}
		holds(t, b, 1, 2, 3)
	}
	for _, b := range []*bag.Bag{bag.New(0), bag.New(7)} {
		if got, err := b.Twice(1); got != 0 || err != api.ErrNone {
			t.Errorf("Twice of an empty Bag: %d, %v", got, err)
		}
		if _, err := b.Take(1); err != api.ErrNone {
			t.Errorf("Take of an empty Bag: %v", err)
		}
	}
}

func TestTwice(t *testing.T) {
	b := bag.New(6)
	put(t, b, to(1, 10))
	put(t, b, whole())
	for i, c := range []struct{ id, want int }{{2, 3}, {1, 4}, {3, 5}, {2, 6}} {
		if got, err := b.Twice(c.id); got != c.want || err != api.OK {
			t.Errorf("Twice %d, of %d: %d, %v, want %d", i+1, c.id, got, err, c.want)
		}
	}
	if got, err := b.Twice(2); got != 0 || err != api.ErrFull {
		t.Errorf("Twice of a full Bag: %d, %v", got, err)
	}
	holds(t, b, 1, 2, 3, 4, 5, 6)
	for id, want := range map[int]api.Msg{1: to(1, 10), 4: to(1, 10), 2: whole(), 3: whole(), 5: whole(), 6: whole()} {
		if m, err := b.Take(id); !alike(m, want) || err != api.OK {
			t.Errorf("Take(%d): %v, %v, want %v", id, m, err, want)
		}
	}
	holds(t, b)
}

func TestWhatWasDoubledStaysWhenTheOtherIsTaken(t *testing.T) {
	b := three(t, 9)
	b.Twice(2)
	b.Take(2)
	if m, ok := b.Look(4); !ok || !alike(m, to(2, 2)) {
		t.Errorf("Look(4): %v, %v", m, ok)
	}
	if got, err := b.Twice(2); got != 0 || err != api.ErrNone {
		t.Errorf("Twice of what was taken: %d, %v", got, err)
	}
	if got, err := b.Twice(4); got != 5 || err != api.OK {
		t.Errorf("Twice of what was doubled: %d, %v", got, err)
	}
	holds(t, b, 1, 3, 4, 5)
}

func TestLookTakesNothing(t *testing.T) {
	b := three(t, 9)
	for range 3 {
		for id, want := range []api.Msg{to(1, 1), to(2, 2), to(1, 3)} {
			if m, ok := b.Look(id + 1); !ok || !alike(m, want) {
				t.Errorf("Look(%d): %v, %v, want %v", id+1, m, ok, want)
			}
		}
	}
	holds(t, b, 1, 2, 3)
}

func TestAMessageOfNothingIsOne(t *testing.T) {
	b := bag.New(2)
	if id := put(t, b, api.Msg{}); id != 1 {
		t.Errorf("Put: %d", id)
	}
	if m, ok := b.Look(1); !ok || !alike(m, api.Msg{}) {
		t.Errorf("Look: %v, %v", m, ok)
	}
	if l := b.To(0); !slices.Equal(l, []int{1}) {
		t.Errorf("To(0): %v", l)
	}
	if m, err := b.Take(1); err != api.OK || !alike(m, api.Msg{}) {
		t.Errorf("Take: %v, %v", m, err)
	}
}

func TestIdsRise(t *testing.T) {
	b := bag.New(1000)
	var want []int
	for i := range 1000 {
		want = append(want, put(t, b, to(i%7, i)))
	}
	for range 3 {
		holds(t, b, want...)
	}
	for id := 5; id <= 1000; id += 3 {
		b.Take(id)
	}
	want = slices.DeleteFunc(want, func(id int) bool { return id >= 5 && id%3 == 2 })
	holds(t, b, want...)
}

// P4.2

func TestToAndClear(t *testing.T) {
	places := []int{1, 21, 11, 1, 0, 1, -4, 21, math.MaxInt, 1, math.MinInt, 1 + 1<<32}
	for _, c := range []struct {
		place int
		want  []int
	}{
		{1, []int{1, 4, 6, 10}}, {21, []int{2, 8}}, {11, []int{3}}, {0, []int{5}}, {-4, []int{7}},
		{math.MaxInt, []int{9}}, {math.MinInt, []int{11}}, {1 + 1<<32, []int{12}},
		{2, nil}, {3, nil}, {-1, nil}, {4, nil}, {12, nil}, {1 << 32, nil}, {math.MaxInt - 1, nil}, {-math.MaxInt, nil},
	} {
		b := bag.New(len(places))
		for i, place := range places {
			put(t, b, api.Msg{Kind: 1, From: 3, To: place, Num: i, Command: api.Command{Stub: 2}, Op: api.Op{Client: 12}})
		}
		if got := b.To(c.place); !slices.Equal(got, c.want) {
			t.Errorf("To(%d): %v, want %v", c.place, got, c.want)
		}
		if all := b.Ids(); len(all) != len(places) {
			t.Errorf("behind To(%d) there are %v", c.place, all)
		}
		if got := b.Clear(c.place); got != len(c.want) {
			t.Errorf("Clear(%d): %d, want %d", c.place, got, len(c.want))
		}
		if got := b.To(c.place); len(got) != 0 || b.Clear(c.place) != 0 {
			t.Errorf("behind Clear(%d) there are %v", c.place, got)
		}
		var rest []int
		for i := range places {
			if !slices.Contains(c.want, i+1) {
				rest = append(rest, i+1)
			}
		}
		holds(t, b, rest...)
		for _, id := range rest {
			if m, ok := b.Look(id); !ok || m.To != places[id-1] || m.Num != id-1 {
				t.Errorf("behind Clear(%d) message %d is %v, %v", c.place, id, m, ok)
			}
		}
	}
}

func TestToRises(t *testing.T) {
	b := bag.New(900)
	want := map[int][]int{}
	for i := range 900 {
		place := i * i % 11
		want[place] = append(want[place], put(t, b, to(place, i)))
	}
	for range 3 {
		for place := range 11 {
			if got := b.To(place); !slices.Equal(got, want[place]) {
				t.Fatalf("To(%d): %v, want %v", place, got, want[place])
			}
		}
	}
}

func TestMessagesAreKeptWhole(t *testing.T) {
	b := bag.New(10000)
	l := append(append(changed(), longer()...), whole(), api.Msg{})
	for i, m := range l {
		if id := put(t, b, m); id != i+1 {
			t.Fatalf("Put: %d, want %d", id, i+1)
		}
	}
	again := append(append(changed(), longer()...), whole(), api.Msg{})
	for i, want := range again {
		id, err := b.Twice(i + 1)
		if err != api.OK {
			t.Fatalf("Twice(%d): %v", i+1, err)
		}
		if m, ok := b.Look(i + 1); !ok || !alike(m, want) {
			t.Errorf("Look: %v, want %v", m, want)
		}
		if m, err := b.Take(i + 1); err != api.OK || !alike(m, want) {
			t.Errorf("Take: %v, want %v", m, want)
		}
		if m, err := b.Take(id); err != api.OK || !alike(m, want) {
			t.Errorf("Take of what was doubled: %v, want %v", m, want)
		}
	}
}

func TestSame(t *testing.T) {
	if !bag.Same(whole(), whole()) || !bag.Same(api.Msg{}, api.Msg{}) {
		t.Error("a message is not the Same as itself")
	}
	if bag.Same(whole(), api.Msg{}) || bag.Same(api.Msg{}, whole()) {
		t.Error("a message is the Same as nothing")
	}
	for _, m := range append(changed(), longer()...) {
		equal := alike(m, whole())
		if bag.Same(m, whole()) != equal || bag.Same(whole(), m) != equal {
			t.Errorf("Same of one with a difference: %v", m)
		}
		if c := bag.Copy(m); !bag.Same(m, c) || !bag.Same(c, m) {
			t.Errorf("a message is not the Same as its Copy: %v", m)
		}
	}
}

// Of a message that is empty but for one thing: what stands beside it may not hide it.
func TestSameOfOneThing(t *testing.T) {
	full := whole()
	source := reflect.ValueOf(full)
	for i := range source.NumField() {
		var m api.Msg
		reflect.ValueOf(&m).Elem().Field(i).Set(source.Field(i))
		if bag.Same(m, api.Msg{}) || bag.Same(api.Msg{}, m) || !bag.Same(m, m) {
			t.Errorf("Same of %s alone", source.Type().Field(i).Name)
		}
	}
	for _, m := range []api.Msg{{Ops: make([]api.Op, 1)}, {Incs: make([]int, 1)}, {Op: api.Op{Def: api.Def{Steps: make([]api.Step, 1)}}}} {
		if bag.Same(m, api.Msg{}) || bag.Same(api.Msg{}, m) {
			t.Errorf("a list of a zero is the Same as none: %v", m)
		}
	}
}

func TestNoListIsTheSameAsAnEmptyOne(t *testing.T) {
	for i, empty := range []func(m *api.Msg, ops []api.Op, incs []int, steps []api.Step){
		func(m *api.Msg, ops []api.Op, _ []int, _ []api.Step) { m.Ops = ops },
		func(m *api.Msg, _ []api.Op, incs []int, _ []api.Step) { m.Incs = incs },
		func(m *api.Msg, _ []api.Op, _ []int, steps []api.Step) { m.Op.Def.Steps = steps },
		func(m *api.Msg, _ []api.Op, _ []int, steps []api.Step) { m.Ops[1].Def.Steps = steps },
	} {
		a, b := whole(), whole()
		empty(&a, nil, nil, nil)
		empty(&b, []api.Op{}, []int{}, []api.Step{})
		if !bag.Same(a, b) || !bag.Same(b, a) || !bag.Same(a, a) || !bag.Same(b, b) {
			t.Errorf("list %d: nil is not the Same as an empty one", i)
		}
		if bag.Same(a, whole()) || bag.Same(whole(), b) {
			t.Errorf("list %d: none is the Same as one", i)
		}
		c := bag.New(2)
		put(t, c, a)
		put(t, c, b)
		if x, _ := c.Take(1); !bag.Same(x, b) {
			t.Errorf("list %d: nil is kept as another", i)
		}
		if x, _ := c.Look(2); !bag.Same(x, a) {
			t.Errorf("list %d: an empty one is kept as another", i)
		}
		if !bag.Same(bag.Copy(a), b) || !bag.Same(a, bag.Copy(b)) {
			t.Errorf("list %d: Copy is another", i)
		}
	}
}

func TestCopy(t *testing.T) {
	for _, m := range append(append(changed(), longer()...), whole(), api.Msg{}) {
		if got := bag.Copy(m); !alike(got, m) {
			t.Errorf("Copy: %v, want %v", got, m)
		}
	}
}

// Of a Bag that no call made.

func TestABagThatNoCallMade(t *testing.T) {
	var zero bag.Bag
	for name, b := range map[string]*bag.Bag{"nil": nil, "a zero value": &zero, "a new one": new(bag.Bag), "New(-1)": bag.New(-1)} {
		for _, id := range append(absent(), 1) {
			if got, err := b.Put(whole()); got != 0 || err != api.ErrMade {
				t.Errorf("Put of %s: %d, %v", name, got, err)
			}
			if m, err := b.Take(id); !alike(m, api.Msg{}) || err != api.ErrMade {
				t.Errorf("Take(%d) of %s: %v, %v", id, name, m, err)
			}
			if got, err := b.Twice(id); got != 0 || err != api.ErrMade {
				t.Errorf("Twice(%d) of %s: %d, %v", id, name, got, err)
			}
			if m, ok := b.Look(id); !alike(m, api.Msg{}) || ok {
				t.Errorf("Look(%d) of %s: %v, %v", id, name, m, ok)
			}
			if l := b.To(id); len(l) != 0 {
				t.Errorf("To(%d) of %s: %v", id, name, l)
			}
			if n := b.Clear(id); n != 0 {
				t.Errorf("Clear(%d) of %s: %d", id, name, n)
			}
			if l := b.Ids(); len(l) != 0 {
				t.Errorf("Ids of %s: %v", name, l)
			}
		}
		if b != nil && !reflect.ValueOf(b).Elem().IsZero() {
			t.Errorf("%s was changed", name)
		}
	}
}

// P4.3

// book is what the chapter says of a Bag, in the plainest words.
type book struct {
	most, last int
	msgs       map[int]api.Msg
}

func (k *book) ids(wanted func(m api.Msg) bool) []int {
	var l []int
	for id := 1; id <= k.last; id++ {
		if m, ok := k.msgs[id]; ok && wanted(m) {
			l = append(l, id)
		}
	}
	return l
}

func (k *book) put(m api.Msg) (int, api.Errno) {
	if len(k.msgs) == k.most {
		return 0, api.ErrFull
	}
	k.last++
	k.msgs[k.last] = m
	return k.last, api.OK
}

func (k *book) take(id int) (api.Msg, api.Errno) {
	m, ok := k.msgs[id]
	if !ok {
		return api.Msg{}, api.ErrNone
	}
	delete(k.msgs, id)
	return m, api.OK
}

func (k *book) twice(id int) (int, api.Errno) {
	if m, ok := k.msgs[id]; ok {
		return k.put(m)
	}
	return 0, api.ErrNone
}

func (k *book) clear(place int) int {
	before := len(k.msgs)
	maps.DeleteFunc(k.msgs, func(_ int, m api.Msg) bool { return m.To == place })
	return before - len(k.msgs)
}

func TestABagIsAsABookOfIt(t *testing.T) {
	for most := range 12 {
		by := rand.New(rand.NewPCG(7, uint64(most)))
		b, k := bag.New(most), &book{most: most, msgs: map[int]api.Msg{}}
		for step := range 1500 {
			id := k.last + 2 - by.IntN(2*most+4)
			switch by.IntN(8) {
			case 0, 1, 2:
				m := to(by.IntN(4), step)
				got, err := b.Put(m)
				if want, e := k.put(m); got != want || err != e {
					t.Fatalf("most %d, step %d: Put: %d, %v, want %d, %v", most, step, got, err, want, e)
				}
			case 3, 4:
				got, err := b.Twice(id)
				if want, e := k.twice(id); got != want || err != e {
					t.Fatalf("most %d, step %d: Twice(%d): %d, %v, want %d, %v", most, step, id, got, err, want, e)
				}
			case 5, 6:
				got, err := b.Take(id)
				if want, e := k.take(id); !alike(got, want) || err != e {
					t.Fatalf("most %d, step %d: Take(%d): %v, %v, want %v, %v", most, step, id, got, err, want, e)
				}
			case 7:
				place := by.IntN(5)
				if got, want := b.Clear(place), k.clear(place); got != want {
					t.Fatalf("most %d, step %d: Clear(%d): %d, want %d", most, step, place, got, want)
				}
			}
			if got, want := b.Ids(), k.ids(func(api.Msg) bool { return true }); !slices.Equal(got, want) {
				t.Fatalf("most %d, step %d: Ids: %v, want %v", most, step, got, want)
			}
			place := by.IntN(5)
			if got, want := b.To(place), k.ids(func(m api.Msg) bool { return m.To == place }); !slices.Equal(got, want) {
				t.Fatalf("most %d, step %d: To(%d): %v, want %v", most, step, place, got, want)
			}
			want, there := k.msgs[id]
			if got, ok := b.Look(id); ok != there || !alike(got, want) {
				t.Fatalf("most %d, step %d: Look(%d): %v, %v, want %v, %v", most, step, id, got, ok, want, there)
			}
		}
	}
}

func TestWhatIsTakenWasPutOrDoubled(t *testing.T) {
	by := rand.New(rand.NewPCG(1, 2))
	b := bag.New(50)
	var put, taken = map[int]int{}, map[int]int{} // how often, by Num
	seen := map[int]bool{}
	fresh := func(id int, err api.Errno) bool {
		if err != api.OK {
			return false
		}
		if seen[id] {
			t.Fatalf("number %d is used twice", id)
		}
		seen[id] = true
		return true
	}
	for step := range 5000 {
		ids := b.Ids()
		if len(slices.Compact(slices.Clone(ids))) != len(ids) {
			t.Fatalf("a number is there twice: %v", ids)
		}
		switch n := by.IntN(3); {
		case n == 0 || len(ids) == 0:
			if fresh(b.Put(to(1, step))) {
				put[step]++
			}
		case n == 1:
			id := ids[by.IntN(len(ids))]
			m, _ := b.Look(id)
			if fresh(b.Twice(id)) {
				put[m.Num]++
			}
		default:
			m, err := b.Take(ids[by.IntN(len(ids))])
			if err != api.OK {
				t.Fatalf("Take: %v", err)
			}
			taken[m.Num]++
		}
	}
	for _, id := range b.Ids() {
		m, _ := b.Take(id)
		taken[m.Num]++
	}
	if !maps.Equal(put, taken) {
		t.Error("what was taken is not what was put and doubled")
	}
}
