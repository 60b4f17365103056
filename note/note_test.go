package note_test

import (
	"bytes"
	"encoding/binary"
	"hash/crc32"
	"math"
	"math/rand/v2"
	"reflect"
	"slices"
	"strings"
	"testing"

	"drover/api"
	"drover/note"
)

// The signatures that the chapter lists.
var (
	_ func(api.Msg) bool                = note.Good
	_ func(api.Msg) []byte              = note.Bytes
	_ func([]byte) (api.Msg, api.Errno) = note.Read
	_ func(api.Op) []byte               = note.OpBytes
	_ func([]byte) (api.Op, api.Errno)  = note.ReadOp
	_ func(api.Op) bool                 = note.GoodOp
	_ func(api.Def) []byte              = note.DefBytes
	_ func([]byte) (api.Def, api.Errno) = note.ReadDef
)

const top = 1 << 40

// The records as the chapter's words make them, without package field: a slow writer that is held against the package.

type slow struct{ b []byte }

func (s *slow) key(num, text int) { s.b = binary.AppendUvarint(s.b, uint64(2*num+text)) }

// value: a field of a number, zero or not.
func (s *slow) value(num, n int) {
	s.key(num, 0)
	s.b = binary.AppendVarint(s.b, int64(n)) // which is Zig's rule
}

func (s *slow) number(num, n int) {
	if n != 0 {
		s.value(num, n)
	}
}

func (s *slow) flag(num int, b bool) {
	if b {
		s.key(num, 0)
		s.b = append(s.b, 1)
	}
}

// piece: a field of bytes, empty or not.
func (s *slow) piece(num int, b []byte) {
	s.key(num, 1)
	s.b = binary.AppendUvarint(s.b, uint64(len(b)))
	s.b = append(s.b, b...)
}

func (s *slow) inner(num int, b []byte) {
	if len(b) > 0 {
		s.piece(num, b)
	}
}

func slowStep(step api.Step) []byte {
	var s slow
	s.inner(1, []byte(step.Name))
	s.number(2, step.Stub)
	s.number(3, step.Retry)
	s.number(4, step.Wait)
	s.flag(5, step.Undo)
	s.flag(6, step.Pivot)
	return s.b
}

func slowDef(d api.Def) []byte {
	var s slow
	s.inner(1, []byte(d.Name))
	for _, step := range d.Steps {
		s.piece(2, slowStep(step))
	}
	return s.b
}

func slowOp(o api.Op) []byte {
	var s slow
	s.number(1, o.Kind)
	s.number(2, o.Client)
	s.number(3, o.Request)
	s.inner(4, slowDef(o.Def))
	s.number(5, o.Saga)
	s.number(6, o.Step)
	s.number(7, o.Try)
	s.flag(8, o.Back)
	s.flag(9, o.Good)
	return s.b
}

func slowReply(r api.Reply) []byte {
	var s slow
	s.number(1, int(r.Err))
	s.number(2, r.Saga)
	s.number(3, r.State)
	s.number(4, r.Step)
	return s.b
}

func slowCommand(c api.Command) []byte {
	var s slow
	s.number(1, c.View)
	s.number(2, c.Stub)
	s.number(3, c.Saga)
	s.number(4, c.Step)
	s.number(5, c.Try)
	s.flag(6, c.Back)
	return s.b
}

// slowContent: what stands in a message's envelope.
func slowContent(m api.Msg) []byte {
	var s slow
	for i, n := range []int{m.Kind, m.From, m.To, m.View, m.Last, m.Num, m.Commit, m.Nonce, m.Request} {
		s.number(1+i, n)
	}
	for i, b := range []bool{m.Lead, m.Good, m.Fenced} {
		s.flag(10+i, b)
	}
	s.inner(13, slowOp(m.Op))
	s.inner(14, slowReply(m.Reply))
	s.inner(15, slowCommand(m.Command))
	for _, o := range m.Ops {
		s.piece(16, slowOp(o))
	}
	for _, n := range m.Incs {
		s.value(17, n)
	}
	return s.b
}

// sealed: an envelope, as chapter 2's words make it.
func sealed(content []byte) []byte {
	b := binary.AppendUvarint([]byte{3}, uint64(len(content)))
	b = append(b, content...)
	return binary.LittleEndian.AppendUint32(b, crc32.ChecksumIEEE(b))
}

func sealedOf(content ...byte) []byte { return sealed(content) }

// Things with something else in each field, made anew by each call.

func wholeDef(n int) api.Def {
	return api.Def{Name: "def" + string(rune('a'+n%26)), Steps: []api.Step{
		{Name: "one", Stub: n + 1, Retry: n + 2, Wait: n + 3, Undo: true, Pivot: true},
		{},
		{Name: "three", Stub: n + 4, Undo: true},
	}}
}

func wholeOp(n int) api.Op {
	return api.Op{Kind: api.OpLapse, Client: n + 1, Request: n + 2, Def: wholeDef(n), Saga: n + 3, Step: n + 4, Try: n + 5, Back: true, Good: true}
}

func wholeMsg() api.Msg {
	return api.Msg{
		Kind: api.MsgResult, From: 2, To: 3, View: 4, Last: 5, Num: 6, Commit: 7, Nonce: 8, Request: 9,
		Lead: true, Good: true, Fenced: true, Op: wholeOp(10),
		Reply:   api.Reply{Err: api.ErrRange, Saga: 17, State: 18, Step: 19},
		Command: api.Command{View: 20, Stub: 21, Saga: 22, Step: 23, Try: 24, Back: true},
		Ops:     []api.Op{wholeOp(30), {}, wholeOp(40)}, Incs: []int{50, 0, 52},
	}
}

// places: each number of a message by its name; the kinds and the error have limits of their own.
func places(m *api.Msg) map[string]*int {
	l := map[string]*int{
		"From": &m.From, "To": &m.To, "View": &m.View, "Last": &m.Last, "Num": &m.Num, "Commit": &m.Commit, "Nonce": &m.Nonce, "Request": &m.Request,
		"Reply.Saga": &m.Reply.Saga, "Reply.State": &m.Reply.State, "Reply.Step": &m.Reply.Step,
		"Command.View": &m.Command.View, "Command.Stub": &m.Command.Stub, "Command.Saga": &m.Command.Saga, "Command.Step": &m.Command.Step, "Command.Try": &m.Command.Try,
	}
	for i := range m.Incs {
		l["Incs"+string(rune('0'+i))] = &m.Incs[i]
	}
	addOp := func(name string, o *api.Op) {
		for n, p := range opPlaces(o) {
			l[name+n] = p
		}
	}
	addOp("Op.", &m.Op)
	for i := range m.Ops {
		addOp("Ops"+string(rune('0'+i))+".", &m.Ops[i])
	}
	return l
}

func opPlaces(o *api.Op) map[string]*int {
	l := map[string]*int{"Client": &o.Client, "Request": &o.Request, "Saga": &o.Saga, "Step": &o.Step, "Try": &o.Try}
	for i := range o.Def.Steps {
		s, name := &o.Def.Steps[i], "Steps"+string(rune('0'+i))+"."
		l[name+"Stub"], l[name+"Retry"], l[name+"Wait"] = &s.Stub, &s.Retry, &s.Wait
	}
	return l
}

// small and odd: numbers that may be, and that may not.
func small() []int { return []int{0, 1, 63, 64, 1<<32 + 1, top - 1, top} }

func odd() []int {
	return []int{-1, -2, -64, -1 << 32, -top, top + 1, 1 << 41, 1 << 62, math.MinInt, math.MinInt + 1, math.MaxInt}
}

// names: texts that are long enough, and too long, by bytes.
func goodNames() []string {
	return []string{"", "a", "\x00", "\xff", strings.Repeat("a", 15), strings.Repeat("a", 16), strings.Repeat("é", 8), strings.Repeat("\x00", 16)}
}

func longNames() []string {
	return []string{strings.Repeat("a", 17), strings.Repeat("é", 8) + "a", strings.Repeat("é", 9), strings.Repeat("a", 300)}
}

// chance: good things by chance.
type chance struct{ *rand.Rand }

func newChance(seed uint64) chance { return chance{rand.New(rand.NewPCG(seed, 9))} }

func (c chance) number() int {
	switch c.IntN(4) {
	case 0:
		return 0
	case 1:
		return c.IntN(200)
	case 2:
		return top - c.IntN(3)
	}
	return c.IntN(top + 1)
}

func (c chance) flag() bool { return c.IntN(2) == 0 }

func (c chance) name() string {
	b := make([]byte, c.IntN(17)*c.IntN(2))
	for i := range b {
		b[i] = byte(c.Uint32())
	}
	return string(b)
}

func (c chance) def() api.Def {
	d := api.Def{Name: c.name()}
	for range c.IntN(9) * c.IntN(2) {
		s := api.Step{}
		if c.IntN(3) > 0 {
			s = api.Step{Name: c.name(), Stub: c.number(), Retry: c.number(), Wait: c.number(), Undo: c.flag(), Pivot: c.flag()}
		}
		d.Steps = append(d.Steps, s)
	}
	return d
}

func (c chance) op() api.Op {
	if c.IntN(5) == 0 {
		return api.Op{}
	}
	return api.Op{Kind: c.IntN(6), Client: c.number(), Request: c.number(), Def: c.def(), Saga: c.number(), Step: c.number(), Try: c.number(), Back: c.flag(), Good: c.flag()}
}

func (c chance) msg() api.Msg {
	m := api.Msg{
		Kind: 1 + c.IntN(14), From: c.number(), To: c.number(), View: c.number(), Last: c.number(), Num: c.number(), Commit: c.number(), Nonce: c.number(), Request: c.number(),
		Lead: c.flag(), Good: c.flag(), Fenced: c.flag(), Op: c.op(),
	}
	if c.flag() {
		m.Reply = api.Reply{Err: api.Errno(c.IntN(16)), Saga: c.number(), State: c.number(), Step: c.number()}
	}
	if c.flag() {
		m.Command = api.Command{View: c.number(), Stub: c.number(), Saga: c.number(), Step: c.number(), Try: c.number(), Back: c.flag()}
	}
	for range c.IntN(4) {
		m.Ops = append(m.Ops, c.op())
	}
	for range c.IntN(6) {
		m.Incs = append(m.Incs, c.number())
	}
	return m
}

// plain: things whose empty lists are nil, so that they may be held against each other.

func plainDef(d api.Def) api.Def {
	if len(d.Steps) == 0 {
		d.Steps = nil
	}
	return d
}

func plainOp(o api.Op) api.Op {
	o.Def = plainDef(o.Def)
	return o
}

func plain(m api.Msg) api.Msg {
	m.Op = plainOp(m.Op)
	ops := m.Ops
	m.Ops = nil
	for _, o := range ops {
		m.Ops = append(m.Ops, plainOp(o))
	}
	if len(m.Incs) == 0 {
		m.Incs = nil
	}
	return m
}

// What the tests ask again and again.

// holds: m is good, its bytes are as the slow writer has them, and it is read again.
func holds(t *testing.T, name string, m api.Msg) {
	t.Helper()
	if !note.Good(m) {
		t.Fatalf("%s: not Good: %v", name, m)
	}
	b := note.Bytes(m)
	if want := sealed(slowContent(m)); !bytes.Equal(b, want) {
		t.Fatalf("%s: Bytes of %v: %v, want %v", name, m, b, want)
	}
	got, err := note.Read(b)
	if err != api.OK || !reflect.DeepEqual(plain(got), plain(m)) {
		t.Fatalf("%s: Read of Bytes of %v: %v, %v", name, m, got, err)
	}
}

// fails: m is not good, so that it has no bytes, and those that it would have are bad.
func fails(t *testing.T, name string, m api.Msg) {
	t.Helper()
	if note.Good(m) {
		t.Fatalf("%s: Good: %v", name, m)
	}
	if b := note.Bytes(m); len(b) != 0 {
		t.Fatalf("%s: Bytes of %v: %v", name, m, b)
	}
	reads(t, name, sealed(slowContent(m)), api.ErrBad)
}

// reads: Read of b answers that error, and no message.
func reads(t *testing.T, name string, b []byte, want api.Errno) {
	t.Helper()
	m, err := note.Read(b)
	if err != want || !reflect.DeepEqual(plain(m), api.Msg{}) {
		t.Fatalf("%s: Read of %v: %v, %v, want %v", name, b, m, err, want)
	}
}

func holdsOp(t *testing.T, name string, o api.Op) {
	t.Helper()
	if !note.GoodOp(o) {
		t.Fatalf("%s: not GoodOp: %v", name, o)
	}
	b := note.OpBytes(o)
	if want := slowOp(o); !bytes.Equal(b, want) {
		t.Fatalf("%s: OpBytes of %v: %v, want %v", name, o, b, want)
	}
	got, err := note.ReadOp(b)
	if err != api.OK || !reflect.DeepEqual(plainOp(got), plainOp(o)) {
		t.Fatalf("%s: ReadOp of OpBytes of %v: %v, %v", name, o, got, err)
	}
	holdsDef(t, name, o.Def)
}

func holdsDef(t *testing.T, name string, d api.Def) {
	t.Helper()
	b := note.DefBytes(d)
	if want := slowDef(d); !bytes.Equal(b, want) {
		t.Fatalf("%s: DefBytes of %v: %v, want %v", name, d, b, want)
	}
	got, err := note.ReadDef(b)
	if err != api.OK || !reflect.DeepEqual(plainDef(got), plainDef(d)) {
		t.Fatalf("%s: ReadDef of DefBytes of %v: %v, %v", name, d, got, err)
	}
}

// failsOp: o is not good; it has bytes, but these are read as no operation.
func failsOp(t *testing.T, name string, o api.Op) {
	t.Helper()
	if note.GoodOp(o) {
		t.Fatalf("%s: GoodOp: %v", name, o)
	}
	b := note.OpBytes(o)
	if want := slowOp(o); !bytes.Equal(b, want) {
		t.Fatalf("%s: OpBytes of %v: %v, want %v", name, o, b, want)
	}
	readsOp(t, name, b, api.ErrBad)
	fails(t, name+" as Op", api.Msg{Kind: api.MsgRequest, Op: o})
	fails(t, name+" in Ops", api.Msg{Kind: api.MsgDo, Ops: []api.Op{{}, o}})
}

// failsDef: as failsOp, of a definition.
func failsDef(t *testing.T, name string, d api.Def) {
	t.Helper()
	b := note.DefBytes(d)
	if want := slowDef(d); !bytes.Equal(b, want) {
		t.Fatalf("%s: DefBytes of %v: %v, want %v", name, d, b, want)
	}
	readsDef(t, name, b, api.ErrBad)
	failsOp(t, name, api.Op{Kind: api.OpStart, Def: d})
}

func readsOp(t *testing.T, name string, b []byte, want api.Errno) {
	t.Helper()
	o, err := note.ReadOp(b)
	if err != want || !reflect.DeepEqual(plainOp(o), api.Op{}) {
		t.Fatalf("%s: ReadOp of %v: %v, %v, want %v", name, b, o, err, want)
	}
}

func readsDef(t *testing.T, name string, b []byte, want api.Errno) {
	t.Helper()
	d, err := note.ReadDef(b)
	if err != want || !reflect.DeepEqual(plainDef(d), api.Def{}) {
		t.Fatalf("%s: ReadDef of %v: %v, %v, want %v", name, b, d, err, want)
	}
}

// P9.1

func TestExample(t *testing.T) {
	if got := note.OpBytes(api.Op{Kind: 2, Client: 1}); !bytes.Equal(got, []byte{2, 4, 4, 2}) {
		t.Errorf("OpBytes: %v", got)
	}
	m := api.Msg{Kind: api.MsgCommit, View: 3}
	if got, err := note.Read(note.Bytes(m)); err != api.OK || !reflect.DeepEqual(plain(got), m) {
		t.Errorf("Read of Bytes: %v, %v", got, err)
	}
}

func TestDefBytesFieldByField(t *testing.T) {
	step := func(s api.Step) api.Def { return api.Def{Steps: []api.Step{s}} }
	for _, c := range []struct {
		d    api.Def
		want []byte
	}{
		{api.Def{}, nil},
		{api.Def{Steps: []api.Step{}}, nil},
		{api.Def{Name: "ab"}, []byte{3, 2, 'a', 'b'}},
		{step(api.Step{}), []byte{5, 0}},
		{step(api.Step{Name: "c"}), []byte{5, 3, 3, 1, 'c'}},
		{step(api.Step{Stub: 1}), []byte{5, 2, 4, 2}},
		{step(api.Step{Retry: 2}), []byte{5, 2, 6, 4}},
		{step(api.Step{Wait: 64}), []byte{5, 3, 8, 128, 1}},
		{step(api.Step{Undo: true}), []byte{5, 2, 10, 1}},
		{step(api.Step{Pivot: true}), []byte{5, 2, 12, 1}},
		{api.Def{Name: "a", Steps: []api.Step{{Pivot: true}, {}, {Stub: 1}}}, []byte{3, 1, 'a', 5, 2, 12, 1, 5, 0, 5, 2, 4, 2}},
		{step(api.Step{Stub: -1, Retry: -2, Wait: math.MinInt}), []byte{5, 15, 4, 1, 6, 3, 8, 255, 255, 255, 255, 255, 255, 255, 255, 255, 1}},
	} {
		if got := note.DefBytes(c.d); !bytes.Equal(got, c.want) {
			t.Errorf("DefBytes(%v): %v, want %v", c.d, got, c.want)
		}
	}
}

func TestOpBytesFieldByField(t *testing.T) {
	for _, c := range []struct {
		o    api.Op
		want []byte
	}{
		{api.Op{}, nil},
		{api.Op{Def: api.Def{Steps: []api.Step{}}}, nil},
		{api.Op{Kind: api.OpLapse}, []byte{2, 10}},
		{api.Op{Client: 1}, []byte{4, 2}},
		{api.Op{Request: 300}, []byte{6, 216, 4}},
		{api.Op{Def: api.Def{Name: "a"}}, []byte{9, 3, 3, 1, 'a'}},
		{api.Op{Def: api.Def{Steps: []api.Step{{}}}}, []byte{9, 2, 5, 0}},
		{api.Op{Saga: 2}, []byte{10, 4}},
		{api.Op{Step: 3}, []byte{12, 6}},
		{api.Op{Try: 4}, []byte{14, 8}},
		{api.Op{Back: true}, []byte{16, 1}},
		{api.Op{Good: true}, []byte{18, 1}},
		{api.Op{Kind: -1, Client: -3}, []byte{2, 1, 4, 5}},
	} {
		if got := note.OpBytes(c.o); !bytes.Equal(got, c.want) {
			t.Errorf("OpBytes(%v): %v, want %v", c.o, got, c.want)
		}
	}
}

func TestBytesFieldByField(t *testing.T) {
	for _, c := range []struct {
		m    api.Msg
		want []byte // behind its Kind
	}{
		{api.Msg{}, nil},
		{api.Msg{From: 1}, []byte{4, 2}},
		{api.Msg{To: 24}, []byte{6, 48}},
		{api.Msg{View: 3}, []byte{8, 6}},
		{api.Msg{Last: 4}, []byte{10, 8}},
		{api.Msg{Num: 5}, []byte{12, 10}},
		{api.Msg{Commit: 6}, []byte{14, 12}},
		{api.Msg{Nonce: 7}, []byte{16, 14}},
		{api.Msg{Request: 8}, []byte{18, 16}},
		{api.Msg{Lead: true}, []byte{20, 1}},
		{api.Msg{Good: true}, []byte{22, 1}},
		{api.Msg{Fenced: true}, []byte{24, 1}},
		{api.Msg{Op: api.Op{Kind: 2, Client: 1}}, []byte{27, 4, 2, 4, 4, 2}},
		{api.Msg{Op: api.Op{Def: api.Def{Steps: []api.Step{}}}}, nil},
		{api.Msg{Reply: api.Reply{Err: api.ErrMade}}, []byte{29, 2, 2, 2}},
		{api.Msg{Reply: api.Reply{Saga: 2}}, []byte{29, 2, 4, 4}},
		{api.Msg{Reply: api.Reply{State: 3}}, []byte{29, 2, 6, 6}},
		{api.Msg{Reply: api.Reply{Step: 4}}, []byte{29, 2, 8, 8}},
		{api.Msg{Command: api.Command{View: 1}}, []byte{31, 2, 2, 2}},
		{api.Msg{Command: api.Command{Stub: 2}}, []byte{31, 2, 4, 4}},
		{api.Msg{Command: api.Command{Saga: 3}}, []byte{31, 2, 6, 6}},
		{api.Msg{Command: api.Command{Step: 4}}, []byte{31, 2, 8, 8}},
		{api.Msg{Command: api.Command{Try: 5}}, []byte{31, 2, 10, 10}},
		{api.Msg{Command: api.Command{Back: true}}, []byte{31, 2, 12, 1}},
		{api.Msg{Ops: []api.Op{}}, nil},
		{api.Msg{Ops: []api.Op{{}}}, []byte{33, 0}},
		{api.Msg{Ops: []api.Op{{Saga: 1}, {}, {Saga: 2}}}, []byte{33, 2, 10, 2, 33, 0, 33, 2, 10, 4}},
		{api.Msg{Incs: []int{}}, nil},
		{api.Msg{Incs: []int{0}}, []byte{34, 0}},
		{api.Msg{Incs: []int{2, 0, 1}}, []byte{34, 4, 34, 0, 34, 2}},
	} {
		c.m.Kind = api.MsgCommit
		want := sealed(append([]byte{2, 10}, c.want...))
		if got := note.Bytes(c.m); !bytes.Equal(got, want) {
			t.Errorf("Bytes(%v): %v, want %v", c.m, got, want)
		}
	}
}

func TestAllFieldsStandInOrder(t *testing.T) {
	holds(t, "whole", wholeMsg())
	holdsOp(t, "whole", wholeOp(10))
	for kind := api.MsgRequest; kind <= api.MsgResult; kind++ {
		holds(t, "bare", api.Msg{Kind: kind})
	}
}

func TestWhatIsNoGoodOpHasBytesOfItsOwn(t *testing.T) {
	for _, n := range odd() {
		o := api.Op{Kind: n, Client: n, Request: n, Saga: n, Step: n, Try: n, Def: api.Def{Name: longNames()[0], Steps: []api.Step{{Name: longNames()[3], Stub: n, Retry: n, Wait: n}}}}
		failsOp(t, "all odd", o)
		failsDef(t, "all odd", o.Def)
	}
}

func TestOfNothing(t *testing.T) {
	holdsOp(t, "nothing", api.Op{})
	holdsOp(t, "an empty list", api.Op{Def: api.Def{Steps: []api.Step{}}})
	fails(t, "nothing", api.Msg{})
	for _, b := range [][]byte{nil, {}} {
		reads(t, "nothing", b, api.ErrShort)
		readsOp(t, "nothing", b, api.OK)
		readsDef(t, "nothing", b, api.OK)
	}
	reads(t, "an empty envelope", sealed(nil), api.ErrBad)
}

// P9.2

func TestGoodLooksAtEachNumber(t *testing.T) {
	of := wholeMsg()
	for name := range places(&of) {
		for _, n := range small() {
			m := wholeMsg()
			*places(&m)[name] = n
			holds(t, name, m)
		}
		for _, n := range odd() {
			m := wholeMsg()
			*places(&m)[name] = n
			fails(t, name, m)
		}
	}
}

func TestGoodOpLooksAtEachNumber(t *testing.T) {
	of := wholeOp(1)
	for name := range opPlaces(&of) {
		for _, n := range small() {
			o := wholeOp(1)
			*opPlaces(&o)[name] = n
			holdsOp(t, name, o)
		}
		for _, n := range odd() {
			o := wholeOp(1)
			*opPlaces(&o)[name] = n
			failsOp(t, name, o)
		}
	}
}

func TestGoodLooksAtKindsAndErrors(t *testing.T) {
	for _, n := range append(odd(), -3, 0, 1, 2, 5, 6, 7, 13, 14, 15, 16, 17, 100, top, 1<<32, 1<<32+1) {
		m := wholeMsg()
		m.Kind = n
		tell(t, "Kind", n >= 1 && n <= 14, m)
		m = wholeMsg()
		m.Reply.Err = api.Errno(n)
		tell(t, "Err", n >= 0 && n <= 15, m)
		m = wholeMsg()
		m.Op.Kind = n
		tell(t, "Op's Kind", n >= 0 && n <= 5, m)
		m = wholeMsg()
		m.Ops[2].Kind = n
		tell(t, "Ops' Kind", n >= 0 && n <= 5, m)
		o := wholeOp(1)
		o.Kind = n
		if n >= 0 && n <= 5 {
			holdsOp(t, "Kind", o)
		} else {
			failsOp(t, "Kind", o)
		}
	}
}

// tell: m holds, if it may, and else fails.
func tell(t *testing.T, name string, may bool, m api.Msg) {
	t.Helper()
	if may {
		holds(t, name, m)
	} else {
		fails(t, name, m)
	}
}

func TestGoodLooksAtNames(t *testing.T) {
	for _, s := range goodNames() {
		o := wholeOp(1)
		o.Def.Name = s
		holdsOp(t, "Def", o)
		o.Def.Steps[1].Name, o.Def.Steps[2].Name = s, s
		holdsOp(t, "Steps", o)
		holds(t, "names", api.Msg{Kind: 1, Op: o, Ops: []api.Op{o, o}})
	}
	for _, s := range longNames() {
		o := wholeOp(1)
		o.Def.Name = s
		failsDef(t, "Def", o.Def)
		failsOp(t, "Def", o)
		for i := range o.Def.Steps {
			o := wholeOp(1)
			o.Def.Steps[i].Name = s
			failsDef(t, "Steps", o.Def)
			failsOp(t, "Steps", o)
		}
	}
}

func TestGoodLooksAtHowManyStepsThereAre(t *testing.T) {
	for n := range 30 {
		for _, s := range []api.Step{{}, {Name: "a"}} {
			o := api.Op{Def: api.Def{Steps: slices.Repeat([]api.Step{s}, n)}}
			if n <= 8 {
				holdsOp(t, "few steps", o)
				holds(t, "few steps", api.Msg{Kind: 1, Op: o, Ops: []api.Op{o}})
			} else {
				failsOp(t, "many steps", o)
				failsDef(t, "many steps", o.Def)
			}
		}
	}
}

func TestGoodLooksAtHowManyIncsThereAre(t *testing.T) {
	for n := range 30 {
		tell(t, "Incs", n <= 5, api.Msg{Kind: 5, Incs: make([]int, n)})
		tell(t, "Incs", n <= 5, api.Msg{Kind: 5, Incs: slices.Repeat([]int{7}, n)})
	}
}

// long: a message whose content has n bytes.
func long(t *testing.T, n int) api.Msg {
	t.Helper()
	m := api.Msg{Kind: api.MsgDo} // two bytes, as each empty one of Ops
	if n%2 == 1 {
		m.View = 64 // three
	}
	m.Ops = make([]api.Op, (n-len(slowContent(m)))/2)
	if len(slowContent(m)) != n {
		t.Fatalf("the content has %d bytes, not %d", len(slowContent(m)), n)
	}
	return m
}

func TestGoodLooksAtTheLength(t *testing.T) {
	for _, n := range []int{127, 128, 1000, 65535, 65536} {
		holds(t, "long", long(t, n))
	}
	for _, n := range []int{65537, 65538, 65539, 100001} {
		m := long(t, n)
		if note.Good(m) || len(note.Bytes(m)) != 0 {
			t.Errorf("a message of %d bytes is Good", n)
		}
		reads(t, "too long", sealed(slowContent(m)), api.ErrBad)
	}
}

func TestTheLengthIsWhatTheBytesHave(t *testing.T) {
	o := api.Op{Request: 1 << 20, Def: api.Def{Steps: slices.Repeat([]api.Step{{Name: strings.Repeat("a", 16)}}, 8)}}
	m := api.Msg{Kind: api.MsgView, Op: o, Incs: []int{top, top}}
	each := len(slowOp(o)) + 4
	m.Ops = slices.Repeat([]api.Op{o}, (65536-3*each)/each)
	for len(slowContent(m)) <= 65536 {
		if !note.Good(m) {
			t.Fatalf("%d operations, of %d bytes, are not Good", len(m.Ops), len(slowContent(m)))
		}
		m.Ops = append(m.Ops, o)
	}
	if note.Good(m) {
		t.Fatalf("%d operations, of %d bytes, are Good", len(m.Ops), len(slowContent(m)))
	}
	m.Op = api.Op{}
	tell(t, "without the Op", len(slowContent(m)) <= 65536, m)
}

func TestWhatAKindDoesNotNameIsLookedAtToo(t *testing.T) {
	m := api.Msg{Kind: api.MsgCommit, Op: wholeOp(1), Incs: []int{1}}
	holds(t, "more than the Kind names", m)
	m.Op.Def.Name = longNames()[0]
	fails(t, "a Name that the Kind does not name", m)
	o := api.Op{Kind: api.OpStatus, Def: wholeDef(1)}
	holdsOp(t, "more than the Kind names", o)
	o.Def.Steps[0].Wait = -1
	failsOp(t, "a step that the Kind does not name", o)
}

// P9.3

func TestReadTellsOpensErrors(t *testing.T) {
	b := note.Bytes(wholeMsg())
	for n := range b {
		reads(t, "cut", b[:n], api.ErrShort)
	}
	for i := range b {
		for bit := range 8 {
			turned := slices.Clone(b)
			turned[i] ^= 1 << bit
			m, err := note.Read(turned)
			if err == api.OK || !reflect.DeepEqual(plain(m), api.Msg{}) {
				t.Fatalf("with bit %d of byte %d turned: %v, %v", bit, i, m, err)
			}
			if i == 0 && err != api.ErrOld {
				t.Errorf("of another version: %v", err)
			}
			if i > 3 && err != api.ErrSum {
				t.Errorf("with bit %d of byte %d turned: %v", bit, i, err)
			}
		}
	}
	for _, c := range []struct {
		name string
		b    []byte
		want api.Errno
	}{
		{"no count", []byte{3}, api.ErrShort},
		{"half a count", []byte{3, 128}, api.ErrShort},
		{"a count that is none", []byte{3, 128, 0, 1, 2, 3, 4}, api.ErrBad},
		{"a count that is too great", []byte{3, 129, 128, 4}, api.ErrBad},
		{"no content", []byte{3, 2, 2, 10}, api.ErrShort},
		{"no sum", []byte{3, 2, 2, 10, 0, 0, 0}, api.ErrShort},
		{"another sum", []byte{3, 2, 2, 10, 0, 0, 0, 0}, api.ErrSum},
		{"another version", []byte{2, 2, 2, 10, 0, 0, 0, 0}, api.ErrOld},
	} {
		reads(t, c.name, c.b, c.want)
	}
}

func TestReadTakesNothingBehindTheEnvelope(t *testing.T) {
	b := note.Bytes(api.Msg{Kind: api.MsgCommit})
	for _, tail := range [][]byte{{0}, {3}, b, make([]byte, 100)} {
		reads(t, "with something behind it", slices.Concat(b, tail), api.ErrBad)
	}
	if _, err := note.Read(b); err != api.OK {
		t.Errorf("without: %v", err)
	}
}

// wrong: contents of envelopes that no message has.
func wrong() map[string][]byte {
	return map[string][]byte{
		"half a number":                 {2},
		"half a count":                  {2, 10, 27, 128},
		"less than a count":             {2, 10, 27, 5, 2, 4},
		"a number that is none":         {2, 138, 0},
		"no field's number":             {2, 10, 0, 1},
		"an unknown number":             {2, 10, 36, 2},
		"an unknown text":               {2, 10, 37, 1, 97},
		"a great unknown number":        {2, 10, 128, 2, 2},
		"another order":                 {4, 2, 2, 10},
		"flags ahead of numbers":        {2, 10, 20, 1, 18, 2},
		"Incs ahead of Ops":             {2, 10, 34, 2, 33, 0},
		"a number twice":                {2, 10, 4, 2, 4, 2},
		"the Kind twice":                {2, 8, 2, 10},
		"an Op twice":                   {2, 10, 27, 2, 2, 2, 27, 2, 4, 2},
		"a zero number":                 {2, 10, 4, 0},
		"a zero flag":                   {2, 10, 20, 0},
		"a flag of 2":                   {2, 10, 20, 2},
		"a flag of 1 and much":          {2, 10, 20, 129, 128, 128, 128, 16},
		"an empty Op":                   {2, 10, 27, 0},
		"an empty Reply":                {2, 10, 29, 0},
		"an empty Command":              {2, 10, 31, 0},
		"a text for a number":           {2, 10, 5, 1, 2},
		"an empty text for a number":    {2, 10, 5, 0},
		"a text for a flag":             {2, 10, 21, 1, 1},
		"an empty text for a flag":      {2, 10, 21, 0},
		"a number for an Op":            {2, 10, 26, 2},
		"a zero for an Op":              {2, 10, 26, 0},
		"a number for a Reply":          {2, 10, 28, 2},
		"a number for one of Ops":       {2, 10, 32, 2},
		"a zero for one of Ops":         {2, 10, 32, 0},
		"a text for one of Incs":        {2, 10, 35, 1, 2},
		"an empty text for one of Incs": {2, 10, 35, 0},
		"an Op that ends too early":     {2, 10, 27, 1, 2},
		"an Op that is none":            {2, 10, 27, 2, 0, 2},
		"one of Ops that ends early":    {2, 10, 33, 1, 2},
		"one of Ops that is none":       {2, 10, 33, 0, 33, 2, 0, 2},
		"a Reply that ends early":       {2, 10, 29, 1, 2},
		"a Reply in another order":      {2, 10, 29, 4, 4, 4, 2, 2},
		"a Reply of an unknown number":  {2, 10, 29, 2, 10, 2},
		"a Command that ends early":     {2, 10, 31, 3, 2, 2, 4},
		"a Command of an unknown one":   {2, 10, 31, 2, 14, 2},
		"an Op of an unknown number":    {2, 10, 27, 2, 20, 2},
		"an Op of an empty Def":         {2, 10, 27, 2, 9, 0},
		"a Def that ends early":         {2, 10, 27, 3, 9, 1, 3},
		"a Step that ends early":        {2, 10, 27, 5, 9, 3, 5, 1, 4},
		"a number below 0":              {2, 10, 4, 1},
		"no Kind":                       {4, 2},
		"a Kind below 0":                {2, 1},
		"a Kind too great":              {2, 30},
		"an Errno too great":            {2, 10, 29, 2, 2, 32},
		"an Errno below 0":              {2, 10, 29, 2, 2, 1},
		"too many Incs":                 {2, 10, 34, 2, 34, 2, 34, 2, 34, 2, 34, 2, 34, 2},
		"one of Incs below 0":           {2, 10, 34, 2, 34, 1},
		"a count with a byte too many":  {2, 10, 27, 130, 0, 2, 2},
		"an envelope":                   sealedOf(2, 10),
	}
}

func TestReadTellsWhatIsNoMessage(t *testing.T) {
	for name, content := range wrong() {
		reads(t, name, sealed(content), api.ErrBad)
	}
	if m, err := note.Read(sealedOf(2, 10)); err != api.OK || m.Kind != api.MsgCommit {
		t.Errorf("what they are made of is no message: %v, %v", m, err)
	}
}

func TestReadOpTellsFieldsErrors(t *testing.T) {
	for _, c := range []struct {
		name string
		b    []byte
		want api.Errno
	}{
		{"half a number", []byte{2}, api.ErrShort},
		{"half a number of many bytes", []byte{2, 4, 4, 128, 128}, api.ErrShort},
		{"half a field's number", []byte{2, 4, 132}, api.ErrShort},
		{"a text without a count", []byte{9}, api.ErrShort},
		{"less than a count", []byte{9, 4, 3, 1, 'a'}, api.ErrShort},
		{"of an unknown number, too short", []byte{20}, api.ErrShort},
		{"out of order, too short", []byte{4, 2, 2}, api.ErrShort},
		{"a Kind that may not be, too short", []byte{2, 100, 4}, api.ErrShort},
		{"no field's number", []byte{0}, api.ErrBad},
		{"a number that is none", []byte{2, 132, 0}, api.ErrBad},
		{"a number above 64 bits", []byte{2, 255, 255, 255, 255, 255, 255, 255, 255, 255, 2}, api.ErrBad},
		{"no field's number ahead of one too short", []byte{0, 2, 2}, api.ErrBad},
		{"short behind what is none", []byte{2, 132, 0, 4}, api.ErrBad},
		{"another order", []byte{4, 2, 2, 4}, api.ErrBad},
		{"a number twice", []byte{2, 4, 2, 4}, api.ErrBad},
		{"a zero", []byte{2, 0}, api.ErrBad},
		{"a flag of 2", []byte{16, 2}, api.ErrBad},
		{"a flag of 0", []byte{18, 0}, api.ErrBad},
		{"a text for a number", []byte{3, 1, 4}, api.ErrBad},
		{"a text for a flag", []byte{17, 1, 1}, api.ErrBad},
		{"a number for a Def", []byte{8, 4}, api.ErrBad},
		{"an empty Def", []byte{9, 0}, api.ErrBad},
		{"a Def that ends too early", []byte{9, 1, 3}, api.ErrBad},
		{"a Def that is none", []byte{9, 2, 0, 0}, api.ErrBad},
		{"a Def of an unknown number", []byte{9, 2, 6, 2}, api.ErrBad},
		{"a Step that ends too early", []byte{9, 3, 5, 1, 4}, api.ErrBad},
		{"a Step of an unknown number", []byte{9, 4, 5, 2, 14, 2}, api.ErrBad},
		{"a Def twice", []byte{9, 2, 5, 0, 9, 2, 5, 0}, api.ErrBad},
		{"an unknown number", []byte{20, 2}, api.ErrBad},
		{"the number 1000", []byte{208, 15, 2}, api.ErrBad},
		{"a Kind too great", []byte{2, 12}, api.ErrBad},
		{"a Kind below 0", []byte{2, 1}, api.ErrBad},
	} {
		readsOp(t, c.name, c.b, c.want)
	}
}

func TestReadDefTellsFieldsErrors(t *testing.T) {
	for _, c := range []struct {
		name string
		b    []byte
		want api.Errno
	}{
		{"half a number", []byte{3}, api.ErrShort},
		{"less than a count", []byte{3, 2, 'a'}, api.ErrShort},
		{"out of order, too short", []byte{5, 0, 3}, api.ErrShort},
		{"no field's number", []byte{0, 1}, api.ErrBad},
		{"a count that is none", []byte{3, 129, 0, 'a'}, api.ErrBad},
		{"another order", []byte{5, 0, 3, 1, 'a'}, api.ErrBad},
		{"a Name twice", []byte{3, 1, 'a', 3, 1, 'a'}, api.ErrBad},
		{"an empty Name", []byte{3, 0}, api.ErrBad},
		{"a number for a Name", []byte{2, 97}, api.ErrBad},
		{"a zero for a Step", []byte{4, 0}, api.ErrBad},
		{"a number for a Step", []byte{4, 2}, api.ErrBad},
		{"an unknown number", []byte{6, 2}, api.ErrBad},
		{"a Step that ends too early", []byte{5, 1, 4}, api.ErrBad},
		{"a Step that is none", []byte{5, 2, 0, 0}, api.ErrBad},
		{"a Step in another order", []byte{5, 4, 6, 2, 4, 2}, api.ErrBad},
		{"a Step with an empty Name", []byte{5, 2, 3, 0}, api.ErrBad},
		{"a Step with a zero", []byte{5, 2, 4, 0}, api.ErrBad},
		{"a Step with a flag of 2", []byte{5, 2, 10, 2}, api.ErrBad},
		{"a Step of an unknown number", []byte{5, 2, 14, 2}, api.ErrBad},
		{"a Step with a number below 0", []byte{5, 2, 4, 1}, api.ErrBad},
		{"nine Steps", bytes.Repeat([]byte{5, 0}, 9), api.ErrBad},
		{"a long Name", append([]byte{3, 17}, longNames()[0]...), api.ErrBad},
	} {
		readsDef(t, c.name, c.b, c.want)
	}
}

func TestPrefixesAreReadAsFieldSaysIt(t *testing.T) {
	b, some := note.OpBytes(wholeOp(1)), 0
	for n := range len(b) + 1 {
		some += readAsSaid(t, b[:n])
	}
	if some != 10+1 { // operations behind each of nine fields and ahead of them, and a definition there
		t.Errorf("%d prefixes are operations or definitions", some)
	}
}

// P9.4, and P9.3's other way round: what is read has those bytes

func TestReadOfBytesIsTheMessage(t *testing.T) {
	for seed := range uint64(10000) {
		m := newChance(seed).msg()
		holds(t, "by chance", m)
		holdsOp(t, "by chance", m.Op)
	}
}

func TestWhatIsReadHasThoseBytes(t *testing.T) {
	some := 0
	for seed := range uint64(20000) {
		c := newChance(seed)
		content := slowContent(c.msg())
		for range 1 + c.IntN(2) {
			content = spoiled(c, content)
		}
		b := sealed(content)
		m, err := note.Read(b)
		if err == api.OK {
			some++
			if !note.Good(m) || !bytes.Equal(sealed(slowContent(m)), b) {
				t.Fatalf("Read of %v: %v", b, m)
			}
		} else {
			reads(t, "spoiled", b, api.ErrBad)
		}
	}
	if some < 1000 || some > 39000 {
		t.Errorf("%d of all are messages: too few, or too many, to tell", some)
	}
}

// spoiled: b with one byte changed, left out, put in, or two pieces turned round.
func spoiled(c chance, b []byte) []byte {
	at := c.IntN(len(b))
	switch c.IntN(5) {
	case 0:
		return slices.Concat(b[:at], b[at+1:])
	case 1:
		return slices.Concat(b[:at], []byte{byte(c.IntN(40))}, b[at:])
	case 2:
		return slices.Concat(b[at:], b[:at])
	}
	b = slices.Clone(b)
	b[at] ^= 1 << c.IntN(8)
	return b
}

// texts: all lists of at most n of those bytes, each handed to yield.
func texts(alphabet []byte, n int, yield func([]byte)) {
	var more func(b []byte)
	more = func(b []byte) {
		yield(b)
		if len(b) == n {
			return
		}
		for _, c := range alphabet {
			more(append(b[:len(b):len(b)], c))
		}
	}
	more(nil)
}

// scan: what chapter 1 says of b as a record.
func scan(b []byte) api.Errno {
	number := func() (uint64, api.Errno) {
		v, n := binary.Uvarint(b)
		switch {
		case n == 0 && len(b) < 10:
			return 0, api.ErrShort
		case n <= 0 || n > 1 && b[n-1] == 0:
			return 0, api.ErrBad
		}
		b = b[n:]
		return v, api.OK
	}
	for len(b) > 0 {
		key, err := number()
		if err != api.OK {
			return err
		}
		if key < 2 || key > 2001 {
			return api.ErrBad
		}
		v, err := number()
		if err != api.OK {
			return err
		}
		if key%2 == 0 {
			continue
		}
		if v > uint64(len(b)) {
			return api.ErrShort
		}
		b = b[v:]
	}
	return api.OK
}

// readAsSaid: each of these is read as what has those bytes, or as field says it, or as ErrBad; how many were read.
func readAsSaid(t *testing.T, b []byte) int {
	t.Helper()
	some := 0
	o, err := note.ReadOp(b)
	d, errDef := note.ReadDef(b)
	want := scan(b)
	if want == api.OK {
		want = api.ErrBad
	}
	switch {
	case err == api.OK && (!note.GoodOp(o) || !bytes.Equal(slowOp(o), b)):
		t.Fatalf("ReadOp of %v: %v", b, o)
	case err == api.OK:
		some++
	case err != want || !reflect.DeepEqual(plainOp(o), api.Op{}):
		t.Fatalf("ReadOp of %v: %v, %v, want %v", b, o, err, want)
	}
	switch {
	case errDef == api.OK && (!note.GoodOp(api.Op{Def: d}) || !bytes.Equal(slowDef(d), b)):
		t.Fatalf("ReadDef of %v: %v", b, d)
	case errDef == api.OK:
		some++
	case errDef != want || !reflect.DeepEqual(plainDef(d), api.Def{}):
		t.Fatalf("ReadDef of %v: %v, %v, want %v", b, d, errDef, want)
	}
	return some
}

func TestAllShortBytesAreReadAsSaid(t *testing.T) {
	every := make([]byte, 256)
	for i := range every {
		every[i] = byte(i)
	}
	some := 0
	texts(every, 2, func(b []byte) { some += readAsSaid(t, b) })
	texts([]byte{0, 1, 2, 3, 4, 5, 8, 9, 10, 16, 128, 255}, 5, func(b []byte) { some += readAsSaid(t, b) })
	if some < 1000 {
		t.Errorf("%d are operations or definitions: too few to tell", some)
	}
}

func TestSpoiledBytesAreReadAsSaid(t *testing.T) {
	some := 0
	for seed := range uint64(20000) {
		c := newChance(seed)
		o := c.op()
		for _, b := range [][]byte{slowOp(o), slowDef(o.Def)} {
			if len(b) > 0 {
				some += readAsSaid(t, spoiled(c, b))
			}
		}
	}
	if some < 1000 {
		t.Errorf("%d are operations or definitions: too few to tell", some)
	}
}

func TestAlikeBytesAreOfAlikeThings(t *testing.T) {
	seen := map[string]api.Op{}
	for seed := range uint64(5000) {
		o := plainOp(newChance(seed).op())
		b := string(note.OpBytes(o))
		if was, ok := seen[b]; ok && !reflect.DeepEqual(was, o) {
			t.Fatalf("%v and %v have the bytes %v", was, o, b)
		}
		seen[b] = o
	}
}
