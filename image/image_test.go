package image_test

import (
	"bytes"
	"encoding/binary"
	"hash/crc32"
	"math"
	"slices"
	"strconv"
	"strings"
	"testing"

	"drover/api"
	"drover/book"
	"drover/def"
	"drover/envelope"
	"drover/field"
	"drover/image"
	"drover/note"
	"drover/saga"
)

// The signatures that the chapter lists.
var (
	_ func(b *book.Book, most int) []byte                  = image.Bytes
	_ func(p []byte) (b *book.Book, most int, e api.Errno) = image.Read
	_ func(saga.Saga) []byte                               = image.Saga
	_ func(p []byte) (saga.Saga, api.Errno)                = image.ReadSaga
	_ func(*book.Book) uint32                              = image.Digest
)

// The limits, by their numbers.
const (
	maxSteps = 8
	maxSagas = 32
	maxFrame = 65536
	maxId    = 1 << 40
)

const (
	low  = math.MinInt
	high = math.MaxInt
	far  = 1 << 32 // what is as much above another number is alike in its low half
)

func states() []int { return []int{api.Running, api.Undoing, api.Done, api.Aborted, api.Stuck} }

// The records as the chapter's words make them, put together from their fields: what the package is held against.

// numberOf: a field of a number, zero or not.
func numberOf(num, n int) []byte {
	return field.Uint(field.Uint(nil, uint64(2*num)), field.Zig(n))
}

// textOf: a field of bytes, empty or not.
func textOf(num int, b []byte) []byte {
	return append(field.Uint(field.Uint(nil, uint64(2*num+1)), uint64(len(b))), b...)
}

// unlessZero: such a field; nothing, if the number is zero.
func unlessZero(num, n int) []byte {
	if n == 0 {
		return nil
	}
	return numberOf(num, n)
}

// recordOf: the record of s, whether it is Good or not.
func recordOf(s saga.Saga) []byte {
	var p []byte
	if d := note.DefBytes(s.Def); len(d) > 0 {
		p = textOf(1, d)
	}
	p = slices.Concat(p, unlessZero(2, s.State), unlessZero(3, s.Step), unlessZero(4, s.Try))
	for i, h := range s.Hit {
		if h {
			p = append(p, numberOf(5, i+1)...)
		}
	}
	return p
}

// entry: a saga, and its number in a Book.
type entry struct {
	id   int
	saga saga.Saga
}

// contentOf: what stands in the envelope of a Book of those sagas, in that order, whether there may be such a one or not.
func contentOf(most int, l ...entry) []byte {
	p := unlessZero(1, most)
	for _, e := range l {
		p = slices.Concat(p, unlessZero(2, e.id), textOf(3, recordOf(e.saga)))
	}
	return p
}

// sealed: an envelope, even of what is too long for one.
func sealed(content []byte) []byte {
	b := append(field.Uint([]byte{envelope.Version}, uint64(len(content))), content...)
	return binary.LittleEndian.AppendUint32(b, crc32.ChecksumIEEE(b))
}

// Definitions and sagas, made anew by each call.

func parsed(text string) api.Def {
	d, _, err := def.Parse(text)
	if err != api.OK {
		panic(text)
	}
	return d
}

// pay: the first step, tried twice, may be undone; the second one is the pivot.
func pay() api.Def {
	return parsed("saga pay { step hold stub 1 retry 1 wait 5 undo; step ship stub 2 wait 7 pivot; }")
}

// greatest: a definition none of whose numbers, texts and lists may be longer.
func greatest() api.Def {
	d := api.Def{Name: strings.Repeat("n", 16)}
	for i := range maxSteps {
		d.Steps = append(d.Steps, api.Step{Name: strings.Repeat("s", 15) + string(rune('a'+i)), Stub: 4, Retry: 9, Wait: 99, Undo: true})
	}
	return d
}

// of: a saga of d, of which the first so many steps are hit.
func of(d api.Def, state, step, try, hit int) saga.Saga {
	s := saga.Saga{Def: d, State: state, Step: step, Try: try}
	for i := range hit {
		s.Hit[i] = true
	}
	return s
}

// inState: a saga of pay in that state.
func inState(state int) saga.Saga {
	at := map[int][3]int{api.Running: {1, 1, 0}, api.Undoing: {1, 2, 1}, api.Done: {0, 0, 2}, api.Aborted: {}, api.Stuck: {2, 0, 2}}[state]
	return of(pay(), state, at[0], at[1], at[2])
}

// entries: sagas 1 and on, in those states.
func entries(states ...int) []entry {
	var l []entry
	for i, state := range states {
		l = append(l, entry{i + 1, inState(state)})
	}
	return l
}

// bookOf: a Book of those sagas.
func bookOf(t *testing.T, most int, l ...entry) *book.Book {
	t.Helper()
	b := book.New(most)
	for _, e := range l {
		if err := b.Set(e.id, e.saga); err != api.OK {
			t.Fatalf("Set(%d, %+v): %v", e.id, e.saga, err)
		}
	}
	return b
}

// What the tests ask again and again.

// holdsSaga: s is written as it must be, and read again.
func holdsSaga(t *testing.T, s saga.Saga) {
	t.Helper()
	p := image.Saga(s)
	if want := recordOf(s); len(p) == 0 || !bytes.Equal(p, want) {
		t.Fatalf("Saga(%+v): %v, want %v", s, p, want)
	}
	readsSaga(t, p, s)
}

func readsSaga(t *testing.T, p []byte, want saga.Saga) {
	t.Helper()
	if got, err := image.ReadSaga(p); err != api.OK || !saga.Same(got, want) {
		t.Fatalf("ReadSaga(%v): %+v, %v, want %+v", p, got, err, want)
	}
}

// refusesSaga: ReadSaga of p answers that error, and no saga.
func refusesSaga(t *testing.T, p []byte, want api.Errno) {
	t.Helper()
	got, err := image.ReadSaga(p)
	if err != want || !saga.Same(got, saga.Saga{}) {
		t.Fatalf("ReadSaga(%v): %+v, %v, want %v", p, got, err, want)
	}
}

// isNoSaga: s has no bytes, and those that it would have are bad.
func isNoSaga(t *testing.T, s saga.Saga) {
	t.Helper()
	if p := image.Saga(s); len(p) > 0 {
		t.Fatalf("Saga(%+v): %v", s, p)
	}
	refusesSaga(t, recordOf(s), api.ErrBad)
}

// holds: b is written as it must be, and read again as a Book of those sagas, of which most at once may be under way.
func holds(t *testing.T, b *book.Book, most int, l ...entry) {
	t.Helper()
	writes(t, b, most, l...)
	reads(t, sealed(contentOf(most, l...)), most, l...)
}

func writes(t *testing.T, b *book.Book, most int, l ...entry) {
	t.Helper()
	if got, want := image.Bytes(b, most), sealed(contentOf(most, l...)); !bytes.Equal(got, want) {
		t.Fatalf("Bytes with most %d of %d sagas: %v, want %v", most, len(l), got, want)
	}
}

func reads(t *testing.T, p []byte, most int, l ...entry) {
	t.Helper()
	b, n, err := image.Read(p)
	if err != api.OK || b == nil || n != most {
		t.Fatalf("Read(%v): %v, %d, %v, want most %d", p, b, n, err, most)
	}
	if !b.Same(bookOf(t, most, l...)) {
		t.Fatalf("Read(%v) is another Book: %v", p, b.Ids())
	}
	var ids []int
	for _, e := range l {
		ids = append(ids, e.id)
		if s, ok := b.Saga(e.id); !ok || !saga.Same(s, e.saga) {
			t.Fatalf("Read(%v): saga %d is %+v, %v, want %+v", p, e.id, s, ok, e.saga)
		}
	}
	if got := b.Ids(); !slices.Equal(got, ids) {
		t.Fatalf("Read(%v): sagas %v, want %v", p, got, ids)
	}
}

// refuses: Read of p answers that error, and nothing else.
func refuses(t *testing.T, name string, p []byte, want api.Errno) {
	t.Helper()
	if b, most, err := image.Read(p); b != nil || most != 0 || err != want {
		t.Fatalf("%s: Read(%v): %v, %d, %v, want %v", name, p, b, most, err, want)
	}
}

func TestTheChaptersExample(t *testing.T) {
	want := []byte{3, 0, 0, 0, 0, 0}
	binary.LittleEndian.PutUint32(want[2:], crc32.ChecksumIEEE(want[:2]))
	if got := image.Bytes(book.New(0), 0); !bytes.Equal(got, want) {
		t.Errorf("Bytes: %v, want %v", got, want)
	}
	reads(t, want, 0)
}

// P17.1

func TestSagaFieldByField(t *testing.T) {
	d := func() api.Def {
		return parsed("saga a { step b stub 1 wait 64 undo; step c stub 2 retry 1 wait 1 undo; }")
	}
	ofDef := []byte{3, 28, 3, 1, 'a', 5, 10, 3, 1, 'b', 4, 2, 8, 128, 1, 10, 1, 5, 11, 3, 1, 'c', 4, 4, 6, 2, 8, 2, 10, 1}
	for _, c := range []struct {
		s    saga.Saga
		want []byte // behind Def
	}{
		{of(d(), api.Running, 1, 1, 0), []byte{4, 2, 6, 2, 8, 2}},
		{of(d(), api.Running, 1, 1, 1), []byte{4, 2, 6, 2, 8, 2, 10, 2}},
		{of(d(), api.Running, 2, 2, 1), []byte{4, 2, 6, 4, 8, 4, 10, 2}},
		{of(d(), api.Undoing, 2, 1, 2), []byte{4, 4, 6, 4, 8, 2, 10, 2, 10, 4}},
		{of(d(), api.Done, 0, 0, 2), []byte{4, 6, 10, 2, 10, 4}},
		{of(d(), api.Aborted, 0, 0, 0), []byte{4, 8}},
		{of(d(), api.Stuck, 1, 0, 1), []byte{4, 10, 6, 2, 10, 2}},
	} {
		if got, want := image.Saga(c.s), append(slices.Clone(ofDef), c.want...); !bytes.Equal(got, want) {
			t.Errorf("Saga(%+v): %v, want %v", c.s, got, want)
		}
		holdsSaga(t, c.s)
	}
}

// sagasOf: of all sagas of d, with numbers up to somewhat more than may be, and all that may be hit, those that are Good, or those that are not.
func sagasOf(d api.Def, good bool) []saga.Saga {
	var l []saga.Saga
	for state := range 7 {
		for step := range len(d.Steps) + 2 {
			for try := range 4 {
				for hit := range 1 << (len(d.Steps) + 1) {
					s := saga.Saga{Def: d, State: state, Step: step, Try: try}
					for i := range min(len(d.Steps)+1, maxSteps) {
						s.Hit[i] = hit>>i&1 == 1
					}
					if saga.Good(s) == good {
						l = append(l, s)
					}
				}
			}
		}
	}
	return l
}

func someDefs() []api.Def {
	return []api.Def{
		pay(),
		parsed("saga a { step b stub 3 wait 2 undo; }"),
		parsed("saga a { step p stub 4 retry 2 wait 99 pivot; }"),
		parsed("saga undo { step b stub 3 retry 2 undo; step c stub 1 retry 1 undo; step d stub 2 undo; }"),
		parsed("saga all-three { step b stub 3 retry 1 undo; step pivot stub 4 retry 2 pivot; step e stub 1 wait 1; }"),
		parsed("saga behind-1 { step p stub 4 pivot; step e stub 1; step f stub 2 retry 1 wait 10; }"),
	}
}

func TestAllSagasOfSomeDefinitions(t *testing.T) {
	seen := map[string]saga.Saga{}
	for _, d := range someDefs() {
		for _, s := range sagasOf(d, true) {
			holdsSaga(t, s)
			if other, ok := seen[string(image.Saga(s))]; ok {
				t.Fatalf("%+v has the bytes of %+v", s, other)
			}
			seen[string(image.Saga(s))] = s
		}
		for _, s := range sagasOf(d, false) {
			isNoSaga(t, s)
		}
	}
	if len(seen) < 90 {
		t.Errorf("only %d sagas", len(seen))
	}
}

func TestTheLongestSaga(t *testing.T) {
	for step := 1; step <= maxSteps; step++ {
		for try := 1; try <= 10; try++ {
			holdsSaga(t, of(greatest(), api.Undoing, step, try, step))
			holdsSaga(t, of(greatest(), api.Running, step, try, step-1))
		}
		holdsSaga(t, of(greatest(), api.Stuck, step, 0, step))
		isNoSaga(t, of(greatest(), api.Undoing, step, 11, step))
	}
	holdsSaga(t, of(greatest(), api.Done, 0, 0, maxSteps))
	for i := range maxSteps {
		s := of(greatest(), api.Done, 0, 0, maxSteps)
		s.Hit[i] = false
		isNoSaga(t, s)
	}
}

func TestSagasThatMayNotBe(t *testing.T) {
	with := func(set func(*saga.Saga)) saga.Saga {
		s := inState(api.Running)
		set(&s)
		return s
	}
	for _, s := range []saga.Saga{
		{},
		{State: api.Aborted},
		{Def: api.Def{Name: "a"}, State: api.Aborted},
		with(func(s *saga.Saga) { s.Def.Name = "" }),
		with(func(s *saga.Saga) { s.Def.Name = "A" }),
		with(func(s *saga.Saga) { s.Def.Name = strings.Repeat("a", 17) }),
		with(func(s *saga.Saga) { s.Def.Name = strings.Repeat("a", 100000) }),
		with(func(s *saga.Saga) { s.Def.Steps = nil }),
		with(func(s *saga.Saga) { s.Def.Steps = make([]api.Step, 9) }),
		with(func(s *saga.Saga) { s.Def.Steps[1].Pivot = false }),
		with(func(s *saga.Saga) { s.Def.Steps[0].Name = "ship" }),
		with(func(s *saga.Saga) { s.Def.Steps[0].Stub = 5 }),
		with(func(s *saga.Saga) { s.Def.Steps[0].Retry = 10 }),
		with(func(s *saga.Saga) { s.Def.Steps[0].Wait = 100 }),
	} {
		isNoSaga(t, s)
	}
	for _, n := range []int{-1, -2, 6, 9, low, low + 1, high, far, far + 1, -far, maxId, maxId + 1} {
		isNoSaga(t, with(func(s *saga.Saga) { s.State = n }))
		isNoSaga(t, with(func(s *saga.Saga) { s.Step = n }))
		isNoSaga(t, with(func(s *saga.Saga) { s.Try = n }))
	}
	for _, n := range []int{-1, 0, 100, 101, low, high, far + 1, -far + 1, maxId + 1} {
		isNoSaga(t, with(func(s *saga.Saga) { s.Def.Steps[0].Wait = n }))
		isNoSaga(t, with(func(s *saga.Saga) { s.Def.Steps[1].Stub = n }))
	}
}

// parts of a saga's record, to be put together otherwise: that of one that is Undoing step 2 by its second try.
type parts struct{ def, state, step, try, first, second []byte }

func two() api.Def {
	return parsed("saga two { step a stub 1 wait 1 undo; step b stub 2 retry 3 wait 4 undo; }")
}

func partsOfTwo() parts {
	return parts{textOf(1, note.DefBytes(two())), numberOf(2, api.Undoing), numberOf(3, 2), numberOf(4, 2), numberOf(5, 1), numberOf(5, 2)}
}

func TestReadSagaOfOtherRecords(t *testing.T) {
	p := partsOfTwo()
	join := func(l ...[]byte) []byte { return slices.Concat(l...) }
	readsSaga(t, join(p.def, p.state, p.step, p.try, p.first, p.second), of(two(), api.Undoing, 2, 2, 2))
	zeroTry := join(p.def, numberOf(2, api.Stuck), p.step)
	readsSaga(t, join(zeroTry, p.first, p.second), of(two(), api.Stuck, 2, 0, 2))
	longDef := textOf(1, append(note.DefBytes(two()), 8, 2))
	noStub := two()
	noStub.Steps[0].Stub = 0
	for name, b := range map[string][]byte{
		"nothing":                           {},
		"no Def":                            join(p.state, p.step, p.try, p.first, p.second),
		"no State":                          join(p.def, p.step, p.try, p.first, p.second),
		"no Step":                           join(p.def, p.state, p.try, p.first, p.second),
		"no Try":                            join(p.def, p.state, p.step, p.first, p.second),
		"nothing hit":                       join(p.def, p.state, p.step, p.try),
		"only the second one hit":           join(p.def, p.state, p.step, p.try, p.second),
		"hit falling":                       join(p.def, p.state, p.step, p.try, p.second, p.first),
		"hit twice":                         join(p.def, p.state, p.step, p.try, p.first, p.second, p.second),
		"hit 0":                             join(p.def, p.state, p.step, p.try, numberOf(5, 0), p.first, p.second),
		"hit 3":                             join(p.def, p.state, p.step, p.try, p.first, p.second, numberOf(5, 3)),
		"hit 9":                             join(p.def, p.state, p.step, p.try, p.first, p.second, numberOf(5, 9)),
		"hit -1":                            join(p.def, p.state, p.step, p.try, p.first, p.second, numberOf(5, -1)),
		"hit far":                           join(p.def, p.state, p.step, p.try, p.first, p.second, numberOf(5, far+2)),
		"hit the least number":              join(p.def, p.state, p.step, p.try, p.first, p.second, numberOf(5, low)),
		"hit the greatest number":           join(p.def, p.state, p.step, p.try, p.first, p.second, numberOf(5, high)),
		"hit as a text":                     join(p.def, p.state, p.step, p.try, p.first, p.second, textOf(5, nil)),
		"hit as a text of its number":       join(p.def, p.state, p.step, p.try, p.first, textOf(5, []byte{2})),
		"Def twice":                         join(p.def, p.def, p.state, p.step, p.try, p.first, p.second),
		"another Def ahead":                 join(textOf(1, note.DefBytes(pay())), p.def, p.state, p.step, p.try, p.first, p.second),
		"half a Def ahead":                  join(textOf(1, []byte{3}), p.def, p.state, p.step, p.try, p.first, p.second),
		"Def last":                          join(p.state, p.step, p.try, p.first, p.second, p.def),
		"Def as a number":                   join(numberOf(1, 1), p.state, p.step, p.try, p.first, p.second),
		"an empty Def":                      join(textOf(1, nil), p.state, p.step, p.try, p.first, p.second),
		"half a Def":                        join(textOf(1, note.DefBytes(two())[:9]), p.state, p.step, p.try, p.first, p.second),
		"Def with a field more":             join(longDef, p.state, p.step, p.try, p.first, p.second),
		"Def that Check refuses":            join(textOf(1, note.DefBytes(noStub)), p.state, p.step, p.try, p.first, p.second),
		"State twice":                       join(p.def, p.state, p.state, p.step, p.try, p.first, p.second),
		"another State ahead":               join(p.def, numberOf(2, 1), p.state, p.step, p.try, p.first, p.second),
		"State behind Step":                 join(p.def, p.step, p.state, p.try, p.first, p.second),
		"State as a text":                   join(p.def, textOf(2, []byte{4}), p.step, p.try, p.first, p.second),
		"State 0":                           join(p.def, numberOf(2, 0), p.step, p.try, p.first, p.second),
		"State 6":                           join(p.def, numberOf(2, 6), p.step, p.try, p.first, p.second),
		"State far":                         join(p.def, numberOf(2, far+2), p.step, p.try, p.first, p.second),
		"Step twice":                        join(p.def, p.state, p.step, p.step, p.try, p.first, p.second),
		"Step 0":                            join(p.def, p.state, numberOf(3, 0), p.try, p.first, p.second),
		"Try ahead of Step":                 join(p.def, p.state, p.try, p.step, p.first, p.second),
		"Try 0":                             join(p.def, p.state, p.step, numberOf(4, 0), p.first, p.second),
		"Try 5":                             join(p.def, p.state, p.step, numberOf(4, 5), p.first, p.second),
		"Try last":                          join(p.def, p.state, p.step, p.first, p.second, p.try),
		"a Try that is 0 and written":       join(zeroTry, numberOf(4, 0), p.first, p.second),
		"a Try that is 0 and an empty text": join(zeroTry, textOf(4, nil), p.first, p.second),
		"a field more":                      join(p.def, p.state, p.step, p.try, p.first, p.second, numberOf(6, 0)),
		"a text more":                       join(p.def, p.state, p.step, p.try, p.first, p.second, textOf(6, nil)),
		"a field more ahead":                join(numberOf(1000, 1), p.def, p.state, p.step, p.try, p.first, p.second),
	} {
		t.Run(name, func(t *testing.T) { refusesSaga(t, b, api.ErrBad) })
	}
}

// What field's Read says of p is told ahead of all else.
func TestReadSagaOfNoRecord(t *testing.T) {
	whole := recordOf(of(two(), api.Undoing, 2, 2, 2))
	unfinished, none := []byte{4, 128}, []byte{4, 128, 0}
	for _, ahead := range [][]byte{nil, whole, numberOf(9, 9), textOf(1, []byte{3}), partsOfTwo().state, numberOf(5, high)} {
		for _, c := range []struct {
			behind []byte
			want   api.Errno
		}{
			{[]byte{4}, api.ErrShort}, {[]byte{128}, api.ErrShort}, {unfinished, api.ErrShort}, {[]byte{3, 1}, api.ErrShort}, {[]byte{3, 255}, api.ErrShort}, {slices.Concat([]byte{11, 3}, none[1:]), api.ErrShort},
			{[]byte{0}, api.ErrBad}, {[]byte{1, 0}, api.ErrBad}, {none, api.ErrBad}, {[]byte{128, 0}, api.ErrBad}, {numberOf(1001, 1), api.ErrBad}, {bytes.Repeat([]byte{255}, 12), api.ErrBad}, {slices.Concat(none, unfinished), api.ErrBad},
		} {
			refusesSaga(t, slices.Concat(ahead, c.behind), c.want)
		}
	}
	inner := textOf(1, []byte{3, 1}) // what ends within Def is whole outside of it
	refusesSaga(t, slices.Concat(inner, whole[len(textOf(1, note.DefBytes(two()))):]), api.ErrBad)
}

func TestReadSagaOfPieces(t *testing.T) {
	whole := recordOf(of(two(), api.Undoing, 2, 2, 2))
	ends := map[int]bool{} // where a field ends: what ends there is a record, but no saga's
	n := 0
	p := partsOfTwo()
	for _, b := range [][]byte{nil, p.def, p.state, p.step, p.try, p.first} {
		n += len(b)
		ends[n] = true
	}
	for n := range whole {
		refusesSaga(t, whole[:n], map[bool]api.Errno{true: api.ErrBad, false: api.ErrShort}[ends[n]])
	}
	readsSaga(t, whole, of(two(), api.Undoing, 2, 2, 2))
}

// P17.2

func TestBytesFieldByField(t *testing.T) {
	first, second := inState(api.Running), inState(api.Done)
	content := slices.Concat([]byte{2, 6, 4, 2, 7, byte(len(recordOf(first)))}, recordOf(first), []byte{4, 216, 4, 7, byte(len(recordOf(second)))}, recordOf(second))
	b := bookOf(t, 3, entry{300, second}, entry{1, first})
	if got := image.Bytes(b, 3); !bytes.Equal(got, sealed(content)) {
		t.Errorf("Bytes: %v, want %v", got, sealed(content))
	}
	reads(t, sealed(content), 3, entry{1, first}, entry{300, second})
	if got := image.Bytes(b, 0); !bytes.Equal(got, sealed(content[2:])) {
		t.Errorf("Bytes with most 0: %v, want %v", got, sealed(content[2:]))
	}
}

func TestBytesByNumbers(t *testing.T) {
	ids := []int{9, 4, 30, 2, 127, 128, 100, 50, 61, 23, maxId, 1, 64, 63, 8191, 8192, maxId - 1, far, far + 1}
	b := book.New(1)
	var l []entry
	for i, id := range ids {
		e := entry{id, of(pay(), api.Done, 0, 0, 2)}
		e.saga.Def.Name = "n" + strconv.Itoa(i)
		l = append(l, e)
		if err := b.Set(e.id, e.saga); err != api.OK {
			t.Fatalf("Set(%d): %v", id, err)
		}
	}
	slices.SortFunc(l, func(a, b entry) int { return a.id - b.id })
	for range 30 { // a map's order is another one each time
		holds(t, b, 1, l...)
	}
}

func TestBytesOfEachMost(t *testing.T) {
	for most := range maxSagas + 1 {
		for n := range maxSagas + 1 {
			l := entries(slices.Repeat([]int{api.Running}, n)...)
			b := bookOf(t, maxSagas, l...)
			if n <= most {
				holds(t, b, most, l...)
			} else {
				writes(t, b, most, l...)
				refuses(t, "more are under way than may be", image.Bytes(b, most), api.ErrBad)
			}
		}
	}
	for _, most := range []int{-1, maxSagas + 1, maxSagas + 2, 64, -32, low, low + 1, high, far, far + 1, far + 3, -far, 256} {
		for _, l := range [][]entry{nil, entries(api.Done), entries(states()...)} {
			writes(t, bookOf(t, 2, l...), most, l...)
			refuses(t, "most that may not be", sealed(contentOf(most, l...)), api.ErrBad)
		}
	}
}

func TestBytesOfEachState(t *testing.T) {
	for _, a := range states() {
		for _, b := range states() {
			for _, c := range states() {
				l := entries(a, b, c)
				for most := range 4 {
					n := 0
					for _, state := range []int{a, b, c} {
						n += map[bool]int{true: 1}[state <= api.Undoing]
					}
					if n <= most {
						holds(t, bookOf(t, most, l...), most, l...)
					} else {
						refuses(t, "more are under way than may be", sealed(contentOf(most, l...)), api.ErrBad)
					}
				}
			}
		}
	}
}

func TestBytesOfNoBook(t *testing.T) {
	var zero book.Book
	for _, b := range []*book.Book{nil, &zero, zero.Copy(), new(book.Book), book.New(-1), book.New(maxSagas + 1)} {
		for _, most := range []int{0, 1, 3, maxSagas, -1, low, high} {
			if p := image.Bytes(b, most); len(p) > 0 {
				t.Errorf("Bytes of what no call made, most %d: %v", most, p)
			}
		}
		if n := image.Digest(b); n != 0 {
			t.Errorf("Digest of what no call made: %d", n)
		}
	}
}

// The greatest Book there may be fits an envelope.
func TestTheLongestBook(t *testing.T) {
	var l []entry
	for i := range maxSagas {
		l = append(l, entry{maxId - maxSagas + 1 + i, of(greatest(), api.Undoing, maxSteps, 10, maxSteps)})
	}
	holds(t, bookOf(t, maxSagas, l...), maxSagas, l...)
	if n := len(contentOf(maxSagas, l...)); n < 9000 || n > maxFrame {
		t.Errorf("%d bytes", n)
	}
}

// A start behind the greatest number that Set takes uses one that Set refuses, and so does Read.
func TestANumberThatSetRefuses(t *testing.T) {
	b := bookOf(t, 2, entry{maxId, inState(api.Done)})
	if r := b.Apply(api.Op{Kind: api.OpStart, Def: pay()}); r.Saga != maxId+1 {
		t.Fatalf("%+v", r)
	}
	l := []entry{{maxId, inState(api.Done)}, {maxId + 1, inState(api.Running)}}
	writes(t, b, 2, l...)
	refuses(t, "a number that Set refuses", image.Bytes(b, 2), api.ErrBad)
	reads(t, sealed(contentOf(2, l[0])), 2, l[0])
}

func TestReadOfOtherRecords(t *testing.T) {
	a, b, bad := inState(api.Running), inState(api.Done), of(pay(), api.Done, 0, 0, 1)
	most, id1, id2, saga1, saga2 := numberOf(1, 2), numberOf(2, 1), numberOf(2, 2), textOf(3, recordOf(a)), textOf(3, recordOf(b))
	join := func(l ...[]byte) []byte { return slices.Concat(l...) }
	reads(t, sealed(join(most, id1, saga1, id2, saga2)), 2, entry{1, a}, entry{2, b})
	reads(t, sealed(join(id2, saga2)), 0, entry{2, b})
	many := entries(slices.Repeat([]int{api.Done}, maxSagas+1)...)
	for name, content := range map[string][]byte{
		"by numbers that fall":            join(most, id2, saga2, id1, saga1),
		"a number twice":                  join(most, id1, saga1, id1, saga1),
		"a number twice, another saga":    join(most, id1, saga2, id1, saga1),
		"no number":                       join(most, saga1),
		"no second number":                join(most, id1, saga1, saga2),
		"no saga":                         join(most, id1),
		"no first saga":                   join(most, id1, id2, saga2),
		"no second saga":                  join(most, id1, saga1, id2),
		"saga ahead of its number":        join(most, saga1, id1),
		"two numbers, two sagas":          join(most, id1, id2, saga1, saga2),
		"number 0":                        join(most, numberOf(2, 0), saga1),
		"number -1":                       join(most, numberOf(2, -1), saga1),
		"number above 2^40":               join(most, numberOf(2, maxId+1), saga1),
		"the least number":                join(most, numberOf(2, low), saga1),
		"the greatest number":             join(most, numberOf(2, high), saga1),
		"number as a text":                join(most, textOf(2, []byte{2}), saga1),
		"a text behind the number":        join(most, id1, textOf(2, nil), saga1),
		"saga as a number":                join(most, id1, numberOf(3, 1)),
		"an empty saga":                   join(most, id1, textOf(3, nil)),
		"an empty saga ahead":             join(most, id1, textOf(3, nil), saga1),
		"half a saga":                     join(most, id1, textOf(3, recordOf(a)[:9])),
		"half a saga ahead":               join(most, id1, textOf(3, recordOf(a)[:9]), id1, saga1),
		"a saga that may not be":          join(most, id1, textOf(3, recordOf(bad))),
		"a saga that may not be, behind":  join(most, id1, saga1, id2, textOf(3, recordOf(bad))),
		"a saga with a field more":        join(most, id1, textOf(3, join(recordOf(a), numberOf(6, 1)))),
		"a saga whose Hit falls":          join(most, id1, textOf(3, join(textOf(1, note.DefBytes(pay())), numberOf(2, api.Done), numberOf(5, 2), numberOf(5, 1)))),
		"most last":                       join(id1, saga1, most),
		"most behind a saga":              join(id1, saga1, most, id2, saga2),
		"most twice":                      join(most, most, id1, saga1),
		"another most ahead":              join(numberOf(1, 3), most, id1, saga1),
		"most that may not be ahead":      join(numberOf(1, -1), most, id1, saga1),
		"most that is 0 and written":      join(numberOf(1, 0), id2, saga2),
		"most as a text":                  join(textOf(1, []byte{4}), id2, saga2),
		"an empty most":                   join(textOf(1, nil), id2, saga2),
		"only a most that is 0":           numberOf(1, 0),
		"only an empty most":              textOf(1, nil),
		"a field more":                    join(most, id1, saga1, numberOf(4, 0)),
		"a field more ahead":              join(numberOf(1000, 1), most, id1, saga1),
		"a field more, between":           join(most, id1, numberOf(4, 1), saga1),
		"a text more":                     join(most, id1, saga1, textOf(4, nil)),
		"more sagas than may be":          contentOf(2, many...),
		"more are under way than may be":  contentOf(1, entries(api.Running, api.Undoing)...),
		"none may be under way":           contentOf(0, entries(api.Undoing)...),
		"no record: it ends early":        join(most, id1, saga1, []byte{4}),
		"no record: a text that ends":     join(most, id1, saga1[:len(saga1)-1]),
		"no record: half a number":        join(most, []byte{4, 128}),
		"no record: no number":            {0},
		"no record: a number with a zero": join(most, []byte{4, 128, 0}),
		"no record: number 1001":          join(most, id1, saga1, numberOf(1001, 1)),
		"in two envelopes":                sealed(join(most, id1, saga1)),
	} {
		t.Run(name, func(t *testing.T) { refuses(t, name, sealed(content), api.ErrBad) })
	}
	reads(t, sealed(contentOf(0, many[:maxSagas]...)), 0, many[:maxSagas]...)
}

func TestReadSaysWhatOpenSays(t *testing.T) {
	l := entries(states()...)
	whole := sealed(contentOf(2, l...))
	for n := range whole {
		refuses(t, "it ends early", whole[:n], api.ErrShort)
	}
	for i := 1; i < len(whole)-4; i++ {
		p := bytes.Clone(whole)
		p[i] ^= 1
		if i > 2 {
			refuses(t, "a bit was turned", p, api.ErrSum)
		}
	}
	refuses(t, "another version", append([]byte{4}, whole[1:]...), api.ErrOld)
	refuses(t, "no version", []byte{0}, api.ErrOld)
	refuses(t, "nothing", nil, api.ErrShort)
	refuses(t, "half a count", []byte{3, 128}, api.ErrShort)
	refuses(t, "a count that is none", []byte{3, 128, 0}, api.ErrBad)
	refuses(t, "a count that is too great", []byte{3, 129, 128, 4}, api.ErrBad)
	for _, behind := range [][]byte{{0}, {3}, whole, make([]byte, 100)} {
		refuses(t, "something stands behind", slices.Concat(whole, behind), api.ErrBad)
		refuses(t, "something stands behind", slices.Concat(sealed(nil), behind), api.ErrBad)
	}
	refuses(t, "something stands ahead", slices.Concat([]byte{0}, whole), api.ErrOld)
	long := sealed(make([]byte, maxFrame)) // a whole envelope, of no record
	refuses(t, "zeros", long, api.ErrBad)
	refuses(t, "too long", sealed(make([]byte, maxFrame+1)), api.ErrBad)
	reads(t, whole, 2, l...)
}

func TestDigest(t *testing.T) {
	const whole = 0x2144df1c // the sum of bytes with their own sum behind them, whatever they are
	digests := func(b *book.Book, l ...entry) {
		t.Helper()
		got := image.Digest(b)
		if want := crc32.ChecksumIEEE(sealed(contentOf(0, l...))); got != want || got != crc32.ChecksumIEEE(image.Bytes(b, 0)) || got != whole {
			t.Fatalf("Digest of %d sagas: %d, want %d", len(l), got, want)
		}
	}
	digests(book.New(0))
	for most := 2; most <= maxSagas; most++ {
		for n := range len(states()) + 1 {
			digests(bookOf(t, most, entries(states()[:n]...)...), entries(states()[:n]...)...)
		}
	}
	for _, l := range [][]entry{{{2, inState(api.Running)}}, {{1, of(pay(), api.Running, 1, 2, 0)}}, {{maxId, inState(api.Stuck)}}, {{1, of(greatest(), api.Done, 0, 0, maxSteps)}}} {
		digests(bookOf(t, 2, l...), l...)
	}
}

// P17.3

// A Book that was read goes on as the one that was written.
func TestABookThatWasReadGoesOn(t *testing.T) {
	for _, most := range []int{1, 3, 8, maxSagas} {
		b := book.New(most)
		for i, o := range course() {
			p := image.Bytes(b, most)
			c, n, err := image.Read(p)
			if err != api.OK || n != most || !c.Same(b) || !b.Same(c) {
				t.Fatalf("ahead of operation %d: most %d, %v, Same: %v", i, n, err, c.Same(b))
			}
			if !bytes.Equal(image.Bytes(c, n), p) || image.Digest(c) != image.Digest(b) {
				t.Fatalf("ahead of operation %d: the Bytes are others", i)
			}
			x, y := b.Apply(o), c.Apply(o)
			if x != y || !c.Same(b) {
				t.Fatalf("operation %d: %+v and %+v", i, x, y)
			}
		}
	}
}

// course: operations of all kinds, some of which are refused, that fill a Book and make it forget. Its sagas end in all ways.
func course() []api.Op {
	report := func(id, step, try int, back, good bool) api.Op {
		return api.Op{Kind: api.OpReport, Saga: id, Step: step, Try: try, Back: back, Good: good}
	}
	lapse := func(id, step, try int) api.Op { return api.Op{Kind: api.OpLapse, Saga: id, Step: step, Try: try} }
	var l []api.Op
	for id := 1; id <= 3*maxSagas; id++ {
		l = append(l, api.Op{Kind: api.OpStart, Def: pay()}, api.Op{Kind: api.OpStart}, api.Op{Kind: api.OpCancel, Saga: id - 3})
		switch id % 4 {
		case 0:
			l = append(l, report(id, 1, 1, false, true), report(id, 2, 1, false, true))
		case 1:
			l = append(l, report(id, 1, 1, false, true), lapse(id, 2, 1))
		case 2:
			l = append(l, lapse(id, 1, 1), lapse(id, 1, 2), report(id, 1, 1, true, true))
		case 3:
			l = append(l, report(id-4, 1, 1, false, false), report(id-4, 1, 2, false, false))
		}
	}
	return l
}
