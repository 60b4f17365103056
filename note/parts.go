package note

import (
	"drover/api"
	"drover/field"
)

// part is what a record has by one number. How it is written stands beside how it is read, so that the two keep together; both work on the place that the part was made for.
type part struct {
	num   int
	write func() []field.Field
	read  func(f field.Field)
}

// write: the record of what parts have.
func write(parts []part) []byte {
	var l []field.Field
	for _, p := range parts {
		l = append(l, p.write()...)
	}
	return field.Write(l)
}

// read puts what the record b has where parts say. Not all of b needs to be kept so (a number that they do not know, another order): whoever reads writes it again, to see whether it is b.
func read(b []byte, parts []part) api.Errno {
	l, err := field.Read(b)
	for _, f := range l {
		for _, p := range parts {
			if p.num == f.Num {
				p.read(f)
			}
		}
	}
	return err
}

func number[N ~int](num int, n *N) part {
	return part{
		num: num,
		write: func() []field.Field {
			if *n == 0 {
				return nil
			}
			return []field.Field{{Num: num, V: field.Zig(int(*n))}}
		},
		read: func(f field.Field) { *n = N(field.Zag(f.V)) },
	}
}

// numbers: a list, in which a zero is written too.
func numbers(num int, l *[]int) part {
	return part{
		num: num,
		write: func() []field.Field {
			var fields []field.Field
			for _, n := range *l {
				fields = append(fields, field.Field{Num: num, V: field.Zig(n)})
			}
			return fields
		},
		read: func(f field.Field) { *l = append(*l, field.Zag(f.V)) },
	}
}

func flag(num int, b *bool) part {
	return part{
		num: num,
		write: func() []field.Field {
			if !*b {
				return nil
			}
			return []field.Field{{Num: num, V: 1}}
		},
		read: func(f field.Field) { *b = f.V == 1 },
	}
}

func text(num int, s *string) part {
	return part{
		num: num,
		write: func() []field.Field {
			if *s == "" {
				return nil
			}
			return []field.Field{{Num: num, Text: true, B: []byte(*s)}}
		},
		read: func(f field.Field) { *s = string(f.B) },
	}
}

// record: another record, of these parts.
func record(num int, parts []part) part {
	return part{
		num: num,
		write: func() []field.Field {
			b := write(parts)
			if len(b) == 0 {
				return nil
			}
			return []field.Field{{Num: num, Text: true, B: b}}
		},
		read: func(f field.Field) { read(f.B, parts) },
	}
}

// records: a list of other records, in which an empty one is written too.
func records[T any](num int, l *[]T, parts func(*T) []part) part {
	return part{
		num: num,
		write: func() []field.Field {
			var fields []field.Field
			for _, t := range *l {
				fields = append(fields, field.Field{Num: num, Text: true, B: write(parts(&t))})
			}
			return fields
		},
		read: func(f field.Field) {
			var t T
			read(f.B, parts(&t))
			*l = append(*l, t)
		},
	}
}

func stepParts(s *api.Step) []part {
	return []part{
		text(1, &s.Name),
		number(2, &s.Stub),
		number(3, &s.Retry),
		number(4, &s.Wait),
		flag(5, &s.Undo),
		flag(6, &s.Pivot),
	}
}

func defParts(d *api.Def) []part {
	return []part{
		text(1, &d.Name),
		records(2, &d.Steps, stepParts),
	}
}

func opParts(o *api.Op) []part {
	return []part{
		number(1, &o.Kind),
		number(2, &o.Client),
		number(3, &o.Request),
		record(4, defParts(&o.Def)),
		number(5, &o.Saga),
		number(6, &o.Step),
		number(7, &o.Try),
		flag(8, &o.Back),
		flag(9, &o.Good),
	}
}

func replyParts(r *api.Reply) []part {
	return []part{
		number(1, &r.Err),
		number(2, &r.Saga),
		number(3, &r.State),
		number(4, &r.Step),
	}
}

func commandParts(c *api.Command) []part {
	return []part{
		number(1, &c.View),
		number(2, &c.Stub),
		number(3, &c.Saga),
		number(4, &c.Step),
		number(5, &c.Try),
		flag(6, &c.Back),
	}
}

func msgParts(m *api.Msg) []part {
	return []part{
		number(1, &m.Kind),
		number(2, &m.From),
		number(3, &m.To),
		number(4, &m.View),
		number(5, &m.Last),
		number(6, &m.Num),
		number(7, &m.Commit),
		number(8, &m.Nonce),
		number(9, &m.Request),
		flag(10, &m.Lead),
		flag(11, &m.Good),
		flag(12, &m.Fenced),
		record(13, opParts(&m.Op)),
		record(14, replyParts(&m.Reply)),
		record(15, commandParts(&m.Command)),
		records(16, &m.Ops, opParts),
		numbers(17, &m.Incs),
	}
}
