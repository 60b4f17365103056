package image

import (
	"slices"

	"drover/api"
	"drover/field"
)

// record: those fields, one behind the other; what is zero is left out.
func record(l ...field.Field) []byte {
	return field.Write(slices.DeleteFunc(l, func(f field.Field) bool { return f.V == 0 && len(f.B) == 0 }))
}

func number(num, n int) field.Field { return field.Field{Num: num, V: field.Zig(n)} }

func text(num int, b []byte) field.Field { return field.Field{Num: num, Text: true, B: b} }

// read hands the fields of the record p to take, one by one.
func read(p []byte, take func(field.Field)) api.Errno {
	l, err := field.Read(p)
	for _, f := range l {
		take(f)
	}
	return err
}

// same: are a and b the same bytes? They are held against each other as strings.
func same(a, b []byte) bool { return string(a) == string(b) }
