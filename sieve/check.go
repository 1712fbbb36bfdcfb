package sieve

import (
	"rummage/api"
	"rummage/syntax"
)

// Check tells the first error of a filter on these fields, and its place (P7).
func Check(filter syntax.Tree, fields []api.Field) (api.Errno, int) {
	if filter.Kind == syntax.Test {
		return checkTest(filter, fields)
	}
	for _, part := range filter.Parts {
		if errno, at := Check(part, fields); errno != api.OK {
			return errno, at
		}
	}
	return api.OK, 0
}

func checkTest(test syntax.Tree, fields []api.Field) (api.Errno, int) {
	field := place(test.Name, fields)
	if field < 0 {
		return api.ErrName, test.NameAt
	}
	kind := fields[field].Kind
	if test.Operator == "like" && kind != api.String {
		return api.ErrKind, test.OperatorAt
	}
	for _, literal := range test.Literals {
		if literal.Value.Kind != kind {
			return api.ErrKind, literal.At
		}
	}
	return api.OK, 0
}

// place tells which of the fields has the name, or -1 if none has.
func place(name string, fields []api.Field) int {
	for i, field := range fields {
		if field.Name == name {
			return i
		}
	}
	return -1
}
