package rummage

import (
	"rummage/api"
	"rummage/syntax"
)

// checkNew tells the error of what New was given (P5).
func checkNew(fields []api.Field, space int) api.Errno {
	if !within(len(fields), 1, api.MaxFields) || !within(space, 1, api.MaxSpace) {
		return api.ErrArg
	}
	// Any kind that may not be comes ahead of any name that may not.
	for _, field := range fields {
		if field.Kind != api.Number && field.Kind != api.String {
			return api.ErrArg
		}
	}
	for i, field := range fields {
		if !syntax.IsName(field.Name) || hasName(fields[:i], field.Name) {
			return api.ErrName
		}
	}
	return api.OK
}

func hasName(fields []api.Field, name string) bool {
	for _, field := range fields {
		if field.Name == name {
			return true
		}
	}
	return false
}

// checkPut tells the error of what Put was given (P6).
func (s *Store) checkPut(id int, spot []int, values []api.Value) api.Errno {
	if !within(id, 0, api.MaxID) || !isSpot(spot, s.space) || len(values) != len(s.fields) {
		return api.ErrArg
	}
	for i, value := range values {
		if !fits(value, s.fields[i].Kind) {
			return api.ErrKind
		}
	}
	return api.OK
}

func isSpot(spot []int, space int) bool {
	if len(spot) != space {
		return false
	}
	for _, n := range spot {
		if !within(n, -api.MaxCoord, api.MaxCoord) {
			return false
		}
	}
	return true
}

// fits tells whether a value is one, and may stand in a field of this kind.
func fits(value api.Value, kind int) bool {
	if value.Kind != kind {
		return value == api.Value{Kind: api.Null}
	}
	if kind == api.Number {
		return within(value.N, -api.MaxNumber, api.MaxNumber) && value.S == ""
	}
	return value.N == 0 && len(value.S) <= api.MaxString
}

func within(n, least, most int) bool { return least <= n && n <= most }
