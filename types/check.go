package types

import (
	"warden/api"
	"warden/name"
)

// unit is what sizes and places of fields are multiples of.
const unit = 8

// Check answers the first error of the table, with the type and the field that tell it.
func Check(l []api.Type) (at, field int, e api.Errno) {
	for at := range l {
		if field, e := checkType(l, at); e != api.OK {
			return at, field, e
		}
	}
	// What a field holds may stand behind it: all types must be in order ahead of asking for it.
	for at, t := range l {
		for field, f := range t.Fields {
			if !mayHold(l, f) {
				return at, field, api.ErrOf
			}
		}
	}
	return 0, 0, api.OK
}

// checkType answers the first error of the type at at, but what its fields hold, and the field that tells it.
func checkType(l []api.Type, at int) (field int, e api.Errno) {
	if field, e := checkStruct(l, at); e != api.OK {
		return field, e
	}
	t := l[at]
	for field := range t.Fields {
		if e := checkField(t, field); e != api.OK {
			return field, e
		}
	}
	if isMixed(t) {
		return 0, api.ErrMixed
	}
	return 0, api.OK
}

// checkStruct answers what is wrong with the type ahead of its fields.
func checkStruct(l []api.Type, at int) (field int, e api.Errno) {
	if at >= api.MaxTypes {
		return 0, api.ErrLong
	}
	t := l[at]
	if !name.May(t.Name) {
		return 0, api.ErrName
	}
	if _, twice := Of(l[:at], t.Name); twice {
		return 0, api.ErrTwice
	}
	if t.Size < unit || t.Size > api.MaxSize || t.Size%unit != 0 {
		return 0, api.ErrSize
	}
	if len(t.Fields) > api.MaxFields {
		return api.MaxFields, api.ErrLong
	}
	return 0, api.OK
}

// checkField answers what is wrong with the field, but what it holds.
func checkField(t api.Type, field int) api.Errno {
	f := t.Fields[field]
	// The type without this field and those behind it.
	ahead := api.Type{Size: t.Size, Fields: t.Fields[:field]}
	if !name.May(f.Name) {
		return api.ErrName
	}
	if _, twice := first(ahead.Fields, func(g api.Field) bool { return g.Name == f.Name }); twice {
		return api.ErrTwice
	}
	if Size(f.Kind) == 0 {
		return api.ErrKind
	}
	// What the fields ahead of it leave plain is free for it.
	if f.At%unit != 0 || !Plain(ahead, f.At, Size(f.Kind)) {
		return api.ErrPlace
	}
	switch f.Kind {
	case api.FieldLock, api.FieldRefs:
		if hasOne(ahead, f.Kind) {
			return api.ErrTwice
		}
	}
	return api.OK
}

// isMixed answers whether the type has fields that may not stand together, or a row without the lock that it needs.
func isMixed(t api.Type) bool {
	if !Object(t) && !isValue(t) {
		return true
	}
	return hasOne(t, api.FieldHead, api.FieldRoot) && !hasOne(t, api.FieldLock)
}

// mayHold answers whether what the field holds is there, and may be held by it.
func mayHold(l []api.Type, f api.Field) bool {
	switch f.Kind {
	case api.FieldKptr:
		return isObject(l, f.Of) && f.Node == 0
	case api.FieldHead:
		return isObject(l, f.Of) && isKind(l[f.Of], f.Node, api.FieldNode)
	case api.FieldRoot:
		return isObject(l, f.Of) && isKind(l[f.Of], f.Node, api.FieldRb)
	}
	return f.Of == 0 && f.Node == 0
}

// isObject answers whether an object type is at that place of the table.
func isObject(l []api.Type, at int) bool {
	return 0 <= at && at < len(l) && Object(l[at])
}

// isKind answers whether a field of that kind is at that place of the type.
func isKind(t api.Type, at int, kind uint8) bool {
	return 0 <= at && at < len(t.Fields) && t.Fields[at].Kind == kind
}
