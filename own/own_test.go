package own_test

import (
	"fmt"
	"reflect"
	"testing"

	"dumbwaiter/api"
	"dumbwaiter/own"
)

// text: all that is in something; nil and empty lists are the same there.
func text(x any) string { return fmt.Sprintf("%v", x) }

// spoil: all that lists in something have is written over; how many things these were.
func spoil(x reflect.Value) int {
	n := 0
	switch x.Kind() {
	case reflect.Struct:
		for i := range x.NumField() {
			n += spoil(x.Field(i))
		}
	case reflect.Slice:
		for i := range x.Len() {
			n += 1 + spoil(x.Index(i))
			x.Index(i).SetZero()
		}
	case reflect.Array:
		for i := range x.Len() {
			n += spoil(x.Index(i))
		}
	}
	return n
}

// fill: something with two things in each list, each unlike 0.
func fill(x reflect.Value) {
	switch x.Kind() {
	case reflect.Struct:
		for i := range x.NumField() {
			fill(x.Field(i))
		}
	case reflect.Slice:
		x.Set(reflect.MakeSlice(x.Type(), 2, 2))
		fill(x.Index(0))
		fill(x.Index(1))
	case reflect.Array:
		for i := range x.Len() {
			fill(x.Index(i))
		}
	case reflect.Bool:
		x.SetBool(true)
	case reflect.Int:
		x.SetInt(7)
	case reflect.Uint8, reflect.Uint64:
		x.SetUint(7)
	case reflect.Float64:
		x.SetFloat(7)
	}
}

// holds: is a copy the same, and does neither what it was made of nor it hang on the other any more?
func holds[T any](t *testing.T, what string, copied func(T) T) {
	t.Helper()
	var a, none T
	fill(reflect.ValueOf(&a).Elem())
	want := text(a)
	b := copied(a)
	if text(a) != want || text(b) != want || text(copied(none)) != text(none) {
		t.Errorf("%s: %v of %v", what, b, want)
	}
	c := copied(a)
	if n := spoil(reflect.ValueOf(&a).Elem()); n < 2 || text(a) == want {
		t.Fatalf("%s: %d things are written over", what, n)
	}
	if text(b) != want {
		t.Errorf("%s: what was handed in is in the copy: %v", what, b)
	}
	spoil(reflect.ValueOf(&b).Elem())
	if text(c) != want {
		t.Errorf("%s: two copies have something in common: %v", what, c)
	}
}

// The rule of memory: a copy is the same, and has no list in common with anything.
func TestCopies(t *testing.T) {
	holds(t, "Writes", own.Writes)
	holds(t, "Parts", own.Parts)
	holds(t, "Reply", own.Reply)
	holds(t, "Hold", own.Hold)
	holds(t, "Command", own.Command)
	holds(t, "Entries", own.Entries)
	holds(t, "Snap", own.Snap)
	holds(t, "Message", own.Message)
	holds(t, "Mail", own.Mail)
	if text(own.Mail(api.Mail{Kind: 3})) != text(api.Mail{Kind: 3}) {
		t.Error("a mail without lists is another one")
	}
}
