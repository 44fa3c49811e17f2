package tests

import (
	"fmt"
	"reflect"
	"slices"
	"strings"
	"testing"
)

// told writes a value out, so that an empty list and nil, which are the same value, are the same text.
func told(v any) string {
	var text strings.Builder
	write(&text, reflect.ValueOf(v), false)
	return text.String()
}

// wholeMemory writes a value out with what stands behind the end of each of its lists.
func wholeMemory(v any) string {
	var text strings.Builder
	write(&text, reflect.ValueOf(v), true)
	return text.String()
}

func write(text *strings.Builder, v reflect.Value, whole bool) {
	switch v.Kind() {
	case reflect.Interface:
		write(text, v.Elem(), whole)
	case reflect.Slice:
		if whole && !v.IsNil() {
			v = v.Slice(0, v.Cap())
		}
		text.WriteByte('[')
		for i := range v.Len() {
			write(text, v.Index(i), whole)
			text.WriteByte(' ')
		}
		text.WriteByte(']')
	case reflect.Struct:
		text.WriteByte('{')
		for i := range v.NumField() {
			text.WriteString(v.Type().Field(i).Name + ":")
			write(text, v.Field(i), whole)
			text.WriteByte(' ')
		}
		text.WriteByte('}')
	case reflect.String:
		fmt.Fprintf(text, "%q", v.String())
	default:
		fmt.Fprint(text, v.Interface())
	}
}

// span: the addresses that one list holds, up to its capacity.
type span struct {
	start, end uintptr
	name       string
}

func spansOf(name string, v reflect.Value) []span {
	var spans []span
	switch v.Kind() {
	case reflect.Slice:
		if size := uintptr(v.Cap()) * v.Type().Elem().Size(); size > 0 {
			spans = append(spans, span{v.Pointer(), v.Pointer() + size, name})
		}
		for i := range v.Len() {
			spans = append(spans, spansOf(fmt.Sprintf("%s[%d]", name, i), v.Index(i))...)
		}
	case reflect.Struct:
		for i := range v.NumField() {
			spans = append(spans, spansOf(name+"."+v.Type().Field(i).Name, v.Field(i))...)
		}
	}
	return spans
}

// firstShared: the names of two lists that hold one address, of which at least one is of the answer; empty: there are none.
func firstShared(answer any, arguments ...any) string {
	ours := spansOf("answer", reflect.ValueOf(answer))
	others := ours
	for i, argument := range arguments {
		if argument != nil {
			others = append(others, spansOf(fmt.Sprintf("argument %d", i), reflect.ValueOf(argument))...)
		}
	}
	for i, a := range ours {
		for _, b := range others[i+1:] {
			if a.start < b.end && b.start < a.end {
				return a.name + " and " + b.name
			}
		}
	}
	return ""
}

// oneCall: a call of a function, with the lists that are handed to it.
type oneCall struct {
	name      string
	call      func() any
	arguments []any
}

// askMemory makes a call twice, and asks what every call owes: its arguments stay, and its answer shares no memory
// with them, with itself, or with the answer ahead of it.
func askMemory(t *testing.T, c oneCall) {
	t.Helper()
	before := wholeMemory(c.arguments)
	first := c.call()
	heard := told(first)
	if shared := firstShared(first, c.arguments...); shared != "" {
		t.Fatalf("%s shares memory: %s", c.name, shared)
	}
	second := c.call()
	if shared := firstShared(second, first); shared != "" {
		t.Fatalf("%s called again shares memory: %s", c.name, shared)
	}
	if told(first) != heard || told(second) != heard {
		t.Fatalf("%s answers %s, then %s", c.name, heard, told(second))
	}
	if wholeMemory(c.arguments) != before {
		t.Fatalf("%s changes an argument: %s", c.name, before)
	}
}

func heardOf(calls []oneCall) []string {
	var heard []string
	for _, c := range calls {
		heard = append(heard, told(c.call()))
	}
	return heard
}

// askOrder asks again in the other order, so that something kept from the call before would show.
func askOrder(t *testing.T, calls []oneCall) {
	t.Helper()
	heard := heardOf(calls)
	for i, c := range slices.Backward(calls) {
		if again := told(c.call()); again != heard[i] {
			t.Fatalf("%s answers %s, then %s", c.name, heard[i], again)
		}
	}
}

func askAtOnce(t *testing.T, calls []oneCall) {
	t.Helper()
	want := heardOf(calls)
	heard := make(chan bool)
	const callers = 4
	for range callers {
		go func() { heard <- slices.Equal(heardOf(calls), want) }()
	}
	for range callers {
		if !<-heard {
			t.Error("an answer hangs on who else calls")
		}
	}
}
