package vehicle

import (
	"fmt"
	"reflect"
	"strings"
	"testing"

	"wainwright/api"
)

// roomy is a deep copy whose lists have spare room behind them, which isn't empty.
func roomy[T any](x T) T {
	return roomyValue(reflect.ValueOf(x)).Interface().(T)
}

func roomyValue(x reflect.Value) reflect.Value {
	own := reflect.New(x.Type()).Elem()
	switch x.Kind() {
	case reflect.Slice:
		own.Set(reflect.MakeSlice(x.Type(), x.Len()+3, x.Len()+3))
		for i := range x.Len() {
			own.Index(i).Set(roomyValue(x.Index(i)))
		}
		for i := x.Len(); i < own.Len(); i++ {
			own.Index(i).Set(spare(own.Index(i)))
		}
		return own.Slice(0, x.Len())
	case reflect.Struct:
		for i := range x.NumField() {
			own.Field(i).Set(roomyValue(x.Field(i)))
		}
	default:
		own.Set(x)
	}
	return own
}

func spare(x reflect.Value) reflect.Value {
	own := reflect.New(x.Type()).Elem()
	switch x.Kind() {
	case reflect.Int:
		own.SetInt(777)
	case reflect.String:
		own.SetString("spare")
	case reflect.Bool:
		own.SetBool(true)
	case reflect.Struct:
		for i := range x.NumField() {
			own.Field(i).Set(spare(x.Field(i)))
		}
	}
	return own
}

// laidOpen tells all that is in it, with what stands in the spare room.
func laidOpen(x any) string {
	var out strings.Builder
	var tell func(x reflect.Value)
	tell = func(x reflect.Value) {
		switch x.Kind() {
		case reflect.Slice:
			out.WriteString("[")
			for i := range x.Cap() {
				tell(x.Slice(0, x.Cap()).Index(i))
			}
			out.WriteString("]")
		case reflect.Struct:
			for i := range x.NumField() {
				tell(x.Field(i))
			}
		default:
			fmt.Fprintf(&out, "%v,", x.Interface())
		}
	}
	tell(reflect.ValueOf(x))
	return out.String()
}

// span is the memory of a list, with its spare room.
type span struct{ from, to uintptr }

func spans(l ...any) []span {
	var all []span
	var walk func(x reflect.Value)
	walk = func(x reflect.Value) {
		switch x.Kind() {
		case reflect.Slice:
			if size := uintptr(x.Cap()) * x.Type().Elem().Size(); size > 0 {
				all = append(all, span{x.Pointer(), x.Pointer() + size})
			}
			for i := range x.Cap() {
				walk(x.Slice(0, x.Cap()).Index(i))
			}
		case reflect.Struct:
			for i := range x.NumField() {
				walk(x.Field(i))
			}
		}
	}
	for _, x := range l {
		walk(reflect.ValueOf(x))
	}
	return all
}

// wantOwn: the lists of an answer share no memory, neither with each other nor with what was handed in.
func wantOwn(t *testing.T, what string, given []span, answer ...any) {
	t.Helper()
	own := spans(answer...)
	for i, one := range own {
		for _, other := range append(own[i+1:], given...) {
			if one.from < other.to && other.from < one.to {
				t.Fatalf("%s: two lists share memory", what)
			}
		}
	}
}

// knit is the vehicle in which lists of one kind share their memory.
func knit(v api.Vehicle) api.Vehicle {
	return but(v, func(v *api.Vehicle) {
		v.Units[1].F.Words = v.Units[0].F.Words
		v.G.Did = v.G.Voted
		for i := range v.Campaigns {
			v.Campaigns[i].Images = v.Campaigns[0].Images
			v.Campaigns[i].Images[1] = v.Campaigns[0].Images[0]
			v.Campaigns[i].R.Targets = v.Campaigns[0].R.Targets
		}
		for i := range v.Net {
			v.Net[i].Words = v.Net[0].Words
		}
	})
}

func TestAnswersAreNewMemory(t *testing.T) {
	f, v := busy(t)
	ended := told(t, v, givingUp, poking(0), poking(1), losing(0), losing(0), losing(0), arriving(0), arriving(0), arriving(0), arriving(0))
	wantState(t, "ended", ended, api.GateState{N: 2, Version: 2, Abort: true, Ended: true})
	o := f.offer(3)
	o.Images[1], o.Sigs = o.Images[1][:len(o.Images[1]):len(o.Images[1])], []int{3, 4}
	happenings := []api.Happening{
		proposing(o), poking(0), poking(1), querying(0), arriving(0), arriving(2), losing(1), doubling(0), doubling(2),
		cutting(-1, 4), cutting(0, 0), booting(-1), booting(1), givingUp, ticking, {},
	}
	for _, ahead := range []api.Vehicle{v, ended, knit(v), but(v, unitNoted(t, 0, []int{2, 2})), but(v, cutAll)} {
		for i, x := range happenings {
			given, happening := roomy(ahead), roomy(x)
			told := laidOpen(given) + laidOpen(happening)
			got, _ := Do(given, happening)
			wantOwn(t, fmt.Sprint("do ", i), spans(given, happening), got)
			if laidOpen(given)+laidOpen(happening) != told {
				t.Errorf("happening %d changed what was handed in", i)
			}
		}
		for _, l := range [][]api.Happening{nil, {{}}, happenings} {
			given, script := roomy(ahead), roomy(l)
			told := laidOpen(given) + laidOpen(script)
			got, said, e := Run(given, script)
			wantErrno(t, "run", e, api.OK)
			wantOwn(t, "run", spans(given, script), got, said)
			if laidOpen(given)+laidOpen(script) != told {
				t.Errorf("a script of %d changed what was handed in", len(l))
			}
		}
	}
}

func cutAll(v *api.Vehicle) {
	for node := gateway; node < len(v.Units); node++ {
		fuel(v, node, 2)
	}
}

func TestNewIsNewMemory(t *testing.T) {
	f := fleetOf(t, 3, []int{7}, []int{8, 8}, []int{9})
	b, l, r, images := roomy(f.b), roomy(f.l), roomy(root(1, 1, 3)), roomy(f.images)
	images[2] = images[0]
	told := laidOpen(b) + laidOpen(l) + laidOpen(r) + laidOpen(images)
	v, e := New(b, l, r, images)
	wantErrno(t, "new", e, api.OK)
	wantOwn(t, "new", spans(b, l, r, images), v)
	wantErrno(t, "check", Check(v), api.OK)
	Same(v, v)
	if laidOpen(b)+laidOpen(l)+laidOpen(r)+laidOpen(images) != told {
		t.Errorf("what was handed in was changed")
	}
}
