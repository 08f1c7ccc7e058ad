package world

import (
	"fmt"
	"math"
	"reflect"
	"slices"
	"strings"
	"testing"

	"manyhands/api"
)

// span is where a list lies, with the room it has.
type span struct{ from, to uintptr }

// spans answers where each list lies that is in v, or in the room of one that is.
func spans(v reflect.Value) []span {
	var l []span
	switch v.Kind() {
	case reflect.Slice:
		if v.Cap() > 0 {
			l = append(l, span{v.Pointer(), v.Pointer() + uintptr(v.Cap())*v.Type().Elem().Size()})
		}
		v = v.Slice(0, v.Cap())
		for i := range v.Len() {
			l = append(l, spans(v.Index(i))...)
		}
	case reflect.Struct:
		for i := range v.NumField() {
			l = append(l, spans(v.Field(i))...)
		}
	}
	return l
}

// picture tells all that is in v, and in the room of its lists.
func picture(v reflect.Value) string {
	var b strings.Builder
	switch v.Kind() {
	case reflect.Slice:
		fmt.Fprint(&b, v.Len(), "[")
		v = v.Slice(0, v.Cap())
		for i := range v.Len() {
			b.WriteString(picture(v.Index(i)) + ",")
		}
		b.WriteString("]")
	case reflect.Struct:
		for i := range v.NumField() {
			b.WriteString(picture(v.Field(i)) + ";")
		}
	default:
		fmt.Fprintf(&b, "%#v", v)
	}
	return b.String()
}

// roomy answers v with lists that have more in them behind their ends.
func roomy(v reflect.Value) reflect.Value {
	switch v.Kind() {
	case reflect.Slice:
		l := reflect.MakeSlice(v.Type(), v.Len()+2, v.Len()+2)
		for i := range v.Len() {
			l.Index(i).Set(roomy(v.Index(i)))
			l.Index(v.Len()).Set(roomy(v.Index(i)))
		}
		return l.Slice(0, v.Len())
	case reflect.Struct:
		c := reflect.New(v.Type()).Elem()
		for i := range v.NumField() {
			c.Field(i).Set(roomy(v.Field(i)))
		}
		return c
	}
	return v
}

func withRoom[T any](x T) T {
	return roomy(reflect.ValueOf(x)).Interface().(T)
}

// wantOwn asks that no list of answer shares memory with another one of it, or with what was handed in, which is as it was.
func wantOwn(t *testing.T, answer func() any, handedIn ...any) {
	t.Helper()
	var was []string
	var theirs []span
	for _, x := range handedIn {
		was = append(was, picture(reflect.ValueOf(x)))
		theirs = append(theirs, spans(reflect.ValueOf(x))...)
	}
	got := answer()
	for i, x := range handedIn {
		if is := picture(reflect.ValueOf(x)); is != was[i] {
			t.Fatalf("%s was handed in, and is now %s", was[i], is)
		}
	}
	own := spans(reflect.ValueOf(got))
	slices.SortFunc(own, func(a, b span) int { return int(a.from) - int(b.from) })
	for i, a := range own {
		if i > 0 && a.from < own[i-1].to {
			t.Fatalf("two lists of %v share memory", got)
		}
		for _, b := range theirs {
			if a.from < b.to && b.from < a.to {
				t.Fatalf("%v shares memory with what was handed in", got)
			}
		}
	}
}

// ran is what Run answers, as one.
type ran struct {
	W    api.World
	Said []api.Errno
	E    api.Errno
}

// busy answers worlds in which much is on its way.
func busy(t *testing.T) []api.World {
	t.Helper()
	w := after(t, begun(t, "ab\n", 3), doing(0, puts("x"), keeps(1), puts("y"), keeps(2)), doing(0, puts("z"), keeps(5)), doing(1, keeps(1), puts("pq"), keeps(2)), doing(2, keeps(3)), serving(1), serving(0), hearing(2))
	last := after(t, w, dropping(0), dropping(2))
	again := after(t, w, hearing(0), hearing(0), hearing(1), hearing(1))
	full := with(w, func(w *api.World) {
		for i := range 3 {
			for len(w.Up[i]) < api.MaxQueue {
				w.Up[i] = append(w.Up[i], message(0, i, 9, puts("u"), keeps(3)))
			}
			for len(w.Down[i]) < api.MaxQueue+api.MaxLog {
				w.Down[i] = append(w.Down[i], message(0, i, 9, puts("u"), keeps(3)))
			}
		}
	})
	return []api.World{begun(t, "ab\n", 3), w, last, again, full}
}

// all answers one of each kind for each client, as they fit w, and some that don't.
func all(w api.World) []api.Happening {
	var l []api.Happening
	for who, c := range w.Clients {
		n := len(c.Now)
		l = append(l, doing(who, puts("p"), puts("q"), keeps(n-1), puts("r"), keeps(1)), doing(who, keeps(n)), doing(who, cuts(1), keeps(n)), pasting(who, n-1, "<b>k</b>"), pasting(who, 0, ""))
		for kind := api.Serve; kind <= api.Join; kind++ {
			l = append(l, api.Happening{Kind: kind, Client: who, O: api.Op{puts("unused"), keeps(n)}, B: []byte("unused")})
		}
	}
	return append(l, api.Happening{}, serving(-1))
}

func TestAnswersAreTheirOwn(t *testing.T) {
	d := withRoom(text(7))
	wantOwn(t, func() any {
		w, _ := New(d, api.MaxClients)
		return w
	}, d)
	for _, w := range busy(t) {
		w := withRoom(w)
		wantCheck(t, w, api.OK)
		script := withRoom(all(w))
		for _, x := range script {
			wantOwn(t, func() any {
				got, e := Do(w, x)
				return ran{got, nil, e}
			}, w, x)
		}
		for n := range len(script) + 1 {
			wantOwn(t, func() any {
				got, said, e := Run(w, script[:n])
				if e != api.OK || len(said) != n {
					t.Fatalf("Run(%v, %v) = %v, %d", w, script[:n], said, e)
				}
				return ran{got, said, e}
			}, w, script)
		}
	}
}

// What only asks changes nothing either.
func TestNothingHandedInIsChanged(t *testing.T) {
	l := busy(t)
	for i := range l {
		l[i] = withRoom(l[i])
	}
	for _, a := range l {
		for _, b := range l {
			wantOwn(t, func() any { return []bool{Same(a, b), Check(a) == api.OK, Check(b) == api.OK} }, a, b)
		}
	}
}

// One list may be handed in as several ones: nothing that is done to one of them shows in the others.
func TestOneListAsSeveral(t *testing.T) {
	d, o := withRoom(api.Doc(items("ab\n"))), withRoom(api.Op{puts("x"), cuts(1), keeps(2)})
	m := message(0, 0, 1, o...)
	queue := withRoom([]api.Message{m, m, {Rev: 1, E: m.E}, {Rev: 2, E: m.E}})
	c := api.Client{Base: d, Now: items("xb\n"), Seq: 1, Sent: o, Joined: true}
	w := api.World{S: api.Server{First: d, Now: d}, Clients: []api.Client{c, c, c}, Up: [][]api.Message{queue, queue, queue[1:]}, Down: [][]api.Message{queue[2:], queue, queue}}
	off := with(w, func(w *api.World) {})
	off.Clients = []api.Client{c, c, c}
	off.Clients[0].Joined = false
	for _, w := range []api.World{w, off} {
		wantCheck(t, w, api.OK)
		for _, x := range append(all(w), api.Happening{Kind: api.Edit, Client: 1, O: o}) {
			wantOwn(t, func() any {
				got, e := Do(w, x)
				// The same as of lists that are each their own.
				if want, _ := Do(withRoom(w), withRoom(x)); !alike(got, want) {
					t.Fatalf("Do(%v, %v) = %v, want %v", w, x, got, want)
				}
				return ran{got, nil, e}
			}, w, x)
		}
	}
}

// numbers answers pointers to each number in v, however deep it lies.
func numbers(v reflect.Value) []*int {
	var l []*int
	switch v.Kind() {
	case reflect.Int:
		if p, ok := v.Addr().Interface().(*int); ok {
			l = append(l, p)
		}
	case reflect.Slice:
		for i := range v.Len() {
			l = append(l, numbers(v.Index(i))...)
		}
	case reflect.Struct:
		for i := range v.NumField() {
			l = append(l, numbers(v.Field(i))...)
		}
	}
	return l
}

// Whatever number stands in a world: no call panics, all tell the same of what is wrong, and what comes of a world is one.
func TestAnyNumberAnywhere(t *testing.T) {
	wild := []int{math.MinInt, -1, 0, 1, 2, 3, 4, api.MaxLog, api.MaxLog + 1, api.MaxItems, api.MaxSeq + 1, math.MaxInt}
	worlds := busy(t)
	for _, w := range worlds[:len(worlds)-1] {
		w := copyOf(w)
		for _, p := range numbers(reflect.ValueOf(&w).Elem()) {
			was := *p
			for _, *p = range wild {
				wantAllTold(t, w)
			}
			*p = was
		}
	}
}

func wantAllTold(t *testing.T, w api.World) {
	t.Helper()
	e := Check(w)
	if !Same(w, w) || !Same(w, copyOf(w)) {
		t.Fatalf("%v isn't told to be the same as itself", w)
	}
	script := all(w)
	if got, said, told := Run(w, script); told != e || e != api.OK && (!isNothing(got) || said != nil) {
		t.Fatalf("Run(%v) = %v, %v, %d, but Check tells %d", w, got, said, told, e)
	}
	for _, x := range script {
		got, told := Do(w, x)
		switch {
		case e != api.OK && told != e, told != api.OK && !isNothing(got):
			t.Fatalf("Do(%v, %v) = %v, %d, but Check tells %d", w, x, got, told, e)
		case told == api.OK && Check(got) != api.OK:
			t.Fatalf("Do(%v, %v) = %v, of which Check tells %d", w, x, got, Check(got))
		}
	}
}
