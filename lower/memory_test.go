package lower_test

import (
	"reflect"
	"slices"
	"strings"
	"testing"
	"unsafe"

	"scarfjoint/api"
	"scarfjoint/lower"
	"scarfjoint/three"
)

// room is where a list's memory begins and ends, with what lies behind its length.
type room struct{ from, to uintptr }

// rooms finds the memory of all lists in something.
func rooms(v reflect.Value, l []room) []room {
	switch v.Kind() {
	case reflect.Slice:
		if v.Cap() > 0 {
			l = append(l, room{v.Pointer(), v.Pointer() + uintptr(v.Cap())*v.Type().Elem().Size()})
		}
		for at := range v.Len() {
			l = rooms(v.Index(at), l)
		}
	case reflect.Struct:
		for at := range v.NumField() {
			l = rooms(v.Field(at), l)
		}
	}
	return l
}

// words finds all texts in something.
func words(v reflect.Value, l []string) []string {
	switch v.Kind() {
	case reflect.String:
		l = append(l, v.String())
	case reflect.Slice:
		for at := range v.Len() {
			l = words(v.Index(at), l)
		}
	case reflect.Struct:
		for at := range v.NumField() {
			l = words(v.Field(at), l)
		}
	}
	return l
}

// apart holds that no two lists share memory.
func apart(t *testing.T, text string, made ...api.Made) {
	t.Helper()
	l := rooms(reflect.ValueOf(made), nil)
	slices.SortFunc(l, func(a, b room) int {
		if a.from < b.from {
			return -1
		}
		return 1
	})
	for at := 1; at < len(l); at++ {
		if l[at].from < l[at-1].to {
			t.Fatalf("%.300q: two lists share memory", text)
		}
	}
}

// many has types, calls and values that come up more than once.
const many = "struct s{int a;long b;}struct t{s x;s y;fn(int)int z;}extern s e(s a,s b);extern s d(s a,s b);s f(s a){return a;}s g(s a){return f(a);}" +
	"t h(t v,s w,...){v=t{v.y,v.x,v.z};v.x=w;v.y=w;return h(v,f(w),1L,count);}int i=1;static long j=2L;" +
	"int k(int a){return a;}int main(){fn(s)s q=&f;s a=q(f(s{1,2L}));a=f(a);put(a.b);return h(t{a,a,&k},a).x.a;}"

// P3: what comes out is new memory, no two lists of which share any, and hangs on the text alone.
func TestNewMemory(t *testing.T) {
	for _, text := range []string{many, "int main(){return 7;}", "", "extern int f(int a);int g(int b){return f(b);}"} {
		a, f := lower.Make(text)
		b, g := lower.Make(strings.Clone(text))
		if f != g || f.Code != api.OK || !reflect.DeepEqual(a, b) {
			t.Fatal(f, g)
		}
		apart(t, text, a, b)
	}
	text := strings.Clone(many)
	m, _ := lower.Make(text)
	from := uintptr(unsafe.Pointer(unsafe.StringData(text)))
	for _, w := range words(reflect.ValueOf(m), nil) {
		at := uintptr(unsafe.Pointer(unsafe.StringData(w)))
		if w != "" && from <= at && at < from+uintptr(len(text)) {
			t.Errorf("%q is shared with what was handed in", w)
		}
	}
}

// P3: nothing of what came out is kept: it may be changed, and what comes out next is the same.
func TestNothingIsKept(t *testing.T) {
	want, _ := lower.Make(many)
	m, _ := lower.Make(many)
	for at := range m.Bodies {
		b := &m.Bodies[at]
		b.Type.Parts[len(b.Type.Parts)-1].Kind = 9
		for i := range b.Code {
			b.Code[i].N++
			for n := range b.Code[i].S {
				b.Code[i].S[n]++
			}
			for n := range b.Code[i].D {
				b.Code[i].D[n]++
			}
			for n := range b.Code[i].Type.Parts {
				b.Code[i].Type.Parts[n].Kind = 9
			}
		}
		b.Code = append(b.Code[:1], b.Code...)
	}
	m.Outsides[0].Type.Parts[0].Names[0] = "zz"
	if again, _ := lower.Make(many); !reflect.DeepEqual(again, want) || !three.Fits(again) {
		t.Error(again)
	}
}
