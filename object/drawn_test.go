package object_test

import (
	"slices"
	"testing"

	"scarfjoint/api"
	"scarfjoint/emit"
	"scarfjoint/lower"
	"scarfjoint/object"
)

// R1 to R3: drawn objects are read as they were written, and no byte of theirs is one that does not matter.
func TestDrawnObjects(t *testing.T) {
	d := drawer(0x2545f4914f6cdd1d)
	kinds := map[int]int{}
	relocs, others := 0, 0
	for range 3000 {
		o := d.object()
		agrees(t, "drawn", o, true)
		relocs += len(o.Relocs)
		for _, s := range o.Symbols {
			kinds[s.Kind]++
		}
		b := bytesOf(t, o)
		refuses(t, "less its last byte", b[:len(b)-1])
		refuses(t, "with one byte more", append(slices.Clone(b), byte(d.below(256))))
		turned := slices.Clone(b)
		turned[d.below(len(b))] ^= byte(1 + d.below(255))
		if agreesOn(t, "with one byte turned", turned) {
			others++
		}
		if got, e := object.Get(turned); e == api.OK && same(got, o) {
			t.Errorf("% x and % x are the same object's", b, turned)
		}
		if t.Failed() {
			return
		}
	}
	if kinds[api.SymFun] < 1000 || kinds[api.SymData] < 1000 || kinds[api.SymOutFun] < 1000 || kinds[api.SymOutData] < 1000 || relocs < 3000 || others < 500 {
		t.Error("rarely drawn", kinds, relocs, others)
	}
}

// R1 to R3: drawn objects, changed.
func TestDrawnObjectsSpoiled(t *testing.T) {
	d := drawer(0x9e3779b97f4a7c15)
	met := map[bool]int{}
	for range 20000 {
		o := d.object()
		for range 1 + d.below(2) {
			d.spoil(&o)
		}
		may := isSo(o)
		agrees(t, "spoiled", o, may)
		met[may]++
		if t.Failed() {
			return
		}
	}
	if met[true] < 2000 || met[false] < 5000 {
		t.Error("rarely drawn", met)
	}
}

// R3: drawn bytes, some of them parts of objects'.
func TestDrawnBytes(t *testing.T) {
	d := drawer(0xda942042e4dd58b5)
	met := map[bool]int{}
	for range 20000 {
		b := bytesOf(t, d.object())
		for range 1 + d.below(3) {
			from := d.below(len(b))
			to := from + d.below(len(b)-from+1)
			switch d.below(4) {
			case 0:
				b = slices.Delete(b, from, to)
			case 1:
				b = slices.Insert(b, from, b[from:to]...)
			case 2:
				b = append(b[:from], bytesOf(t, d.object())...)
			case 3:
				b[from] = byte(d.below(256))
			}
			if len(b) == 0 {
				break
			}
		}
		met[agreesOn(t, "drawn bytes", b)]++
		if t.Failed() {
			return
		}
	}
	if met[true] < 200 || met[false] < 5000 {
		t.Error("rarely drawn", met)
	}
}

// R1 to R3: what emit makes of texts.
func TestObjectsOfTexts(t *testing.T) {
	for _, text := range []string{
		"",
		"int main(){return 7;}",
		"static int a=-1;long b=-9000000000L;extern long c;extern int f(long a,int b,...);static int g(){return f(b,a,c);}int main(){a=g();while(a){a=a-1;put(long(a)*b);}return a;}",
		"struct s{long a;int b;long c;}static s make(int n){return s{long(n),n,long(-n)};}int main(){s x=make(3);put(x.a);return x.b;}",
	} {
		m, f := lower.Make(text)
		if f != (api.Fault{}) {
			t.Errorf("%q: %v", text, f)
			continue
		}
		o, e := emit.Make(m)
		if e != api.OK {
			t.Fatal(text, e)
		}
		agrees(t, text, o, true)
	}
}
