package live_test

import (
	"reflect"
	"slices"
	"testing"

	"scarfjoint/api"
	"scarfjoint/live"
	"scarfjoint/lower"
	"scarfjoint/three"
)

// checkBody holds what Of answers of a body that may be against the chapter's words, taken one by one.
func checkBody(t *testing.T, b api.Body) [][]int {
	t.Helper()
	l, e := live.Of(b)
	if e != api.OK || len(l) != len(b.Code) {
		t.Fatal(text(b), e, len(l))
	}
	want := reference(b)
	for at := range l {
		if !slices.Equal(l[at], want[at]) {
			t.Fatalf("%s\norder %d: %v, not %v", text(b), at, l[at], want[at])
		}
	}
	return l
}

// M1, M2: drawn bodies.
func TestDrawnBodies(t *testing.T) {
	d := drawer(0x9e3779b97f4a7c15)
	ops, none, some, all := map[int]int{}, 0, 0, 0
	for range 12000 {
		b := d.body(8, 24)
		for at, registers := range checkBody(t, b) {
			ops[b.Code[at].Op]++
			switch len(registers) {
			case 0:
				none++
			case b.Regs:
				all++
			default:
				some++
			}
		}
	}
	for op := api.TConst; op <= api.TExtra; op++ {
		if ops[op] < 1000 {
			t.Error("rarely drawn", op, ops[op])
		}
	}
	if none < 5000 || some < 20000 || all < 5000 {
		t.Error("rarely live, or rarely not:", none, some, all)
	}
}

// M1, M2: drawn bodies with more registers and orders.
func TestDrawnLongBodies(t *testing.T) {
	d := drawer(0x2545f4914f6cdd1d)
	for range 60 {
		checkBody(t, d.body(100, 400))
	}
}

// M1, P1: drawn bodies of as many registers and orders as there may be; some of their orders and registers are held against the chapter.
func TestDrawnGreatBodies(t *testing.T) {
	d := drawer(0xda942042e4dd58b5)
	for range 3 {
		b := body(function(whole), api.MaxRegs)
		for len(b.Code) < api.MaxCode {
			b.Code = append(b.Code, d.order(b)...)
		}
		b.Code = append(b.Code[:api.MaxCode-1], jump(0))
		d.lead(b.Code)
		l, e := live.Of(b)
		if e != api.OK || len(l) != api.MaxCode {
			t.Fatal(e, len(l))
		}
		for range 1500 {
			at, register := d.below(len(b.Code)), d.below(b.Regs)
			if slices.Contains(l[at], register) != isLive(b, at, register) {
				t.Fatal("otherwise:", at, register)
			}
		}
	}
}

// M2: drawn bodies with something changed: ErrForm just where three.May is false, and nothing else then.
func TestDrawnChanges(t *testing.T) {
	d := drawer(0x853c49e6748fea9b)
	seen := map[bool]int{}
	for range 12000 {
		b := d.body(6, 12)
		for range 1 + d.below(2) {
			d.change(&b)
		}
		may := three.May(b)
		seen[may]++
		if may {
			checkBody(t, b)
		} else {
			refuses(t, b)
		}
	}
	if seen[true] < 1500 || seen[false] < 1500 {
		t.Error("rarely drawn:", seen)
	}
}

// change changes one thing of a body.
func (d *drawer) change(b *api.Body) {
	o := &b.Code[d.below(len(b.Code))]
	switch d.below(9) {
	case 0:
		o.Op = d.below(17) - 1
	case 1:
		o.N = d.below(20) - 1
	case 2:
		o.D = append(slices.Clone(o.D), d.below(b.Regs+1)-1)
	case 3:
		o.S = append(slices.Clone(o.S), d.below(b.Regs+1)-1)
	case 4:
		o.S = o.S[:len(o.S)/2]
	case 5:
		o.Name = oneOf(d, []string{"", "f", "g"})
	case 6:
		o.Type = oneOf(d, append(called(), api.Type{}, whole))
	case 7:
		b.Regs += d.below(3) - 1
	case 8:
		b.Type = oneOf(d, own())
	}
}

// M1, M2: bodies that are made of texts.
func TestBodiesOfTexts(t *testing.T) {
	for _, source := range []string{
		"int main(){return 7;}",
		"int f(int a,int b){while(b){int c=a%b;a=b;b=c;}return a;}",
		"long f(long a){long b=1L;while(0L<a){if(a<10L){b=b*a;}else{b=b+a;}a=a-1L;}return b;}",
		"struct s{int a;long b;}s f(s x,int n){while(n){int m=n;while(m){x.a=x.a+m;m=m-1;}x=s{x.a+1,x.b};n=n-1;}return x;}",
		"int f(int n,...){int t=0;int at=0;while(at<count){t=t+extra(at);at=at+1;}put(t);return t/n;}int main(){fn(int,...)int g=&f;return g(2,3L,4)+f(1);}",
	} {
		m, f := lower.Make(source)
		if f.Code != api.OK {
			t.Fatal(source, f)
		}
		for _, b := range m.Bodies {
			checkBody(t, b)
		}
	}
}

// P3: what is told hangs on the arguments alone.
func TestToldAgain(t *testing.T) {
	d := drawer(0x9e3779b97f4a7c15)
	for range 500 {
		b := d.body(8, 40)
		first, _ := live.Of(b)
		again, _ := live.Of(copied(b))
		if !reflect.DeepEqual(first, again) {
			t.Fatal(text(b), told(first), told(again))
		}
	}
}
