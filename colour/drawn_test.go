package colour_test

import (
	"slices"
	"testing"

	"scarfjoint/api"
	"scarfjoint/live"
	"scarfjoint/lower"
	"scarfjoint/three"
)

// N1, N2: drawn bodies, of few registers and of so many that not all lie in the machine's.
func TestDrawnBodies(t *testing.T) {
	d := drawer(0x9e3779b97f4a7c15)
	ops, together, frames := map[int]int{}, 0, 0
	for at := range 8000 {
		b := d.body(8, 24)
		if at%4 == 0 {
			b = d.body(40, 60)
		}
		l := lies(t, b)
		for _, o := range b.Code {
			ops[o.Op]++
		}
		if inFrame(l) > 0 {
			frames++
		}
		slices.SortFunc(l, func(x, y api.Loc) int { return x.N - y.N })
		if inFrame(l) == 0 && len(slices.Compact(l)) < b.Regs {
			together++
		}
	}
	for op := api.TConst; op <= api.TExtra; op++ {
		if ops[op] < 1000 {
			t.Error("rarely drawn", op, ops[op])
		}
	}
	if together < 500 || frames < 500 {
		t.Error("rarely drawn:", together, frames)
	}
}

// N1, N2: drawn bodies with more registers and orders.
func TestDrawnLongBodies(t *testing.T) {
	d := drawer(0x2545f4914f6cdd1d)
	for range 60 {
		lies(t, d.body(100, 400))
	}
}

// N1, N2, P1: drawn bodies of as many registers and orders as there may be.
func TestDrawnGreatBodies(t *testing.T) {
	d := drawer(0xda942042e4dd58b5)
	for range 3 {
		b := body(function(whole), api.MaxRegs)
		for len(b.Code) < api.MaxCode {
			b.Code = append(b.Code, d.order(b)...)
		}
		b.Code = append(b.Code[:api.MaxCode-1], jump(0))
		d.lead(b.Code)
		ahead, _ := live.Of(b)
		liesBy(t, b, func(at int) []int { return ahead[at] })
	}
}

// N1: drawn bodies with something changed: ErrForm just where three.May is false, and nothing else then.
func TestDrawnChanges(t *testing.T) {
	d := drawer(0x853c49e6748fea9b)
	seen := map[bool]int{}
	for range 8000 {
		b := d.body(6, 12)
		for range 1 + d.below(2) {
			d.change(&b)
		}
		may := three.May(b)
		seen[may]++
		if may {
			lies(t, b)
		} else {
			refuses(t, b)
		}
	}
	if seen[true] < 1000 || seen[false] < 1000 {
		t.Error("rarely drawn:", seen)
	}
}

// change changes one thing of a body.
func (d *drawer) change(b *api.Body) {
	o := &b.Code[d.below(len(b.Code))]
	switch d.below(9) {
	case 0:
		o.Op = d.below(17) - 1
	case 1:
		o.N = d.below(20) - 1
	case 2:
		o.D = append(slices.Clone(o.D), d.below(b.Regs+1)-1)
	case 3:
		o.S = append(slices.Clone(o.S), d.below(b.Regs+1)-1)
	case 4:
		o.S = o.S[:len(o.S)/2]
	case 5:
		o.Name = oneOf(d, []string{"", "f", "g"})
	case 6:
		o.Type = oneOf(d, append(called(), api.Type{}, whole))
	case 7:
		b.Regs += d.below(3) - 1
	case 8:
		b.Type = oneOf(d, own())
	}
}

// sources are units' texts, each of which lower makes bodies of.
func sources() []string {
	return []string{
		"int main(){return 7;}",
		"int f(int a,int b){while(b){int c=a%b;a=b;b=c;}return a;}int main(){put(f(1071,462));return f(12,18);}",
		"long f(long a){long b=1L;while(0L<a){if(a<10L){b=b*a;}else{b=b+a;}a=a-1L;}return b;}int main(){put(f(20L));return 1;}",
		"struct s{int a;long b;}s f(s x,int n){while(n){int m=n;while(m){x.a=x.a+m;m=m-1;}x=s{x.a+1,x.b};n=n-1;}return x;}int main(){s y=f(s{1,2L},5);put(y.b);return y.a;}",
		"int f(int n,...){int t=0;int at=0;while(at<count){t=t+extra(at);at=at+1;}put(t);return t/n;}int main(){fn(int,...)int g=&f;return g(2,3L,4)+f(1);}",
		"int f(int n){if(n<2){return n;}return f(n-1)+f(n-2);}int main(){int a=f(5);int b=f(6);int c=f(7);put(a);put(b);return a+b+c;}",
	}
}

// N1, N2: bodies that are made of texts.
func TestBodiesOfTexts(t *testing.T) {
	for _, source := range sources() {
		m, f := lower.Make(source)
		if f.Code != api.OK {
			t.Fatal(source, f)
		}
		for _, b := range m.Bodies {
			lies(t, b)
		}
	}
}
