package drive_test

import (
	"slices"
	"strings"
	"testing"

	"scarfjoint/drive"
)

// piece is a function or a variable: how another unit says that it stands elsewhere, and what it is.
type piece struct{ outside, own string }

// structs stand ahead of each unit's pieces.
const structs = "struct p{int a;long b;}struct q{p x;p y;fn(int,...)long f;}"

// pieces are those of one program, in an order in which each is declared ahead of those that speak of it.
var pieces = []piece{
	{"extern int g;", "int g=3;"},
	{"extern long sum(int n,...);", "long sum(int n,...){g=g+count;long s=long(n);int i=0;while(i<count){s=s+long(extra(i));i=i+1;}return s;}"},
	{"extern q turn(q v,int n);", "q turn(q v,int n){put(v.x.b);return q{v.y,p{n+g,v.x.b+1L},v.f};}"},
	{"extern p low(int n,p v,long k);", "p low(int n,p v,long k){if(n){return low(n-1,p{v.a+n,v.b-k},k+1L);}return v;}"},
	{"extern int main();", "int main(){q v=q{p{1,-2L},p{3,4L},&sum};v=turn(turn(v,5),6);put(v.x.a);put(v.y.a);put(v.f(7,8,-9L,10));p w=low(4,v.x,v.y.b);put(w.a);put(w.b);put(g);return int(v.f(g))/(g-6);}"},
}

// cut cuts the program into units: it is told of each piece in which one it stands.
func cut(where []int) []string {
	units := make([]string, 1+slices.Max(where))
	for unit := range units {
		units[unit] = "unit " + structs
		for at, x := range pieces {
			if where[at] == unit {
				units[unit] += x.own
			} else if at < len(pieces)-1 {
				units[unit] += x.outside
			}
		}
	}
	return units
}

// The whole, 1: however a program is cut into units, its images do what its texts mean.
func TestCutPrograms(t *testing.T) {
	// By hand: the turns tell -2 and 4, and leave 5 + 3 and 6 + 3; sum has 7 + 8 - 9 - 1 + 10, and counts four words to the 3; low adds 4 + 3 + 2 + 1, and takes away 5 + 6 + 7 + 8.
	const want = "exit 7 -2 -1 4 0 8 9 15 0 18 -27 -1 7"
	cuts := map[int]int{}
	for n := range 1024 {
		var where []int
		for at := range pieces {
			where = append(where, n>>(2*at)&3)
		}
		l := cut(where)
		cuts[len(l)]++
		script := strings.Join(l, "\n") + "\nmean 2000\nlink 16000\nrun 300000\nlink 3000\nrun 300000\nmean 2000\n"
		got := strings.Split(drive.Play(script), "\n")[len(l):]
		if !slices.Equal(got, []string{want, "linked 1", want, "linked 1", want, want, ""}) {
			t.Fatalf("%v: %q\n%s", where, got, script)
		}
	}
	if len(cuts) != 4 {
		t.Error(cuts)
	}
}
