package lower_test

import "testing"

// forms are structs with and without words between their fields, one within the other.
const forms = "struct p{int a;int b;}struct m{int a;long b;int c;}struct n{m x;p y;}struct o{long a;}struct q{int a;o b;}struct r{p a;p b;p c;}"

// tellers tell all of a struct.
const tellers = "int pp(p v){put(v.a);put(v.b);return 0;}int pm(m v){put(v.a);put(v.b);put(v.c);return 0;}int pn(n v){pm(v.x);pp(v.y);return 0;}int pr(r v){pp(v.a);pp(v.b);pp(v.c);return 0;}int pq(q v){put(v.a);put(v.b.a);return 0;}"

// L2: structs are values: made, copied, set whole and by a field; what was copied from is not changed.
func TestStructs(t *testing.T) {
	const ahead = forms + tellers
	does(t, ahead, "p x=p{1,2};pp(x);p y=x;y.a=3;pp(x);pp(y);x=y;y.b=4;pp(x);pp(y);", 1, 2, 1, 2, 3, 2, 3, 2, 3, 4)
	does(t, ahead, "m x=m{1,-2L,3};pm(x);m y=x;y.b=4294967296L;pm(x);pm(y);x.c=9;x.a=x.c+1;pm(x);", 1, -2, -1, 3, 1, -2, -1, 3, 1, 0, 1, 3, 10, -2, -1, 9)
	does(t, ahead, "n x=n{m{1,2L,3},p{4,5}};pn(x);x.x.b=6L;x.y.a=7;pn(x);n y=x;y.x=m{8,9L,10};y.y=x.y;pn(y);pn(x);", 1, 2, 0, 3, 4, 5, 1, 6, 0, 3, 7, 5, 8, 9, 0, 10, 7, 5, 1, 6, 0, 3, 7, 5)
	does(t, ahead, "q x=q{1,o{-3L}};pq(x);o z=x.b;x.b.a=5L;pq(x);put(z.a);x.b=o{z.a*z.a};pq(x);", 1, -3, -1, 1, 5, 0, -3, -1, 1, 9, 0)
	does(t, ahead, "m x=m{1,2L,3};pm(m{x.c,x.b,x.a});pm(m{int(x.b),long(x.a),x.c});", 3, 2, 0, 1, 2, 1, 0, 3)
	does(t, ahead, "put(p{1,2}.b);put(n{m{1,2L,3},p{4,5}}.x.b);put(n{m{1,2L,3},p{4,5}}.y.a);put(q{1,o{7L}}.b.a);", 2, 2, 0, 4, 7, 0)
	// A struct that is made of a local does not follow the local's changes.
	does(t, ahead, "int i=1;p x=p{i,i};i=2;pp(x);x.a=3;pp(x);put(i);", 1, 1, 3, 1, 2)
	does(t, ahead, "int i=-1;m x=m{i,long(i),i};i=2;x.c=4;pm(x);", -1, -1, -1, 4)
	does(t, ahead, "p i=p{1,2};r x=r{i,i,i};i.a=9;pr(x);x.b.a=7;pr(x);pp(i);", 1, 2, 1, 2, 1, 2, 1, 2, 7, 2, 1, 2, 9, 2)
	does(t, ahead, "p i=p{1,2};p j=p{i.b,i.a};i=p{5,6};pp(j);j=i;i.b=0;pp(j);", 2, 1, 5, 6)
}

// L2: a struct that is set by what it has itself becomes all of it at once.
func TestStructsOfThemselves(t *testing.T) {
	const ahead = forms + tellers
	does(t, ahead, "p x=p{1,2};x=x;pp(x);x=p{x.b,x.a};pp(x);x=p{x.a,x.a};pp(x);x=p{3,x.a};pp(x);x=p{x.b,4};pp(x);", 1, 2, 2, 1, 2, 2, 3, 2, 2, 4)
	does(t, ahead, "r x=r{p{1,2},p{3,4},p{5,6}};x=r{x.b,x.c,x.a};pr(x);x=r{x.c,x.b,x.a};pr(x);x=r{x.a,x.a,x.b};pr(x);", 3, 4, 5, 6, 1, 2, 1, 2, 5, 6, 3, 4, 1, 2, 1, 2, 5, 6)
	does(t, ahead, "r x=r{p{1,2},p{3,4},p{5,6}};x=r{p{x.c.b,x.c.a},p{x.b.b,x.b.a},p{x.a.b,x.a.a}};pr(x);x.b=p{x.b.b,x.b.a};pr(x);x.a=x.c;x.c=x.b;pr(x);", 6, 5, 4, 3, 2, 1, 6, 5, 3, 4, 2, 1, 2, 1, 3, 4, 3, 4)
	does(t, ahead, "r x=r{p{1,2},p{3,4},p{5,6}};x=r{p{x.c.b,x.a.a},p{x.a.b,x.b.a},p{x.b.b,x.c.a}};pr(x);", 6, 1, 2, 3, 4, 5)
	does(t, ahead, "m x=m{1,2L,3};x=m{x.c,x.b,x.a};pm(x);x=m{int(x.b),long(x.a),int(x.b)};pm(x);x=m{x.c,x.b+long(x.c),x.a+x.c};pm(x);", 3, 2, 0, 1, 2, 3, 0, 2, 2, 5, 0, 4)
	does(t, ahead, "n x=n{m{1,2L,3},p{4,5}};x=n{m{x.y.a,long(x.y.b),x.x.a},p{x.x.c,int(x.x.b)}};pn(x);x.x=m{x.x.c,x.x.b,x.x.a};pn(x);", 4, 5, 0, 1, 3, 2, 1, 5, 0, 4, 3, 2)
	// The halves of a long change places.
	does(t, "struct z{long a;}"+"long f(z x){x=z{x.a*4294967296L+long(int(0L-x.a))};return x.a;}", "put(f(z{5L}));", -5, 4)
}

// L2: structs of each length, from one word to as many as there may be, as parameters and as results, alone and beside others.
func TestStructsInCalls(t *testing.T) {
	const ahead = forms + tellers
	does(t, ahead+"p f(p v){v.a=v.a*10;return v;}", "p x=p{1,2};pp(f(x));pp(x);x=f(f(x));pp(x);p y=f(x);pp(y);f(y);pp(y);put(f(p{7,8}).a);", 10, 2, 1, 2, 100, 2, 1000, 2, 1000, 2, 70)
	does(t, ahead+"m f(int i,m v,long j,m w){return m{i+v.a,v.b+j,w.c};}", "pm(f(1,m{2,3L,4},5L,m{6,7L,8}));m x=m{1,1L,1};x=f(2,x,3L,f(4,x,5L,x));pm(x);pm(f(1,x,x.b,m{x.c,x.b,9}));", 3, 8, 0, 8, 3, 4, 0, 1, 4, 8, 0, 9)
	does(t, ahead+"n f(n v,p w){v.y=w;v.x.c=w.a;return v;}", "n x=f(n{m{1,2L,3},p{4,5}},p{6,7});pn(x);x=f(x,p{x.x.a,x.x.c});pn(x);put(f(x,x.y).x.c);pm(f(x,p{0,0}).x);", 1, 2, 0, 6, 6, 7, 1, 2, 0, 1, 1, 6, 1, 1, 2, 0, 0)
	does(t, "struct a{int x;}struct b{a x;}a f(b v){return v.x;}b g(a v){return b{v};}", "put(f(g(a{7})).x);put(g(f(b{a{8}})).x.x);", 7, 8)
	does(t, "struct o{long a;}struct q{int a;o b;}q f(q v,o w,int i){return q{v.a+i,o{v.b.a+w.a}};}", "q x=q{1,o{2L}};x=f(x,x.b,3);put(x.a);put(x.b.a);put(f(f(x,o{4294967296L},1),x.b,1).b.a);", 4, 4, 0, 8, 1)
	const twelve = "struct l{long a;long b;}struct w{l a;l b;l c;}struct i{int a;int b;int c;int d;int e;int f;}struct j{i a;i b;}"
	does(t, twelve+"w f(w x,w y){return w{y.c,x.a,l{x.b.b,y.b.a}};}", "w x=w{l{1L,2L},l{3L,4L},l{5L,6L}};x=f(x,x);put(x.a.a);put(x.a.b);put(x.b.a);put(x.b.b);put(x.c.a);put(x.c.b);", 5, 0, 6, 0, 1, 0, 2, 0, 4, 0, 3, 0)
	does(t, twelve+"j f(i x,j y,int z,...){return j{y.b,i{x.f,x.e,x.d,x.c,z,count}};}", "i x=i{1,2,3,4,5,6};j y=f(x,j{x,i{7,8,9,10,11,12}},13,14L);y=j{y.b,y.a};put(y.a.a);put(y.a.e);put(y.a.f);put(y.b.a);put(y.b.f);", 6, 13, 2, 7, 12)
	// What is handed in is a copy: what is done with it stays there.
	does(t, ahead+"int f(r v){v.b=p{0,0};v.c.a=v.a.a;pr(v);return v.c.a;}", "r x=r{p{1,2},p{3,4},p{5,6}};put(f(x));pr(x);", 1, 2, 0, 0, 1, 6, 1, 1, 2, 3, 4, 5, 6)
}

// L2: functions in structs, beside what has words between.
func TestFunctionsInStructs(t *testing.T) {
	const ahead = "struct h{int k;fn(int)int f;long l;fn(long,...)long g;}int a(int x){return x+1;}int b(int x){return x*2;}long c(long x,...){return x+long(count*100+extra(1));}"
	does(t, ahead, "h x=h{1,&a,2L,&c};put(x.f(5));put(x.g(x.l,7,8));x.f=&b;put(x.f(5));h y=x;y.f=&a;put(y.f(x.f(3)));put(y.g(1L));", 6, 210, 0, 10, 7, 1, 0)
	does(t, ahead+"h m(h x,fn(int)int f){x.f=f;return x;}", "h x=m(h{1,&a,2L,&c},&b);put(x.f(5));put(m(x,&a).f(5));put(m(m(x,&a),x.f).f(x.k));put(h{1,&b,3L,&c}.g(4L,-1L));", 10, 6, 2, 203, 0)
	does(t, ahead, "h x=h{1,&a,2L,&c};fn(int)int f=x.f;x.f=&b;put(f(5));f=x.f;put(f(5));if(f(0)){put(1);}else{put(2);}", 6, 10, 2)
}
