package drawn

// holes are the letters that stand for parts that are drawn: I is an int, J one that is mostly a small number, V an int lvalue,
// P a pointer to an int, Q one to a struct, S a statement. M, a variable of the function's own, is filled without drawing.
const holes = "IJVPQS"

// either stands for the mark | in texts that it separates.
const either = "@"

// top is what stands ahead of all functions, so that each may use it.
const top = `struct s { int a; char b; int v[2]; struct s *n; };
int calls; int g = 4; char h = 200; int ga[3] = {1, 2}; char gb[4]; int *gp; struct s gs; struct s *gq; struct s gt[2];
`

// grammar is the texts of which a kind of program consists, those of a kind separated by |.
type grammar struct {
	ready      int    // of so many functions, all but one make all variables something
	operators  string // those between two operands, separated by spaces
	updates    string // those ahead of =
	numbers    string
	indexes    string
	anyIndex   string
	places     string
	pointers   string
	structures string
	statements string
	rounds     string
	variables  []string
	functions  []function
}

// function is how a function begins and ends.
type function struct {
	head    string
	early   string // how it may be left at any place
	result  string // how it ends
	pointer string // a pointer that it is handed, or another one
	own     string // a parameter that is a number, or another variable
}

// wild is the grammar of programs that may do anything.
func wild() grammar {
	return grammar{
		ready:      8,
		operators:  "+ - * / % & @ ^ << >> == != < > <= >=",
		updates:    "+ - * / % & @ ^ << >>",
		numbers:    "3|-I|~I|!I|!P|!Q|I op I|I op I|I op I|I&&I|I@@I|P&&I|I?I:I|P?I:I|I?in():I|P==0|0!=Q|V=I|V as I|V as I|V++|V--|++V|--V|I/J|I%J|f(I,I,P)|k(I)|f(in(),in(),0)",
		indexes:    "0|0|0|1|1|1|2|2|3|-1|4",
		anyIndex:   "0|1|I",
		places:     "x|y|c|M|g|h|i|x|y|c|a[J]|d[J]|ga[J]|gb[J]|(*P)|*p|p[J]|gs.a|t.a|t.b|t.v[J]|u[J].a|gt[J].v[J]|q->a|gq->b|Q->v[J]|q->n->a|Q->b|(*Q).a|w[J][J]|(*w[J])|(*(P+J))|(*l(J))|l(J)[0]|o(Q)->a",
		pointers:   "p|gp|&x|&y|&i|&g|a|ga|t.v|&gs.a|p|&y|w[J]|P+J|J+P|P-J|p++|--p|gp--|p+=J|gp-=J|p=P|gp=P|I?P:P|I?P:0|l(I)|&a[J]|Q->v|&Q->a|p=0",
		structures: "q|gq|&t|&gs|u|gt|q|Q->n|t.n|&u[J]|q=Q|gq=Q|q++|q-=J|Q+J|I?Q:0|o(Q)|t.n=Q|q=0",
		statements: "I;|I;|I;|P;|Q;|out(I);|out(I);|V=I;|V=I;|p=P;|gp=P;|q=Q;|t.n=Q;|if(I)S|if(I)S else S|if(P)S|{SS}|{SSS}|v(P,I);|a;|t;|*Q;|;|{int x=I;SS}|{char c;c=I;S}|{int a[3]={I,I};S}|{int*p=P;SS}|while(J){S y--;S}|{x=1;;}",
		rounds:     "{int N;for(N=0;N<3;N++)S}|{int N=0;while(N++<3){SS}}|{int N=3;do{SS}while(--N);}|for(;I&&y++<9;I)S|for(y=0;;y++){S if(y>2)break;S}|for(I;y++<5;)S|do S while(J<1);|for(;g<9;g++);|for(;;)if(y++<40)S else break;|for(v(P,I);c++;v(P,I))S",
		variables: []string{
			"int x;|int x=1;|int x=g;", "int y=2;int i=0;", "char c=1;|char c=300;|char c=in();|char c=ga[1];", "int a[3];|int a[3]={1};|int a[3]={1,g,x};", "char d[2]={'d'};int w[2][3];",
			"int*p;|int*p=0;|int*p=&x;|int*p=a;|int*p=&y;|int*p=Z;|int*p=ga;", "struct s t;struct s u[2];", "struct s*q;|struct s*q=0;|struct s*q=&t;|struct s*q=&gs;|struct s*q=u;|struct s*q=gt;|struct s*q=&t;",
		},
		functions: []function{
			{"int f(int m,char n,int*z)", "return 0;", "return m;|return n;|return x;|return m+n;|return I;", "z", "n"},
			{"char k(int m)", "return 0;", "return m;|return 300;|return I;|;", "&m", "m"},
			{"int*l(int m)", "return 0;", "return &x;|return &y;|return p;|return gp;|return a;|return 0;|return ga;|;", "&m", "m"},
			{"struct s*o(struct s*z)", "return 0;", "return z;|return q;|return gq;|return &gs;|return 0;|;", "&z->a", "c"},
			{"void v(int*z,int m)", "return;", "|return;", "z", "m"},
			{"int main()", "return 0;", "return 0;|return 1;|return x;|return I;", "&g", "i"},
		},
	}
}

// tame is the grammar of programs that seldom do anything undefined: no divisor is 0, no index is beyond an array,
// all variables and pointers are something from the beginning on, and those that outlast a call point to globals.
func tame() grammar {
	g := wild()
	g.ready = 1 << 30
	g.operators = "+ - * & @ ^ << >> == != < > <= >="
	g.updates = "+ - * & @ ^ << >>"
	g.numbers = "3|-I|~I|!I|!P|!Q|I op I|I op I|I op I|I op I|I/(I@1)|I%(I@1)|I&&I|I@@I|P&&I|I?I:I|P?I:I|I?in():I|P==0|0!=Q|V=I|V as I|V as I|V/=(I@1)|V%=(I@1)|V++|V--|++V|--V|f(I,I,P)|k(I)|f(in(),in(),P)"
	g.indexes = "0|1|x&1|!y"
	g.anyIndex = "0|1|I&1|!I"
	g.places = "x|y|c|M|g|h|i|x|y|c|a[J]|a[2]|d[J]|ga[J]|gb[J]|(*P)|*p|p[0]|gs.a|t.a|t.b|t.v[J]|u[J].a|gt[J].v[J]|q->a|gq->b|Q->v[J]|q->n->a|Q->b|(*Q).a|w[J][J]|(*w[J])|(*(a+J))|(*l(J))|l(J)[0]|o(Q)->a"
	g.pointers = "p|gp|&x|&y|&i|&g|a|ga|t.v|&gs.a|p|&y|w[J]|a+J|J+ga|&a[2]-J|p=P|gp=ga|gp=gt[J].v|I?P:P|l(I)|&a[J]|Q->v|&Q->a"
	g.structures = "q|gq|&t|&gs|u|gt|q|Q->n|t.n|&u[J]|q=Q|gq=&gs|gq=gt+J|gt+J|I?Q:Q|o(Q)|t.n=Q"
	g.statements = "I;|I;|P;|Q;|out(I);|out(I);|out(I);|out(x);|V=I;|V=I;|V=I;|p=P;|gp=&g;|q=Q;|u[J].n=Q;|if(I)S|if(I)S else S|if(P)S|{SS}|{SSS}|v(P,I);|a;|t;|*Q;|;|{int e=I;SS y+=e;}|{char e=I;S c=e++;out(--e);}|{int e[3]={I,I};S e[J]+=I;out(e[J]++);}|{int*e=P;SS*e=I;}|{int*e=a;e++;*e=I;e+=J;V=*e--;out(*e);}|while(J&&y-->0)S|{x=1;;}"
	g.rounds = "{int N;for(N=0;N<3;N++)S}|{int N=0;while(N++<3){SS}}|{int N=3;do{SS}while(--N);}|{int N=0;for(;I&&N++<4;I)S}|{int N=0;for(y=0;;y++){S if(y>2@@N++>5)break;S}}|{char N=0;for(I;N++<3;)S}|{int N=4;do S while(N-->0&&I);}|for(;g<9&&g>0;g++);|{char N=0;for(;;)if(N++<4)S else break;}|{char N=252;for(v(P,I);N++;v(P,I))S}"
	g.variables = []string{
		"int x=1;|int x=g;", "int y=2;int i=0;", "char c=1;|char c=300;|char c=in();|char c=ga[1];", "int a[3]={1};|int a[3]={1,g,x};", "char d[2]={'d'};int w[2][3];",
		"int*p=&x;|int*p=a;|int*p=Z;|int*p=Z;|int*p=ga;", "struct s t;struct s u[2];", "struct s*q=&t;|struct s*q=&gs;|struct s*q=u;|struct s*q=gt;",
	}
	g.functions = []function{
		{"int f(int m,char n,int*z)", "return 0;", "return m;|return n;|return x;|return m+n;|return I;", "z", "n"},
		{"char k(int m)", "return 0;", "return m;|return 300;|return I;|;", "&m", "m"},
		{"int*l(int m)", "return ga;", "return gp;|return ga;|return &g;|return ga+!!x;|return &gs.a;", "&m", "m"},
		{"struct s*o(struct s*z)", "return gt;", "return z;|return gq;|return &gs;|return gt;", "&z->a", "c"},
		{"void v(int*z,int m)", "return;", "|return;", "z", "m"},
		{"int main()", "return 0;", "return 0;|return 1;|return x;|return I;", "&g", "i"},
	}
	return g
}
