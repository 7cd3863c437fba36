import Derived.Test.YtmlblamikgkdcaaGreatT04
import Derived.Test.YtmlblamikgkdcaaGreatT05
import Derived.Lib.SmallJoins
set_option linter.unusedVariables false
set_option linter.unusedSimpArgs false
set_option linter.defProp false
set_option maxHeartbeats 40000000
set_option maxRecDepth 100000
namespace Go.Proofs.YtmlblamikgkdcaaGreat
open Go.RowKit
open Go.Proofs.Tryz
open M (OpD ug Gr)
def BB{n l a b c d x}(h:n=x.g)(i:a=x.f.a)(j:b=x.f.b)(k:c=x.f.c)(m:d=x.f.d)(o:l=x.e) :
  Rt (.agg #[.bool n,Uv a,Uv b,Uv c,Uv d,.bool l])=Rt (Jf x):=by
 rw[h,i,j,k,m,o];rfl
def Hy(x:Fs):Obj:=.cells #[.bool x.g,Uv x.f.a,Uv x.f.b,Uv x.f.c,Uv x.f.d,.bool x.e] 95
def Fk(w:Wl)(b:Nat)(x:Fs):Prop:=w.heap[b]?=some (Hy x)
def Fk.b{w b x}(h:Fk w b x):w.cell? (Ad b 0)=some (.bool x.g)/\w.cell? (Ad b 1)=some (Uv x.f.a)/\w.cell? (Ad b 2)=some (Uv x.f.b)/\w.cell? (Ad b 3)=some (Uv x.f.c)/\w.cell? (Ad b 4)=some (Uv x.f.d)/\w.cell? (Ad b 5)=some (.bool x.e):=by
 unfold Fk at h;simp[World.cell?,h,Hy]
def Fk.r{w b x}(h:Fk w b x):w.frozen? (Ad b 0)=false/\w.frozen? (Ad b 1)=false/\w.frozen? (Ad b 2)=false/\w.frozen? (Ad b 3)=false/\w.frozen? (Ad b 4)=false/\w.frozen? (Ad b 5)=false:=by
 unfold Fk at h;simp[World.frozen?,h,Hy]
def Fk.lt{w b x}(h:Fk w b x):b<w.heap.size:=(Gw.1 h).1
def Fk.a(w:Wl)(x:Fs):Fk (w.alloc (Hy x)) w.heap.size x:=Eo w (Hy x)
def Fk.h{w w' b x}(h:Fk w b x)(k:Bw w w'):Fk w' b x:=(k.block b h.lt).trans h
def WV(w:Wl)(b:Nat)(x:Fs):Wl:=(((((w.setCell (Ad b 0) (.bool x.g)).setCell (Ad b 1) (Uv x.f.a)).setCell (Ad b 2) (Uv x.f.b)).setCell (Ad b 3) (Uv x.f.c)).setCell (Ad b 4) (Uv x.f.d)).setCell (Ad b 5) (.bool x.e)
def IX{B w w'}(h:Below B w w')b x(a:B<=b):Below B w (WV w' b x):=by
 unfold WV;exact(((((h.setCell (p:=(Ad b 0)) a _).setCell (p:=(Ad b 1)) a _).setCell (p:=(Ad b 2)) a _).setCell (p:=(Ad b 3)) a _).setCell (p:=(Ad b 4)) a _).setCell (p:=(Ad b 5)) a _
def oz:Fs:=⟨false,nz,false⟩
def usU c d ra la sa j nr rc i lc sc ol k mk o w(t:Do w c d ra la nr rc i lc mk)(a:o.e=0\/o.e=1) :
  Cs 100 #[.agg #[Iv o.e,Sl sa o.sl sc,Iv o.f],Sl j ol k,.pointer (Sm c 0),.pointer (Sm d 0)] w (Lm (uJ nr mk o default default) w):=by
 have h:¬M.bE o:=by rintro (q|q)<;>omega
 rcases a with a|a
 .have b:Hid (o.e=0):=a;have g:(o.e==0)=true:=by simp[a]
  clear a;go_enter func100,ntmps100;go_wp2;refine zL (by simp[results,f100,go_sem];rfl) rfl ?_;refine⟨BB ?_ ?_ ?_ ?_ ?_ ?_,Bm w⟩<;>simp[uJ,b.o,nz]
 have b:Hid (o.e=1):=a;have g:(o.e==0)=false:=by simp[a]
 have l:(o.e==2)=false:=by simp[a]
 have m:(o.e==3)=false:=by simp[a]
 have n:(o.e==4)=false:=by simp[a]
 have p:(o.e==5)=false:=by simp[a]
 have r:(o.e==6)=false:=by simp[a]
 have s:(o.e==7)=false:=by simp[a]
 clear a;go_enter func100,ntmps100;go_wp2;refine zL (by simp[results,f100,go_sem];rfl) rfl ?_;refine⟨BB ?_ ?_ ?_ ?_ ?_ ?_,Bm w⟩<;>simp[uJ,b.o,nz,h]
def usV(s:NS)(p:Nat)(w:Wl)(g:s.OK)(f:p<256) :
  Cs 102 #[.agg #[Uv s.a,Uv s.b,Uv s.c,Uv s.d],Iv p] w λe w'=>(∃r,r=s.j p/\e=Rt (.bool r))/\Bw w w' :=
 (VY s p w g f).mono (λe w' h=>⟨⟨_,rfl,h.1⟩,by rw[h.2];exact zO w⟩)
def unP(p:Nat)w(g:p<256) :
  Cs 103 #[.agg #[Uv 0,Uv 0,Uv 0,Uv 0],Iv p] w λe w'=>(∃t,t=nz.n p/\e=Rt (.agg #[Uv t.a,Uv t.b,Uv t.c,Uv t.d]))/\Bw w w' :=
 AT nz p w NS.OK.f g
def usW B G ra la sa X nr rc k lc sc ol Y mk o w(d:Do w B G ra la nr rc k lc mk)(c:M.bE o)(g:M.bB nr k o)(E:mk.OK)(h1:nr<=100)(h2:k<=100) :
  Cs 100 #[.agg #[Iv o.e,Sl sa o.sl sc,Iv o.f],Sl X ol Y,.pointer (Sm B 0),.pointer (Sm G 0)] w (Lm (uJ nr mk o default default) w):=by
 have L:=ua c;have i:=IQ g c;have S:=g.2.2.2.2.1;have T:o.f<=1048576:=by have:=g.2.2.2.2.2;unfold M.bF at this;split at this<;>(try split at this)<;>omega
 have y:Hid (M.tg nr o<256):=by show _<_;omega
 have J:=E;have x:Hid (¬o.e=0):=by rcases c with q|q<;>(show ¬_;omega)
 have Z:(o.e==0)=false:=by simp;exact x
 have I:=ua d;have A:=d.g0;have R:=d.g1;have aa:=ud A;have U:Hid (uJ nr mk o default default=⟨mk.j (M.tg nr o),nz.n (M.tg nr o),false⟩):=by show _=_;simp[uJ,x.o,L.o]
 have V:(o.e==2)=true\/((o.e==2)=false/\(o.e==3)=true):=by
  rcases c with q|q
  .left;simp[q]
  right;simp[q]
 clear g E d i c;rcases V with Q|⟨Q,f3⟩;all_goals (
  go_enter func100,ntmps100;go_wp2_with fail;have u:Hid (Fk ((w.alloc (Oc #[Iv o.e,Sl sa o.sl sc,Iv o.f] 185)).alloc (Hy oz)) (w.heap.size+1) oz):=by
   have:=Fk.a (w.alloc (Oc #[Iv o.e,Sl sa o.sl sc,Iv o.f] 185)) oz;rw[Ck]at this;exact this
  refine(xG ra la sa nr rc k lc sc o _ S T oM).mono ?_;rintro e W ⟨rfl,p⟩;have z:=ua (uf (Bm w) p);let⟨m0,m1,m2,m3⟩:=(I.m.h z).b;have s:=ua (u.h p);clear p A R u;go_wp2_with (first|(go_at_call 102;refine(usV mk (M.tg nr o) _ J y).mono ?_;rintro e W2 ⟨⟨r,F,rfl⟩,C⟩;have N:Hid (r=mk.j (M.tg nr o)):=F;have H:Hid (Bw W W2):=C;clear F C)|(go_at_call 103;refine(unP (M.tg nr o) _ y).mono ?_;rintro e P ⟨⟨t,i,rfl⟩,D⟩;have O:Hid (t=nz.n (M.tg nr o)):=i;have l:Hid (Bw W P):=uf H D;clear i D;let⟨z0,z1,z2,z3,z4,z5⟩:=(s.h l).b;let⟨s0,s1,s2,s3,s4,s5⟩:=(s.h l).r));refine zL (v:=Jf ⟨r,t,false⟩) (by simp[results,f100,go_sem,Jf, *]) rfl ?_;exact⟨by rw[U.o,N.o,O.o],IX (uf z l) (w.heap.size+1) ⟨r,t,false⟩ oM⟩)
def utv{P:Program}{ops:Array Oper}{o:Oper}{a:Act}{w:Wl}{K:Act->World->Prop}{g:Exit->Act->World->Prop}{E:Prop}{f:FuncId}(j:∀args w,(callFunc f args).run P w=.ok (.enter f args) w)(k:o.guard=none)(c b d:Operand)(r s:TypeId)
  (m:o.op=.call { callee:=.value c,args:=#[b,d],argTypes:=#[r,s] }) {y1 y2 p1 p2:Vl} (i:a.eval c=.func (.func f) #[] #[p1,p2]) (p:a.eval b=y1) (q:a.eval d=y2) (h:Calls P f #[y1,y2,p1,p2] w (λe w'=>∃u,e=Rt u/\K (a.put o.dst u) w')):if Region.wanted o (yielded ops a.tmps)=true then Oper.wp P o a w K g else E:=by
 rw[Zp (by simp[Region.wanted,k])];have n:(execOp a.eval o).run P w=.ok (.enter f #[y1,y2,p1,p2]) w:=by
  unfold execOp;simp only[m,resolve,invoke,Deferred.ofValue,Nl,Nm,Pf,List.map_toArray,Nr,List.map_nil,p,q,i];exact j #[y1,y2,p1,p2] w
 unfold Oper.wp;rw[n];refine Calls.mono h ?_;rintro e w' ⟨u,rfl,l⟩;exact l
def jK:List (Nat×Fs)->List Value
 |[]=>Ll oz
 |(_,v)::r=>jK r++Ll v
def Xu x:(Ll x).length=6:=rfl
def qm l:(jK l).length=(l.length+1)*6:=by
 induction l with
 |nil=>rfl
 |cons p r a=>rw[jK,zJ,a,Xu];simp only[Db];omega
def CF{w g cs pre post x}(h:∀j,j<cs.length->w.cell? (Ad g j)=cs[j]?)(e:cs=pre++(Ll x++post)):Ez w g pre.length x:=by
 have a:∀j v,(Ll x)[j]?=some v->w.cell? (Ad g (pre.length+j))=some v:=λj v b=>by
  have c:j<6:=by
   have:=(Bz.1 b).1;simpa[Xu] using this
  rw[h _ (by rw[e];simp[Xu];omega),e,Fb oM,show pre.length+j-pre.length=j by omega,Es (by rw[Xu];exact c),b]
 exact⟨a 0 _ rfl,a 1 _ rfl,a 2 _ rfl,a 3 _ rfl,a 4 _ rfl,a 5 _ rfl⟩
def utw{Q w g cap n m cs pre post}(h:zB Q w (Sl (Sm g 0) n cap) 6 n cs)(e:cs=pre++post)(f:pre.length=m*6)(r:m<=n)(l:0<n):zB Q w (Sl (Sm g 0) m cap) 6 m pre:=by
 rcases h with⟨q,_⟩|⟨k,i,q,a,o,p,b,c⟩
 .cases q
 cases q;refine .inr ⟨g,cap,rfl,a,f,oM,λj d=>?_,c⟩;rw[b j (by rw[e,zJ];omega),e,Es d]
def yw(nr:Nat)(mk:NS)(o:OpD)(l:List (Nat×Fs)):Fs :=
 if M.ar o.e=2 then match l with|(_,y)::(_,x)::_=>uJ nr mk o x y|_=>default
 else if M.ar o.e=1 then match l with|(_,x)::_=>uJ nr mk o x default|_=>default
 else uJ nr mk o default default
def uwc nr mk o i l(h:M.ar o.e<=(l.length:Int)):∃s,M.stp (uJ nr mk) o i l=(s,yw nr mk o l)::l.drop (M.ar o.e).toNat:=by
 unfold M.stp yw;rcases M.cH o.e with a|a|a
 .simp[a]
 .rw[a]at h;match l with
  |[]=>simp at h
  |(s,x)::r=>exact⟨s,by simp[a]⟩
 rw[a]at h;match l with
 |[]=>simp at h
 |[(s,x)]=>simp at h
 |(s2,y)::(s1,x)::r=>exact⟨s1,by simp[a]⟩
def CG{nr}{mk}{o}{x}{y}(a:x.f.OK)(b:y.f.OK):(uJ nr mk o x y).f.OK:=by
 unfold uJ;split
 .exact NS.OK.f
 split
 .exact NS.OK.f.n _
 split
 .split
  .exact a.e b
  exact a
 split
 .exact a.e b
 split
 .exact a
 split
 .exact a
 exact NS.OK.f
def uq8 nr mk o l(h:∀p,p∈l->p.2.f.OK):(yw nr mk o l).f.OK:=by
 have d:(default:Fs).f.OK:=NS.OK.f;unfold yw;split
 .match l with
  |[]=>exact d
  |[_]=>exact d
  |(s2,y)::(s1,x)::r=>exact CG (h (s1,x) sM) (h (s2,y) sM)
 split
 .match l with
  |[]=>exact d
  |(s1,x)::r=>exact CG (h (s1,x) sM) d
 exact CG d d
def AZ(W:Wl)(a:Oa)(o:OpD)(l:List (Nat×Fs)):Prop :=
 (M.ar o.e=1->∃g b s x r,l=(s,x)::r/\a=some (Ad g b)/\Ez W g b x) /\
 (M.ar o.e=2->∃g b d y c x r,l=(d,y)::(c,x)::r/\a=some (Ad g b)/\Ez W g b x/\Ez W g (b+6) y)
def uqg args w:(callFunc 100 args).run prog w=.ok (.enter 100 args) w:=by
 simp[callFunc,func100,f100,go_sem]
def WO:(prog.info? 95).map (λi=>(i.zero,i.size,i.bytes))=some (some (.agg #[Bf,Uv 0,Uv 0,Uv 0,Uv 0,Bf]),6,48):=rR
def usQ:vJ 186 95 6 48:=⟨underlying186,⟨_,WO,rfl⟩,oM⟩
def WQ(w:Wl)(nr n:Nat)(mk:NS)(B:Nat->OpD)(v i:Vl)(wr:Wl):Prop :=
 ∃k g cap:Nat,k<=n/\i=Iv (k:Int)/\v=Sl (Sm g 0) ((M.stk (uJ nr mk) B k).length+1) cap /\
  zB (λb=>w.heap.size<b) wr v 6 ((M.stk (uJ nr mk) B k).length+1) (jK (M.stk (uJ nr mk) B k))/\Fk wr w.heap.size oz/\Bw w wr/\∀p,p∈M.stk (uJ nr mk) B k->p.2.f.OK
def usR{w g x}(h:Fk w g x):Src prog 6 186 (Sl (Sm g 0) 1 1) 1 (Ll x) w:=Xh underlying186 h rfl rfl rfl
def Fk.c{w w' b x}(h:Fk w b x)(k:w'.heap[b]?=w.heap[b]?):Fk w' b x:=k.trans h
def uqi{l a}(h:a<=l.length):∃post,jK l=jK (l.drop a)++post/\(l.drop a).length+a=l.length:=by
 induction a generalizing l with
 |zero=>exact⟨[],sM,sM⟩
 |succ a d =>
  match l with
  |[]=>simp at h
  |(s,x)::r =>
   let⟨post,b,c⟩:=d (l:=r) (by simpa using h);exact⟨post++Ll x,by rw[jK,b,List.drop_succ_cons,Ce],by simp;simp at c;omega⟩
def usS{Q w g cap o l}(h:zB Q w (Sl (Sm g 0) (l.length+1) cap) 6 (l.length+1) (jK l))(a:M.ar o.e<=(l.length:Int))d(b:0<M.ar o.e->d=some (Ad g ((l.length+1-(M.ar o.e).toNat)*6))):AZ w d o l:=by
 rcases h with⟨q,_⟩|⟨j,i,q,k,m,n,c,p⟩
 .cases q
 cases q;constructor
 .intro e;rw[e]at a b;match l with
  |[]=>simp at a
  |(s,x)::r =>
   refine⟨g,_,s,x,r,rfl,b oM,?_⟩;have:=CF (pre:=jK r) (post:=[]) (x:=x) c (by simp[jK]);rw[qm]at this;simpa using this
 intro e;rw[e]at a b;match l with
 |[]=>simp at a
 |[_]=>simp at a
 |(s2,y)::(s1,x)::r =>
  refine⟨g,_,s2,y,s1,x,r,rfl,b oM,?_,?_⟩
  .have:=CF (pre:=jK r) (post:=Ll y) (x:=x) c (by simp[jK,Ce]);rw[qm]at this;simpa using this
  have:=CF (pre:=jK r++Ll x) (post:=[]) (x:=y) c (by simp[jK]);rw[zJ,qm,Xu]at this;have f:(r.length+1)*6+6=(r.length+1+1+1-(2:Int).toNat)*6+6:=sM;rw[f]at this;exact this
def uvz w:(Instr.makeSlice 186 (Iv 1) (Iv 1)).run prog w=.ok (Sl (Sm w.heap.size 0) 1 1) (w.alloc (Hy oz)):=by
 let⟨i,d,b⟩:=Hn.1 WO;simp only[No]at b;obtain⟨g,f,c⟩:=b;have a:=run_make (P:=prog) w 186 95 i _ underlying186 d g .i64 .i64 1 1 oM (Ft _) (by rw[c];omega) oM;rw[f]at a;have e:madeCells (Value.agg #[Bf,Uv 0,Uv 0,Uv 0,Uv 0,Bf]).cells (Int.toNat 1*6)=#[Bf,Uv 0,Uv 0,Uv 0,Uv 0,Bf]:=rR;rw[e]at a;exact a
def uqj(w:Wl):zB (λb=>b=w.heap.size) (w.alloc (Hy oz)) (Sl (Sm w.heap.size 0) 1 1) 6 1 (jK []):=by
 have h:=Fk.a w oz;let⟨d,e,f,g,i,k⟩:=h.b;let⟨s0,l,m,n,o,p⟩:=h.r;refine .inr ⟨w.heap.size,1,rfl,rfl,rfl,zD,λj c=>?_,λj c=>?_⟩
 .match j,c with
  |0,_=>exact d
  |1,_=>exact e
  |2,_=>exact f
  |3,_=>exact g
  |4,_=>exact i
  |5,_=>exact k
  |j+6,c =>
   rw[qm]at c;simp at c;omega
 match j,c with
 |0,_=>exact⟨by rw[d];rfl,s0⟩
 |1,_=>exact⟨by rw[e];rfl,l⟩
 |2,_=>exact⟨by rw[f];rfl,m⟩
 |3,_=>exact⟨by rw[g];rfl,n⟩
 |4,_=>exact⟨by rw[i];rfl,o⟩
 |5,_=>exact⟨by rw[k];rfl,p⟩
 |j+6,c=>omega
def unO{w wr W1 W4 nr n k b st mk B l v j}(F:k<n)(r:Fk wr w.heap.size oz)(s:Bw w wr)(t:∀p,p∈l->p.2.f.OK)(y:M.stk (uJ nr mk) B (k+1)=M.stp (uJ nr mk) (B k) k l)(z:M.stp (uJ nr mk) (B k) k l=(st,yw nr mk (B k) l)::l.drop (M.ar (B k).e).toNat)(m:yw nr mk (B k) l=v)(E:(l.drop (M.ar (B k).e).toNat).length+1=b)(o:Bw wr W1)(A:zB (λx=>w.heap.size<x\/(W1.alloc (Hy v)).heap.size<=x) W4 j 6 (b+1) (jK (l.drop (M.ar (B k).e).toNat)++Ll v))(a:zT (λx=>w.heap.size<x) (W1.alloc (Hy v)) W4):WQ w nr n mk B j (Iv ((k+1:Nat):Int)) W4:=by
 have e:M.stk (uJ nr mk) B (k+1)=(st,v)::l.drop (M.ar (B k).e).toNat:=by rw[y,z,m]
 have H:=r.lt;have I:=o.size;have hb':Bw wr (W1.alloc (Hy v)):=uf o (zO W1);have q:zB (λx=>w.heap.size<x) W4 j 6 (b+1) (jK (M.stk (uJ nr mk) B (k+1))):=by
  rw[e];exact uA A (λx q=>by
   rcases q with q|q
   .exact q
   rw[Ck]at q;omega)
 rcases q with⟨_,q,_⟩|⟨g,cap,rfl,C,D⟩
 .omega
 have u:(M.stk (uJ nr mk) B (k+1)).length+1=b+1:=by rw[e,Db];omega
 refine⟨k+1,g,cap,oM,rfl,by rw[u],?_,(r.h hb').c (a.d _ (by rw[Ck];omega) (λq=>Nq _ q)),?_,?_⟩
 .rw[u];exact .inr ⟨g,cap,rfl,C,D⟩
 .refine(s.trans (hb'.mono s.size)).trans ⟨a.os,a.g,a.f,a.l,λx G=>a.d x (by rw[Ck];omega) (λq=>oM)⟩
 intro p i;rw[e]at i;rcases Dm.1 i with rfl|i
 .rw[<-m];exact uq8 nr mk (B k) l t
 exact t p (List.mem_of_mem_drop i)
def uqk l:∃pre,jK l=pre++Ll (M.top l)/\pre.length=l.length*6:=by
 match l with
 |[]=>exact⟨[],rfl,rfl⟩
 |(s,v)::r=>exact⟨jK r,rfl,by rw[qm];simp⟩
def uvA(m:Nat)(h:m<=1048576):IntKind.i64.wrap (m:Int)=(m:Int):=by
 simp[IntKind.wrap,IntKind.bits,IntKind.signed];omega
def uql Q a n c nr D B mk p1 p2 w(t:zM Q w a n B)(ae:n=0\/M.bC nr D n B)(hn:n<=1048576)(hV:∀(o:OpD) (l:List (Nat×Fs)) (W:Wl) (sa m:Oa) (sc T:Nat),M.bB nr D o->Bw w W->(∀p,p∈l->p.2.f.OK)->M.ar o.e<=(l.length:Int)->AZ W m o l ->
   Cs 100 #[.agg #[Iv o.e,Sl sa o.sl sc,Iv o.f],Sl m (M.ar o.e).toNat T,p1,p2] W (Lm (yw nr mk o l) W)) :
  Cs 99 #[Sl a n c,.func (.func 100) #[] #[p1,p2]] w (Lm (M.top (M.stk (uJ nr mk) B n)) w):=by
 have HB:=ua t;have V:=ua ae;have Y:Hid (∀(o:OpD) (l:List (Nat×Fs)) (W:Wl) (sa m:Oa) (sc T:Nat),M.bB nr D o->Bw w W->(∀p,p∈l->p.2.f.OK)->M.ar o.e<=(l.length:Int)->AZ W m o l ->
   Cs 100 #[.agg #[Iv o.e,Sl sa o.sl sc,Iv o.f],Sl m (M.ar o.e).toNat T,p1,p2] W (Lm (yw nr mk o l) W)):=hV
 clear t ae hV;have bf:=uvz;go_enter func99,ntmps99;go_wp2;go_loopw [5,12] (λv i wr=>WQ w nr n mk B v i wr) (λv i _=>n-(intOf i).toNat)
 .refine⟨0,w.heap.size+1,1,zK,rfl,by simp[M.stk],?_,?_,Bm w,by simp[M.stk]⟩
  .have:=uqj (w.alloc (Hy oz));rw[Ck]at this;exact uA this (λb q=>oM)
  exact(Fk.a w oz).h Bi
 obtain⟨k,g,cap,hk,rfl,rfl,S,P,ab,aa⟩:=hrel;have A:Hid (zB (λb=>w.heap.size<b) wr (Sl (Sm g 0) ((M.stk (uJ nr mk) B k).length+1) cap) 6 ((M.stk (uJ nr mk) B k).length+1) (jK (M.stk (uJ nr mk) B k))):=S;have N:=ua P;have z:Hid (Bw w wr):=ab;have L:Hid (∀p,p∈M.stk (uJ nr mk) B k->p.2.f.OK):=aa;have ac:=kC S;have bh:=P.lt;clear S P ab aa;by_cases H:k<n
 .have C:M.bC nr D n B:=by
   rcases V.o with q|q
   .omega
   exact q
  have hF:M.Fed B k:=λj hj=>C.2.1 j oM;have hE:Hid (M.bB nr D (B k)):=C.1 k H;have a4:=M.bO (uJ nr mk) B k hF;have ay:=C.2.1 k H;have a8:=M.cB (B k).e;have aw:Hid (M.stk (uJ nr mk) B (k+1)=M.stp (uJ nr mk) (B k) k (M.stk (uJ nr mk) B k)):=rfl;have a0:=M.dW B n k oM (λj hj=>C.2.1 j oM);clear hF C;generalize M.stk (uJ nr mk) B k=l at *;have O:M.ar (B k).e<=(l.length:Int):=oM;obtain⟨r,hr⟩:∃r:Nat,(M.ar (B k).e)=(r:Int):=⟨(M.ar (B k).e).toNat,oM⟩;let⟨s,G⟩:=nm (l.length+1);obtain⟨b,hb⟩:∃b,s-r=b:=⟨_,rfl⟩;have R:1<=b:=oM;have az:b<=s:=oM;have a9:(s:Int)-M.ar (B k).e=(b:Int):=oM;have ba:s<=cap:=oM;have bc:b<=cap:=oM;have bd:s<=2097152:=oM;have u:Hid (M.ar (B k).e=(r:Int)):=hr;have E:Hid (l.length+1=s):=G;have x:Hid (s-r=b):=hb;have J:Hid (M.ar (B k).e<=(l.length:Int)):=O;let⟨st,al⟩:=uwc nr mk (B k) k l O;have ax:=ua al;rw[G]at A;rw[G];have t:=HB.h z;rcases t with h0|⟨bb,off,rfl,I,t⟩
  .omega
  let⟨c0,⟨sa,sc,c1,a5⟩,c2⟩:=t k H;have be:=ud c0;clear t a5 a4 ay a0 O al hr G hb ac;have x0:(wr.alloc (Oc #[Iv (B k).e,Sl sa (B k).sl sc,Iv (B k).f] 185)).cell? (Ad wr.heap.size 0)=some (Iv (B k).e):=cN wr.heap.size rfl rfl;have x1:(wr.alloc (Oc #[Iv (B k).e,Sl sa (B k).sl sc,Iv (B k).f] 185)).cell? (Ad wr.heap.size 1)=some (Sl sa (B k).sl sc):=cN wr.heap.size rfl rfl;have x2:(wr.alloc (Oc #[Iv (B k).e,Sl sa (B k).sl sc,Iv (B k).f] 185)).cell? (Ad wr.heap.size 2)=some (Iv (B k).f):=cN wr.heap.size rfl rfl;have bX:Hid (Bw wr (wr.alloc (Oc #[Iv (B k).e,Sl sa (B k).sl sc,Iv (B k).f] 185))):=zO wr;go_wp2_with (go_at_call 154;refine(jf).mono ?_;rintro e W' ⟨rfl,hw⟩;subst W');generalize wr.alloc (Oc #[Iv (B k).e,Sl sa (B k).sl sc,Iv (B k).f] 185)=X at *;let⟨v,hv⟩:=nm (yw nr mk (B k) l);have Z:=ua hv;clear hv;have bg:¬cap=0:=oM;have a2:Hid (s-b=(M.ar (B k).e).toNat):=by show _=_;have:=u;have:=x;omega
  have am:∀m:Option Addr,(0<M.ar (B k).e->m=some (Ad g (b*6)))->∀W,Bw wr W->Cs 100 #[.agg #[Iv (B k).e,Sl sa (B k).sl sc,Iv (B k).f],Sl m (s-b) (cap-b),p1,p2] W (λe W'=>e=Rt (.agg #[.bool v.g,Uv v.f.a,Uv v.f.b,Uv v.f.c,Uv v.f.d,.bool v.e])/\Bw W W'):=λm a3 W F=>by
   have h:=Y.o (B k) l W sa m sc (cap-b) hE.o (z.o.trans (F.mono z.o.size)) L.o J.o (usS (xd (by rw[E.o];exact A.o) oM F) J.o m (λq=>by rw[a3 q];have:=E.o;have:=x.o;have:=u.o;congr 2;omega));rw[Z.o,<-a2.o]at h;exact h
  have au:=ua am;clear am;let⟨post,ah,a1⟩:=uqi (l:=l) (a:=(M.ar (B k).e).toNat) (oG J.o u.o);have an:Hid (∀W,Bw wr W->zB (λb=>w.heap.size<b) W (Sl (Sm g 0) b cap) 6 b (jK (l.drop (M.ar (B k).e).toNat))):=λW F=>xd (utw A.o ah (by rw[qm];have:=E.o;have:=x.o;have:=u.o;congr 1;omega) az oM) oM F;have ao:Hid ((l.drop (M.ar (B k).e).toNat).length+1=b):=by show _=_;have:=E.o;have:=x.o;have:=u.o;omega
  clear ah a1;have aq:Hid (cap=b->¬0<M.ar (B k).e):=λe q=>oG u x;go_region_law (first
   |(refine utv uqg rfl (.tmp 25) (.tmp 26) (.tmp 29) 185 186 rfl (p1:=p1) (p2:=p2) (y1:=.agg #[Iv (B k).e,Sl sa (B k).sl sc,Iv (B k).f]) (y2:=Sl (if cap=b then some (Ad g 0) else some (Ad g (b*6))) (s-b) (cap-b)) (by simp[Act.eval]) (by simp[Act.eval]) (by simp[Act.eval]) ((au.o (if cap=b then some (Ad g 0) else some (Ad g (b*6))) (λq=>Zn (λe=>aq.o e q)) X.drew bX.o.drew).mono ?_);rintro e W1 ⟨rfl,R⟩;have U:=ua (uf bX ((zH X).drew.trans R));clear R;refine⟨_,rfl,?_⟩)
   |(refine jN rfl (.tmp 24) (.tmp 31) 186 186 rfl (v:=Sl (Sm g 0) b cap) (y:=Sl (Sm W1.heap.size 0) 1 1) (by simp[Act.eval,Act.put]) (by simp[Act.eval,Act.put]) usQ (an.o (W1.alloc (Hy v)) (uf U.o (zO W1))) (usR (Fk.a W1 v)) oM ?_;intro v' W4 af ad a6;have av:=ua af;have ap:=ua ad;clear af ad a6))
  all_goals go_wp2
  all_goals go_roundw
  all_goals first
   |exact unO H N z L aw ax Z ao U av ap
   |(simp[intOf];omega)
 obtain rfl:k=n:=oM;let⟨pre,ai,ag⟩:=uqk (M.stk (uJ nr mk) B k);have aj:Ez wr g ((M.stk (uJ nr mk) B k).length*6) (M.top (M.stk (uJ nr mk) B k)):=by
  rcases A.o with⟨q,_⟩|⟨g',a7,q,h2,h3,h4,h5,h6⟩
  .cases q
  cases q;have:=CF (pre:=pre) (post:=[]) h5 (by rw[ai,Dl]);rw[ag]at this;exact this
 have ak:(M.stk (uJ nr mk) B k).length<=1048576:=by
  rcases V.o with q|q
  .subst q;simp[M.stk]
  have:=M.bO (uJ nr mk) B k q.2.1;rw[q.2.2]at this;omega
 clear ai ag L A Y ac;generalize M.stk (uJ nr mk) B k=l at *;let⟨q,I⟩:=nm l.length;rw[I]at aj ak;rw[I];clear I;have x1:((q+1:Nat):Int)-1=(q:Int):=oM;obtain⟨t0,t1,t2,t3,t4,t5⟩:=aj;let⟨r0,r1,r2,r3,r4,r5⟩:=N.b;let⟨s0,s1,s2,s3,s4,s5⟩:=N.r;simp only[oz,nz]at r0 r1 r2 r3 r4 r5;generalize M.top l=v at *;have x2:=uvA q ak;go_wp2;refine zL (v:=Jf v) (by simp[results,f99,go_sem,Jf, *]) rfl ?_;exact⟨rfl,IX z w.heap.size v zD⟩
def IW(w:Wl)(nr b:Nat)(mk:NS)(p1 p2:Vl):Prop :=
 ∀(o:OpD) (l:List (Nat×Fs)) (W:Wl) (sa a:Oa) (sc c:Nat),M.bB nr b o->Bw w W->(∀p,p∈l->p.2.f.OK)->M.ar o.e<=(l.length:Int)->AZ W a o l ->
  Cs 100 #[.agg #[Iv o.e,Sl sa o.sl sc,Iv o.f],Sl a (M.ar o.e).toNat c,p1,p2] W (Lm (yw nr mk o l) W)
def BA nr mk o x y:(uJ nr mk o x y).g=M.fN nr mk.j o x.g y.g:=by
 unfold uJ M.fN;by_cases b:o.e=0
 .have a:¬M.bE o:=by rintro (q|q)<;>omega
  simp[b,a]
 by_cases a:M.bE o
 .have c:¬o.e=1:=by rcases a with q|q<;>omega
  simp[b,a,c]
 by_cases c:o.e=1
 .simp[b,a,c]
 by_cases d:o.e=4
 .simp[b,a,c,d]
 by_cases f:o.e=5
 .simp[b,a,c,d,f]
 by_cases h:o.e=6
 .simp[b,a,c,d,f,h]
 by_cases i:o.e=7
 .simp[b,a,c,d,f,h,i]
 simp[b,a,c,d,f,h,i]
def WR nr mk B n:(M.top (M.stk (uJ nr mk) B n)).g=M.bZ nr mk.j n B:=by
 unfold M.bZ;rw[M.dN (uJ nr mk) (M.fN nr mk.j) Fs.g rfl (BA nr mk)];generalize M.stk (uJ nr mk) B n=l;match l with
 |[]=>rfl
 |(s,x)::r=>rfl
def WS Q ra la a nr rc f lc n c B mk w(o:zM Q w a n B)(q:n=0\/M.bC nr f n B)(z:n<=1048576)(p:∀W m s,Do W m s ra la nr rc f lc mk->IW W nr f mk (Pt m 0) (Pt s 0)) :
  Cs 40 #[.agg #[Sl ra nr rc,Sl la f lc],Sl a n c,.agg #[Uv mk.a,Uv mk.b,Uv mk.c,Uv mk.d]] w (Lm (M.top (M.stk (uJ nr mk) B n)) w):=by
 have u:=ua o;have x:=ua q;have y:=ua p;clear o q p;have j:Hid (Do (((w.alloc (Oc #[Sl ra nr rc,Sl la f lc] 34)).alloc (Ax mk)).alloc (Hy oz)) w.heap.size (w.heap.size+1) ra la nr rc f lc mk):=by
  refine⟨ue (ue (cN w.heap.size rfl rfl) Bi) Bi,ue (ue (cN w.heap.size rfl rfl) Bi) Bi,?_⟩;have:=At.a (w.alloc (Oc #[Sl ra nr rc,Sl la f lc] 34)) mk;rw[Ck]at this;exact this.h Bi
 have k:Hid (Fk (((w.alloc (Oc #[Sl ra nr rc,Sl la f lc] 34)).alloc (Ax mk)).alloc (Hy oz)) (w.heap.size+1+1) oz):=by
  have:=Fk.a ((w.alloc (Oc #[Sl ra nr rc,Sl la f lc] 34)).alloc (Ax mk)) oz;rw[Ck,Ck]at this;exact this
 have g:Hid (Bw w (((w.alloc (Oc #[Sl ra nr rc,Sl la f lc] 34)).alloc (Ax mk)).alloc (Hy oz))):=Lk w _ _ _;go_enter func40,ntmps40;go_wp2_with fail;refine(uql Q a n c nr f B mk _ _ _ (u.h g) x z (y _ _ _ j)).mono ?_;rintro e W ⟨rfl,i⟩;have t:=ua (uf g i);have l:=ua (k.h i);let⟨A,r1,r2,C,D,E⟩:=l.b;let⟨s0,F,G,H,I,J⟩:=l.r;simp only[oz,nz]at A r1 r2 C D E;clear i j k g;generalize M.top (M.stk (uJ nr mk) B n)=v at *;unfold Jf;go_wp2;refine zL (v:=Jf v) (by simp[results,f40,go_sem,Jf, *]) rfl ?_;exact⟨rfl,IX t (w.heap.size+1+1) v oM⟩
def Ej(Q:Np)(w:Wl)(b:Nat)(g:Gr)(n:Nat):Prop:=∀i,i<n->∃a c,w.cell? (Ad b i)=some (Sl a (nd g i).bl c)/\zM Q w a (nd g i).bl (nd g i).e
def Ej.h{Q w w' b n g}(h:Ej Q w b g n)(k:Bw w w'):Ej Q w' b g n:=λi d =>
 let⟨a,c,h1,h2⟩:=h i d
 ⟨a,c,ue h1 k,h2.h k⟩
def usT(g:Gr)(p:Nat):Prop:=(nd g p).bl=0\/M.bC g.nr g.nb (nd g p).bl (nd g p).e
def uqm Q ra la rc lc g f k b n cap x S W(z:W.cell? (Ad f 0)=some (Sl ra g.nr rc))(A:W.cell? (Ad f 1)=some (Sl la g.nb lc))(B:W.cell? (Ad k 0)=some (Sl (Sm b 0) n cap))(m:Ej Q W b g n)(E:x<n)(G:n<=200)(r:usT g x)(D:(nd g x).bl<=1048576)(p:∀W f s,Do W f s ra la g.nr rc g.nb lc S->IW W g.nr g.nb S (Pt f 0) (Pt s 0)) :
  Cs 98 #[Iv (x:Int),.agg #[Uv S.a,Uv S.b,Uv S.c,Uv S.d],.pointer (Sm f 0),.pointer (Sm k 0)] W λe W'=>e=Rt (.bool (M.bZ g.nr S.j (nd g x).bl (nd g x).e))/\Bw W W':=by
 let⟨a,c,C,o⟩:=m x E;have u:=ua o;have v:=ua r;have y:=ua p;have i:Hid (Bw W (W.alloc (Ax S))):=zO W;have N:=uG (Ax S) z;have y1:=uG (Ax S) A;have y2:=uG (Ax S) B;have O:=uG (Ax S) C;let⟨H,I,J,L⟩:=(At.a W S).b;have F:∀(n l:Bool) (a b c d:Int) (w:Wl),(Instr.field 95 (.agg #[.bool n,Uv a,Uv b,Uv c,Uv d,.bool l]) 0).run prog w=.ok (.bool n) w:=λn l a b c d w=>by kernel_rfl
 clear o m r p;go_enter func98,ntmps98;go_wp2;rw[show(Obj.cells #[Uv S.a,Uv S.b,Uv S.c,Uv S.d] 91)=Ax S from rfl];generalize W.alloc (Ax S)=X at *;go_region_with (go_at_call 40;refine(WS Q ra la a g.nr rc g.nb lc (nd g x).bl c (nd g x).e S _ (u.h i.drew) v D y).mono ?_;rintro e W2 ⟨rfl,q⟩;have t:Hid (Bw W W2):=uf i ((zH X).drew.trans q);clear q;unfold Jf);all_goals go_wp2
 all_goals go_ret
 all_goals exact⟨xR (WR _ _ _ _),t⟩
open Go.RowKit Go.Shelf
attribute [local go_sem] Oper.semAt_some
def F4{F:Fence}{N:Nat}{ops:Array Oper}{rest:List Oper}{o:Oper}{a:Act}{i:Exit->Act->World->Prop}{w:Wl}(A:o.guard=none)(s x:Operand)(t j:TypeId)(g:o.op=.call { callee:=.builtin .append,args:=#[s,x],argTypes:=#[t,j] })
  {Q:Np} {v y:Vl} {e:TypeId} {d k n m:Nat} {cs news:List Value} (E:a.eval s=v) (H:a.eval x=y) (r:vJ t e d k) (C:zB Q w v d n cs) (G:Src prog d j y m news w) (B:n+m<=16777216)
  (h:∀f w',zB (λb=>Q b\/w.heap.size<=b) w' f d (n+m) (cs++news)->zT (λb=>Q b) w w'->w'.heap.size<=w.heap.size+1->wpListIn F N prog ops i rest (a.put o.dst f) w'):wpListIn F N prog ops i (o::rest) a w:=by
 refine wpListIn_plain A λK u=>?_;let⟨f,w',D,l,p,q⟩:=yN o.type r C G B;unfold Oper.wpIn;refine⟨?_,?_⟩
 .simp[Oper.about,g,resolve,Target.leads,Nm]
 rw[Oper.semAt_plain F _ _ (by rw[g];intro c z;cases z)];simp[execOp,g,resolve,invoke,builtin,E,H,D,Result.andThen];exact u _ _ (h f w' l p q)
def Nv(g:Gr)(ba:Nat->Option Addr)(bc:Nat->Nat)(p:Nat):List Value:=(List.range p).map (λi=>Sl (ba i) (nd g i).bl (bc i))
def F5 g(ba:Nat->Option Addr)bc p:Nv g ba bc (p+1)=Nv g ba bc p++[Sl (ba p) (nd g p).bl (bc p)]:=by simp[Nv,List.range_succ]
def F6:(prog.info? 67).map (λi=>(i.zero,i.size,i.bytes))=some (some nS,1,24):=rR
def F7:vJ 87 67 1 24:=⟨underlying87,⟨_,F6,rfl⟩,oM⟩
structure Ig(w:Wl)(g:Gr)(ba:Nat->Option Addr)(bc:Nat->Nat)(p:Nat)(x:Wl):Prop where
 le:p<=g.nr+g.nb
 k:∃v,x.cell? (Ad (w.heap.size+1) 0)=some v/\zB (λb=>w.heap.size+4<b) x v 1 p (Nv g ba bc p)
 r:x.frozen? (Ad (w.heap.size+1) 0)=false
 q:Bw w x
 l:w.heap.size+3<=x.heap.size
def Ig.y{w g}{ba:Nat->Option Addr}{bc p A E}(h:Ig w g ba bc p A)(k:zA (λk=>k=w.heap.size+3\/k=w.heap.size+3+1) A E):Ig w g ba bc p E:=by
 have m:=h.l;let⟨v,i,j⟩:=h.k;have e:=k.d (w.heap.size+1) oM (λq=>oM);refine⟨h.le,⟨v,(Bd (a:=(Ad (w.heap.size+1) 0)) e).trans i,?_⟩,(Dp (a:=(Ad (w.heap.size+1) 0)) e).trans h.r,⟨k.os.trans h.q.os,k.g.trans h.q.tape,k.f.trans h.q.output,zP h.q.size k.l,λb c=>(k.d b oM (λq=>oM)).trans (h.q.block b c)⟩,zP m k.l⟩;exact WX j oM (λb c q=>k.d b c (λr=>oM))
def F8{w h W' g}{ba:Nat->Option Addr}{bc p j c' v o}(i:Ig w g ba bc p h)(B:w.heap.size+4<=h.heap.size)(z:W'.cell? (Ad (w.heap.size+1) 0)=some v)(t:zB (λb=>w.heap.size+4<b\/(h.alloc o).heap.size<=b) W' (Sl j (p+1) c') 1 (p+1) (Nv g ba bc p++[Sl (ba p) (nd g p).bl (bc p)]))(c:zT (λb=>w.heap.size+4<b) (h.alloc o) W')(y:p+1<=g.nr+g.nb) :
  zA (λk=>k=w.heap.size+1\/w.heap.size+4<k) h (W'.setCell (Ad (w.heap.size+1) 0) (Sl j (p+1) c'))/\Ig w g ba bc (p+1) (W'.setCell (Ad (w.heap.size+1) 0) (Sl j (p+1) c')):=by
 have A:=c.l;rw[Ck]at A;have n:∀b,b<h.heap.size->¬w.heap.size+4<b->W'.heap[b]?=h.heap[b]?:=λb m x=>(c.d b (by rw[Ck];omega) x).trans (Iu h o b m);constructor
 .exact⟨c.os,c.g,c.f,by rw[uh];omega,λk u s=>(Gz k (λe=>s (.inl e))).trans (n k u (λq=>s (.inr q)))⟩
 refine⟨y,⟨_,uC z,?_⟩,?_,?_,by rw[uh];omega⟩
 .rw[F5];have q:zB (λb=>w.heap.size+4<b) W' (Sl j (p+1) c') 1 (p+1) (Nv g ba bc p++[Sl (ba p) (nd g p).bl (bc p)]):=uA t (λb q=>by
   rcases q with q|q
   .exact q
   rw[Ck]at q;omega)
  exact q.on (λb m=>Gz b (λe=>by simp only at e;omega))
 .rw[Et,Dp (a:=(Ad (w.heap.size+1) 0)) (n (w.heap.size+1) oM oM)];exact i.r
 exact⟨c.os.trans i.q.os,c.g.trans i.q.tape,c.f.trans i.q.output,by rw[uh];have:=i.q.size;omega,λb m=>(Gz b (λe=>by simp only at e;omega)).trans ((n b (oH i.q.size) oM).trans (i.q.block b m))⟩
structure LR(Q:Np)(g:Gr)(w:Wl)(e:Ending)(w':Wl):Prop where
 k:∃b cap,e=Rt (Sl (Sm b 0) (g.nr+g.nb) cap)/\Ej Q w' b g (g.nr+g.nb)
 q:Bw w w'
def F9 Q ra la rc lc g rb ro lb lo(na ba:Nat->Option Addr)nc bc w(h0:0<g.nr)(h1:g.nr<=100)(h2:g.nb<=100)(t:∀W,Bw w W->Flat W ra la g rb ro lb lo na ba nc bc)(S:∀p,p<g.nr+g.nb->zM Q w (ba p) (nd g p).bl (nd g p).e) :
  CallsIn Fence.wide 0 prog 38 #[.agg #[Sl ra g.nr rc,Sl la g.nb lc]] w (LR Q g w):=by
 have aj:Fence.wide.depth=none:=rfl;have HF:=ua t;have HO:=ua S;have Z:0<g.nr->rb<w.heap.size:=λh=>ud ((t w (zH _)).r0 0 h);have Y:0<g.nb->lb<w.heap.size:=λh=>ud ((t w (zH _)).l0 0 h);clear t S;refine callsIn_of_wp_marks func38 rfl trivial ?_ rfl;simp only[ntmps38,Ma,Db,Iw,Nat.reduceAdd,Nat.reduceSub,Nb,Nc,Nf,Nd,Hm,Fc]
 gi_wp2_with (refine⟨trivial,?_⟩;gi_at_call 92;refine(IT).mono ?_;rintro e w' ⟨rfl,rfl⟩)
 let⟨n,f⟩:=nm (((w.alloc (Oc #[Sl ra g.nr rc,Sl la g.nb lc] 34)).alloc (Oc #[nS] 87)).alloc (Oc #[Sl ra g.nr rc,Sl la g.nb lc] 34));have C:n.heap.size=w.heap.size+3:=by rw[<-f];simp
 have L:Bw w n:=by rw[<-f];exact Lk w _ _ _
 have u:=jw (w.alloc (Oc #[Sl ra g.nr rc,Sl la g.nb lc] 34)) nS 87;have H:=AJ (w.alloc (Oc #[Sl ra g.nr rc,Sl la g.nb lc] 34)) nS 87;have z:=xB ((w.alloc (Oc #[Sl ra g.nr rc,Sl la g.nb lc] 34)).alloc (Oc #[nS] 87)) (Sl ra g.nr rc) (Sl la g.nb lc) 34;simp only[Ck]at u H z;rw[f]at z;have ah:Ig w g ba bc 0 n:=⟨zK,⟨_,by rw[<-f];exact uG _ u,.inl ⟨rfl,rfl,rfl⟩⟩,by rw[<-f];exact Xd u H,L,oM⟩;rw[f];clear f u H;refine HZ (gf:=148) (lb:=#[.pointer (Sm (w.heap.size+1+1) 0)]) rfl (enters_of func148 rR rfl)
  (qM (w.heap.size+1+1) ra la rc lc g rb ro lb lo na ba nc bc n oM oM z.1 z.2 (HF n L)) (λ_=>rfl) ?hD (λk=>k=w.heap.size+1\/w.heap.size+4<k) ?hCD ?hC0 ?hC1
  (Ig w g ba bc) ?hI ah ?round ?done
 case hD =>
  rintro k (rfl|⟨rfl,j⟩|⟨rfl,j⟩)
  .omega
  .have:=Z j;omega
  have:=Y j;omega
 case hCD =>
  rintro k (rfl|⟨rfl,j⟩|⟨rfl,j⟩) hc
  .omega
  .have:=Z j;omega
  have:=Y j;omega
 case hC0=>rw[C];omega
 case hC1=>rw[C];omega
 case hI =>
  rintro s A E O _ X;rw[C]at X;exact O.y X
 case round =>
  intro l' p x ak al P an;unfold Ul
  gi_wp2
  refine⟨Cc,P,?_⟩;clear P;rintro m af aa c;have hx4':w.heap.size+4<=m.heap.size:=by rw[aa];have:=C;omega
  let⟨v,I,o⟩:=c.k;obtain⟨av,cv,rfl⟩:=uj o;have k2:=c.r;have HI:=ua c;have ac:=ua o;clear o c;have lx:=ud I;have ag:=ua hx4';have ad:Hid (w.heap.size+1<(m.alloc (Oc #[Sl (ba p) (nd g p).bl (bc p)] 67)).heap.size):=by show _<_;rw[Ck];omega
  clear aa af hx4'
  gi_wp2_with (gi_at_builtin;refine F4 rfl _ _ 87 87 rfl rfl rfl F7 (Q:=λb=>w.heap.size+4<b) (xd ac oM (uk m (Oc #[Sl (ba p) (nd g p).bl (bc p)] 67))) (qg (us:=[Sl (ba p) (nd g p).bl (bc p)]) underlying87 rfl rfl rfl) oM ?_;intro v' W' G F ab;obtain⟨a',c',rfl⟩:=uj G;have Gl:=(F.d (w.heap.size+1) ad (λq=>oM)).trans (Iu m (Oc #[Sl (ba p) (nd g p).bl (bc p)] 67) _ lx);have k1':W'.cell? ⟨w.heap.size+1,0,none⟩=some (Sl av p cv):=(Bd (a:=⟨w.heap.size+1,0,none⟩) Gl).trans I;have k2':W'.frozen? ⟨w.heap.size+1,0,none⟩=false:=(Dp (a:=⟨w.heap.size+1,0,none⟩) Gl).trans k2;have HO':Hid (zB (λb=>w.heap.size+4<b\/(m.alloc (Oc #[Sl (ba p) (nd g p).bl (bc p)] 67)).heap.size<=b) W' (Sl a' (p+1) c') 1 (p+1) (Nv g ba bc p++[Sl (ba p) (nd g p).bl (bc p)])):=G;have HG:Hid (zT (λb=>w.heap.size+4<b) (m.alloc (Oc #[Sl (ba p) (nd g p).bl (bc p)] 67)) W'):=F;clear G F ab Gl)
  exact F8 HI ag k1' HO' HG oM
 case done =>
  rintro d p x hd ao c R;let⟨v,I,o⟩:=c.k;have am:=c.le;obtain rfl:p=g.nr+g.nb:=oM;rcases o.a oM (λb q hb=>(⟨q,hb⟩:_/\_)) with⟨_,q,_⟩|⟨b,cap,rfl,⟨hq,ai⟩,D,h4,N,h6⟩
  .omega
  have T:=c.q;have ab:=c.l;have J:=ua N;clear N h6
  gi_wp2
  refine⟨sM,.inl ⟨_,_,rfl,run_takeDeferred R,?_⟩⟩;have ae:b≠d:=by
   rintro rfl;have h:=J 0 (by rw[D];omega);have h':x.cell? (Ad b 0)=none:=(by simp[World.cell?,R]);rw[h']at h;have hl:0<(Nv g ba bc (g.nr+g.nb)).length:=(by rw[D];omega);rw[Bb hl]at h;cases h
  have U:=qf (B:=w.heap.size) x (.deferred none) (d:=d) oM oM;refine⟨Sl (Sm b 0) (g.nr+g.nb) cap,?_,⟨⟨b,cap,rfl,λi V=>⟨ba i,bc i,?_,?_⟩⟩,T.trans U⟩⟩
  .simp[results,f38,go_sem]
  .rw[Bd (a:=(Ad b i)) (World.putObj_heap_other ae),J.o i (by rw[D];omega)];simp[Nv,V]
  exact(HO i V).h (T.trans U)
def G0 Q ra la rc lc g w(e:Ca Q w ra la g)(a:0<g.nr)(b:g.nr<=100)(c:g.nb<=100) :
  Cs 38 #[.agg #[Sl ra g.nr rc,Sl la g.nb lc]] w (LR Q g w):=by
 let⟨rb,j,lb,lo,na,ba,nc,bc,d,f⟩:=LG e;exact callsIn_wide.1 (F9 Q ra la rc lc g rb j lb lo na ba nc bc w a b c (λW i=>d.h i) f)
def M.Rel{α:Type}(R:α->α->Prop):List (Nat×α)->List (Nat×α)->Prop
 |[],[]=>True
 |(_,x)::r,(_,y)::r'=>R x y/\M.Rel R r r'
 |_,_=>False
def M.dF{α:Type}[Inhabited α]{R:α->α->Prop}{f b:OpD->α->α->α}{B:Nat->OpD}(c:R default default){i:Nat}(h:∀j,j<i->∀x y e g,R x e->R y g->R (f (B j) x y) (b (B j) e g)):M.Rel R (M.stk f B i) (M.stk b B i):=by
 induction i with
 |zero=>trivial
 |succ i a =>
  have a:=a λj k=>h j oM;have d:=h i oM;rw[M.stk,M.stk];generalize M.stk f B i=l at *;generalize M.stk b B i=l' at *;unfold M.stp;split
  .match l,l',a with
   |[],[],_=>trivial
   |[_],[_],_=>trivial
   |_::_::_,_::_::_,a=>exact⟨d _ _ _ _ a.2.1 a.1,a.2.2⟩
   |[_],_::_::_,a=>exact a.2.elim
   |_::_::_,[_],a=>exact a.2.elim
  split
  .match l,l',a with
   |[],[],_=>trivial
   |_::_,_::_,a=>exact⟨d _ _ _ _ a.1 c,a.2⟩
  exact⟨d _ _ _ _ c c,a⟩
def M.dH{α:Type}[Inhabited α]{R:α->α->Prop}(a:R default default){l l':List (Nat×α)}(h:M.Rel R l l'):R (M.top l) (M.top l'):=by
 match l,l',h with
 |[],[],_=>exact a
 |_::_,_::_,h=>exact h.1
def M.Lw(n:Nat)(F:(Nat->Bool)->Nat->Bool)(m:Nat->Bool):Prop:=∀t:Nat->Bool,(∀v,v<n->F t v=true->t v=true)->∀v,v<n->m v=true->t v=true
def M.Lw.d{n}{F:(Nat->Bool)->Nat->Bool}{x m c}(f:M.Mono n F)(h:M.Lw n F m)(q:F m x=true)(g:∀v,v<n->c v=(m v||v==x)):M.Lw n F c:=λt b v a e=>by
 rw[g v a]at e;simp at e;rcases e with e|rfl
 .exact h t b v a e
 exact b v a (f.h m t (h t b) v a q)
structure ID(b:Bool)(w:Wl)(e:Ending)(w':Wl):Prop where
 k:∃r:Bool,(r=true->b=true)/\e=Rt (.bool r)
 q:Bw w w'
def AL(v:Option Value):Nat:=match v with|some (.int _ x)=>x.toNat|_=>0
def Mr(w:Wl)(b:Nat):NS:=⟨AL (w.cell? (Ad b 0)),AL (w.cell? (Ad b 1)),AL (w.cell? (Ad b 2)),AL (w.cell? (Ad b 3))⟩
def IE{w b s}(h:At w b s):Mr w b=s:=by
 let⟨a,c,d,e⟩:=h.b;unfold Mr;rw[a,c,d,e];rfl
def Ms(w:World)(b:Nat):Nat:=match w.cell? (Ad b 0) with|some (.slice _ n _)=>n|_=>0
def IF{Q w b L}(h:WL Q w b L):Ms w b=L.length:=by
 let⟨v,d,e⟩:=h.k;obtain⟨a,c,rfl⟩:=uj e;unfold Ms;rw[d]
def AM(v:Value):Nat:=match v with|.bool true=>1|_=>0
def Fq(w:Wl)(b o n:Nat)(U:Nat->NS):Prop:=∀i,i<n->w.cell? (Ad b (o+i*4))=some (Uv (U i).a)/\w.cell? (Ad b (o+i*4+1))=some (Uv (U i).b)/\w.cell? (Ad b (o+i*4+2))=some (Uv (U i).c)/\w.cell? (Ad b (o+i*4+3))=some (Uv (U i).d)
def Fq.h{w w' b o n U}(h:Fq w b o n U)(k:Bw w w'):Fq w' b o n U:=λi a =>
 ⟨ue (h i a).1 k,ue (h i a).2.1 k,ue (h i a).2.2.1 k,ue (h i a).2.2.2 k⟩
def Qe(s:NS)(p:Nat){w:Wl}(g:s.OK)(f:p<256) :
  Cs 102 #[.agg #[Uv s.a,Uv s.b,Uv s.c,Uv s.d],Iv p] w λe w'=>e=Rt (.bool (s.j p))/\Bw w w' :=
 (VY s p w g f).mono (λe w' h=>⟨h.1,by rw[h.2];exact zO w⟩)
def Qm(w:Wl)(a:Nat)(b:Nat):Prop:=w.heap.size+1<b/\b≠a
def UZ(w:Wl)(n:Nat)(a:Vl)(wr:Wl):Prop :=
 ∃k:Nat,k<=n/\a=Iv (k:Int)/\WL (λb=>w.heap.size+1<b) wr (w.heap.size+1) (List.range k)/\At wr w.heap.size nz/\Bw w wr
structure LS(w:Wl)(mb:Nat)(S:NS)(L:List Nat)(W:Wl):Prop where
 ok:S.OK
 l:WL (Qm w mb) W (w.heap.size+1) L
 a:At W w.heap.size nz
 m:At W mb S
 b:Bw w W
def IG(w:Wl)(n c:Nat)(F:(Nat->Bool)->Nat->Bool)(a b:Vl)(wr:Wl):Prop :=
 ∃(L:List Nat) (S:NS),LS w c S L wr/\M.Lw n F S.j /\
  ((b=Bf/\∃x:Int,a=Iv x)\/(∃x:Nat,b=Bt/\a=Iv (x:Int)/\x<n/\(∀y∈L,y<n)/\M.bI n S.j (L.length+1)<=n*(n+1)+n))
def IH(w:Wl)(n b:Nat)(S:NS)(L:List Nat)(a:Vl)(wr:Wl):Prop :=
 ∃(k:Nat) (us:List Nat),k<=n/\a=Iv (k:Int)/\us.length<=k/\(∀y∈us,y<n)/\LS w b S (L++us) wr
def II{Q B w w'}(h:zT Q w w')(c:B<=w.heap.size)(a:∀b,Q b->B<=b):Below B w w' :=
 ⟨h.os,h.g,h.f,h.l,λb e=>h.d b oM (λq=>oH (a b q))⟩
def WL.g{Q Q' w a L}(h:WL Q w a L)(k:∀b,Q b->Q' b):WL Q' w a L :=
 let⟨v,h1,h2⟩:=h.k
 ⟨⟨v,h1,uA h2 k⟩,h.r⟩
def WL.a{Q Q' w c L}(h:WL Q w c L)(d:0<L.length)(k:∀b,Q b->b<w.heap.size->Q' b):WL Q' w c L :=
 let⟨v,h1,h2⟩:=h.k
 ⟨⟨v,h1,h2.a oM k⟩,h.r⟩
def WL.h{Q w w' a L}(h:WL Q w a L)(k:Bw w w'):WL Q w' a L:=by
 let⟨v,b,c⟩:=h.k;refine⟨⟨v,ue b k,xd c oM k⟩,?_⟩;rw[k.frozen (p:=(Ad a 0)) h.lt];exact h.r
def LS.on{w W W' c S L}(h:LS w c S L W)(k:Bw W W'):LS w c S L W':=⟨h.ok,h.l.h k,h.a.h k,h.m.h k,h.b.trans (k.mono h.b.size)⟩
def VA{n m k c}(h:M.bI n m k<=c):k<=c:=by unfold M.bI at h;omega
def IJ{w W n f}{F:(Nat->Bool)->Nat->Bool}{S L P}(h:LS w f S L W)(v:n<=200)(B:w.heap.size+1<f)(p:∀y∈L,y<n)(r:M.Lw n F S.j)(c:M.bI n S.j L.length<=n*(n+1)+n)(g:∀u k W',IG w n f F u k W'->M.bI n (Mr W' f).j (Ms W' (w.heap.size+1)+AM k)=M.bI n S.j L.length->P (Rt (.tuple #[u,k])) W'):Cs 153 #[.pointer (Sm (w.heap.size+1) 0)] W P:=by
 have t:=VA c;have A:n*(n+1)+n<=1048576:=by
  have:n*(n+1)<=200*201:=Nat.mul_le_mul v oM;omega
 rcases ulu L with rfl|⟨o,x,rfl⟩
 .refine(tkN _ _ W h.l).mono ?_;rintro e W' ⟨rfl,rfl⟩;exact g _ _ _ ⟨[],S,h,r,.inl ⟨rfl,0,rfl⟩⟩ (by rw[IE h.m,IF h.l];rfl)
 rw[zJ]at c t g;simp only[Db,Iw,Bp]at c t g;refine(tkS _ _ x o W h.l (λq=>Nq _ q.1) oM).mono ?_;rintro e W' ⟨rfl,s,i⟩;have C:=h.l.lt;have hm':=h.m.y (i.d _ h.m.lt (λq=>oM));exact g _ _ _ ⟨o,S,⟨h.ok,s,h.a.y (i.d _ oM (λq=>oM)),hm',h.b.trans (II i h.b.size (λb q=>oM))⟩,r,.inr ⟨x,rfl,rfl,p x sM,λy z=>p y (by simp[z]),c⟩⟩ (by rw[IE hm',IF s];rfl)
def ukN n:M.bI n nz.j (List.range n).length<=n*(n+1)+n:=by
 unfold M.bI;rw[List.length_range];have:n-M.cnt nz.j n<=n:=Nat.sub_le _ _;have:=Kz (n+1) this;omega
structure usE(n:Nat)(F:(Nat->Bool)->Nat->Bool)(w:Wl)(e:Ending)(w':Wl):Prop where
 k:∃S:NS,S.OK/\M.Lw n F S.j/\e=Rt (Hk S)
 q:Bw w w'
def VB{f ps}ub uo n uc U(F:(Nat->Bool)->Nat->Bool)w(hf:∀args w,(callFunc f args).run prog w=.ok (.enter f args) w)(hU:Fq w ub uo n U)(ao:∀i,i<n->(U i).OK)(h0:0<n)(hn:n<=200)(hM:M.Mono n F)(hF:∀x,x<n->∀S:NS,S.OK->∀W,Bw w W->Cs f (#[Iv (x:Int),.agg #[Uv S.a,Uv S.b,Uv S.c,Uv S.d]]++ps) W (ID (F S.j x) W)) :
  Cs 97 #[Sl (Sm ub uo) n uc,.func (.func f) #[] ps] w (usE n F w):=by
 have HU:=ua hU;have av:=ua ao;have HM:=ua hM;have HF:=ua hF;clear hU ao hM hF;go_enter func97,ntmps97;go_wp2;go_loopw [14] (λO wr=>UZ w n O wr) (λO _=>n-(intOf O).toNat)
 .refine⟨0,zK,rfl,⟨⟨nS,cN (w.heap.size+1) sM rfl,.inl ⟨rfl,rfl,rfl⟩⟩,qU _ 253 (w.heap.size+1) 0 sM sM⟩,(At.a w nz).h Bi,Bm w⟩
 obtain⟨k,hk,rfl,hL,hA,J⟩:=hrel;have D:=ua hL;have HA:=ua hA;have R:=ua J;clear hL hA J;by_cases a3:k<n
 .go_wp2_with fail;refine(D9 (w.heap.size+1) k (List.range k) D.o (λq=>Nq _ q) sO).mono ?_;rintro e W ⟨⟨v,rfl⟩,hl,H⟩;have X:Hid (UZ w n (Iv ((k:Int)+1)) W):=⟨k+1,a3,by go_num,by rw[List.range_succ];exact hl.g (λb q=>oH D.o.lt),HA.o.y (H.d _ (oH D.o.lt) (λq=>oM)),R.o.trans (II H R.o.size (λb q=>oM))⟩;clear hl H;go_wp2;go_roundw
  .exact X.o
  simp[intOf];omega
 obtain rfl:k=n:=oM;let⟨V,eV⟩:=nm wr;subst wr;have lV:=D.o.lt;have ah:Hid (LS w V.heap.size nz (List.range k) (V.alloc (Ax nz))):=⟨NS.OK.f,(D.o.a (by rw[List.length_range];exact h0) (λb q1 q2=>⟨q1,oM⟩)).h (zO V),HA.o.h (zO V),At.a V nz,R.o.trans ((zO V).mono R.o.size)⟩;go_wp2_with fail;refine IJ (F:=F) ah.o hn lV (λy N=>by simpa using N) (λt ht v hv e=>by rw[Sf]at e;cases e) (ukN k) λz p W1 u _=>?_;have C:=ua u;let⟨o,ai⟩:=nm V.heap.size;rw[ai]at C lV;clear u ah D HA R;go_wp2;clear ai;go_loopw [8,9] (λz p wr=>IG w k o F z p wr) (λz p wr=>M.bI k (Mr wr o).j (Ms wr (w.heap.size+1)+AM p))
 .exact C.o
 obtain⟨L,S,E,hW,a2⟩:=hrel;have A:=ua E;have HW:=ua hW;let⟨m0,m1,m2,m3⟩:=E.m.b;have a5:=E.m.lt;have ac:Hid (M.bI k (Mr wr o).j (Ms wr (w.heap.size+1)+1)=M.bI k S.j (L.length+1)):=by show _=_;rw[IE E.m,IF E.l]
 clear E C hW;rcases a2 with⟨rfl,xi,rfl⟩|⟨x,rfl,rfl,aq,hL,an⟩
 .let⟨r0,r1,r2,r3⟩:=A.o.a.b;let⟨s0,s1,s2,s3⟩:=A.o.a.r;have lw:=A.o.a.lt;clear ac;go_wp2;exact zL (v:=Hk S) (by simp[results,f97,go_sem,Hk, *]) rfl ⟨⟨S,A.o.ok,HW.o,rfl⟩,kT A.o.b w.heap.size S zD⟩
 have D:=ua hL;have ab:=ua an;clear hL an;go_wp2_with fail;refine(Qe S x A.o.ok oM).mono ?_;rintro e W2 ⟨rfl,aj⟩;have Y:=ua (A.o.on aj);let⟨c0,c1,c2,c3⟩:=Y.o.m.b;have Hh:Hid (∀W,LS w o S L W->∀P:Ending->World->Prop,(∀z p W',IG w k o F z p W'->M.bI k (Mr W' o).j (Ms W' (w.heap.size+1)+AM p)<M.bI k (Mr wr o).j (Ms wr (w.heap.size+1)+1)->P (Rt (.tuple #[z,p])) W')->Cs 153 #[.pointer (Sm (w.heap.size+1) 0)] W P):=λW s P nx=>IJ s hn lV D.o HW.o (zP (by unfold M.bI;omega) ab.o) λz p W' u B=>nx z p W' u (by rw[B,ac.o];unfold M.bI;omega);clear aj m0 m1 m2 m3;cases hx:S.j x with
 |true =>
  have SK:=ua (Hh.o W2 Y.o);go_wp2_with fail;refine SK.o _ λz p W4 u B=>?_;have C:=ua u;have T:=ua B;clear u B;go_wp2;go_roundw
  .exact C.o
  exact T.o
 |false =>
  have HX:=ua hx;go_wp2_with fail;refine(HF.o x aq S A.o.ok W2 Y.o.b).mono ?_;rintro e W3 ⟨⟨r,hr,rfl⟩,ak⟩;have S3:=ua (Y.o.on ak);let⟨e0,e1,e2,e3⟩:=S3.o.m.b;clear ak c0 c1 c2 c3;cases r with
  |false =>
   have SK:=ua (Hh.o W3 S3.o);go_wp2_with fail;refine SK.o _ λz p W4 u B=>?_;have C:=ua u;have T:=ua B;clear u B;go_wp2;go_roundw
   .exact C.o
   exact T.o
  |true =>
   have au:=ua (hr rfl);clear hr;go_wp2_with fail;refine(AT S x _ A.o.ok oM).mono ?_;rintro e Q ⟨⟨t,ht,rfl⟩,al⟩;have ax:=ua ht;have I:=ua (S3.o.on al);let⟨ay,az,a0,a1⟩:=I.o.m.b;let⟨d0,d1,d2,d3⟩:=I.o.m.r;have aw:Hid (LS w o t L (Il Q o t)):=⟨ht▸A.o.ok.n x,I.o.l.on (λb J=>IR Q o t b (by rcases J with J|J;exact J.2;omega)),I.o.a.y (IR Q o t _ oM),I.o.m.set t,kT I.o.b o t oM⟩;clear e0 e1 e2 e3 al ht Hh;go_wp2;rw[show(((Q.setCell (Ad o 0) (Uv t.a)).setCell (Ad o 1) (Uv t.b)).setCell (Ad o 2) (Uv t.c)).setCell (Ad o 3) (Uv t.d)=Il Q o t from rfl];generalize Il Q o t=Z at *;let⟨M0,a7⟩:=nm (M.bI k (Mr wr o).j (Ms wr (w.heap.size+1)+1));clear ay az a0 a1 d0 d1 d2 d3 Y S3 I a5;go_loopw [44] (λO wr=>IH w k o t L O wr) (λO _=>k-(intOf O).toNat)
   .exact⟨0,[],zK,rfl,zD,λy N=>aB N Nk,by rw[Dl];exact aw.o⟩
   obtain⟨j,us,hj,rfl,a4,ap,E⟩:=hrel;have ad:=ua E;have ae:=ua ap;clear E ap;by_cases aa:j<k
   .let⟨x0,x1,x2,x3⟩:=(HU.o.h ad.o.b) j aa;have a6:=ud x0;go_wp2_with fail;refine(Qe (U j) x (av.o j aa) oM).mono ?_;rintro e W6 ⟨rfl,am⟩;have G:=ua (ad.o.on (uf (zO wr) am));clear am x0 x1 x2 x3 a6;cases hu:(U j).j x with
    |true =>
     go_wp2_with fail;refine(D9 (w.heap.size+1) j _ G.o.l (λq=>Nq _ q.1) (by
      have h1:=VA ab.o;have:k*(k+1)<=200*201:=Nat.mul_le_mul hn oM;rw[zJ];omega)).mono ?_
     rintro e W7 ⟨⟨v,rfl⟩,hl,H⟩;have X:Hid (IH w k o t L (Iv ((j:Int)+1)) W7):=by
      have s6:=G.o.b.size;have lm:=G.o.m.lt;refine⟨j+1,us++[j],aa,by go_num,sO,λy N=>(By.1 N).elim (ae.o y) (λq=>by simp at q;omega),⟨G.o.ok,?_,G.o.a.y (H.d _ oM (λq=>by rcases q with q|q;exact aB q.1 oM;omega)),G.o.m.y (H.d _ oM (λq=>by rcases q with q|q;exact q.2 rfl;omega)),G.o.b.trans (II H s6 (λb q=>by rcases q with q|q;have:=q.1;omega;omega))⟩⟩;rw[<-Ce];exact hl.g (λb q=>by rcases q with q|q;exact q;exact⟨oM,oM⟩)
     clear hl H;go_wp2;go_roundw
     .exact X.o
     simp[intOf];omega
    |false =>
     have X:Hid (IH w k o t L (Iv ((j:Int)+1)) W6):=⟨j+1,us,aa,by go_num,oM,ae.o,G.o⟩;go_wp2;go_roundw
     .exact X.o
     simp[intOf];omega
   obtain rfl:j=k:=oM;have af:∀v,v<j->t.j v=(S.j v||v==x):=λv hv=>by rw[ax.o,AV oM oM]
   have ag:Hid (M.bI j t.j (L++us).length<M.bI j S.j (L.length+1)):=by
    show _<_;rw[zJ];exact M.eU aq HX.o af a4
   have TK:=ua (λ(P:Ew)=>IJ (P:=P) ad.o hn lV (λy N=>(By.1 N).elim (D.o y) (ae.o y)) (M.Lw.d HM.o HW.o au.o af) (zP (Nat.le_of_lt ag.o) ab.o));clear af;go_wp2_with fail;refine TK.o _ λz p W4 u B=>?_;have C:=ua u;have T:=ua B;clear u B;go_wp2;go_roundw
   .exact C.o
   show M.bI j (Mr W4 o).j (Ms W4 (w.heap.size+1)+AM p)<M.bI j (Mr _ o).j (Ms _ (w.heap.size+1)+1);rw[T.o];exact ac.o▸ag.o
def usO args w:(callFunc 98 args).run prog w=.ok (.enter 98 args) w:=by simp[callFunc,func98,f98,go_sem]
def WE{g v x}(h:qQ g v)(c:M.Uses g.nr (nd g v).bl (nd g v).e x):x<g.nr+g.nb:=by
 obtain⟨j,a,b,rfl⟩:=c;rcases h with h|h
 .omega
 exact IQ (h.1 j a) b
def WG{g}(e:M.Valid g):M.Mono (g.nr+g.nb) (xj g) :=
 ⟨λm l h v k=>M.dH (R:=λx y:Bool=>x=true->y=true) id (M.dF id λj f x y n o c d=>by
  unfold M.fN;split
  .exact id
  split
  .rename_i i;exact h _ (WE (yr e k) ⟨j,f,i,rfl⟩)
  split
  .simp;exact λa b=>⟨c a,d b⟩
  split
  .simp;exact Or.imp c d
  exact id)⟩
def xu(w:Wl)(b o:Nat)(s:NS):Wl:=(((w.setCell (Ad b o) (Uv s.a)).setCell (Ad b (o+1)) (Uv s.b)).setCell (Ad b (o+2)) (Uv s.c)).setCell (Ad b (o+3)) (Uv s.d)
def WH{w b o n t s}(h:Row w b t n)(k:o+3<n) :
  (xu w b o s).cell? (Ad b o)=some (Uv s.a)/\(xu w b o s).cell? (Ad b (o+1))=some (Uv s.b)/\(xu w b o s).cell? (Ad b (o+2))=some (Uv s.c)/\(xu w b o s).cell? (Ad b (o+3))=some (Uv s.d):=by
 let⟨u0,e⟩:=h.p (i:=o) oM;let⟨u1,f⟩:=(h.set o (Uv s.a)).p (i:=o+1) oM;let⟨u2,g⟩:=((h.set o (Uv s.a)).set (o+1) (Uv s.b)).p (i:=o+2) oM;let⟨u3,j⟩:=(((h.set o (Uv s.a)).set (o+1) (Uv s.b)).set (o+2) (Uv s.c)).p (i:=o+3) oM;unfold xu;refine⟨?_,?_,?_,uC j⟩
 .rw[uu oM,uu oM,uu oM];exact uC e
 .rw[uu oM,uu oM];exact uC f
 rw[uu oM];exact uC g
def vR{w b o j s}(h:j<o\/o+3<j):(xu w b o s).cell? (Ad b j)=w.cell? (Ad b j):=by
 unfold xu;rw[uu oM,uu oM,uu oM,uu oM]
def WI{w b o n t s}(h:Row w b t n):Row (xu w b o s) b t n:=(((h.set _ _).set _ _).set _ _).set _ _
def WJ{B w w'}(h:Below B w w'){b}{o}{s}(a:B<=b):Below B w (xu w' b o s):=by
 unfold xu;exact(((h.setCell (p:=(Ad b o)) a _).setCell (p:=(Ad b (o+1))) a _).setCell (p:=(Ad b (o+2))) a _).setCell (p:=(Ad b (o+3))) a _
def uvy:(prog.info? 91).map (λi=>(i.zero,i.size,i.bytes))=some (some (.agg #[Uv 0,Uv 0,Uv 0,Uv 0]),4,32):=rR
def WK(n:Nat)(g:n<=200)w:(Instr.makeSlice 93 (Iv (n:Int)) (Iv (n:Int))).run prog w=.ok (Sl (Sm w.heap.size 0) n n) (w.alloc (Oc (madeCells #[Uv 0,Uv 0,Uv 0,Uv 0] (n*4)) 91)):=by
 let⟨i,d,b⟩:=Hn.1 uvy;simp only[No]at b;obtain⟨f,e,c⟩:=b;have a:=run_make (P:=prog) w 93 91 i _ underlying93 d f .i64 .i64 n n oM (Ft _) (by rw[c];omega) oM;simp only[Pj,e]at a;exact a
def WM(W1:Wl)(a n:Nat)(i:Vl)(wr:Wl):Prop :=
 ∃(k:Nat) (U:Nat->NS),k<=n/\i=Iv (k:Int)/\Row wr a 91 (n*4)/\(∀j,(U j).OK)/\Fq wr a 0 k U/\Below a W1 wr
structure uw7(g:Gr)(w:Wl)(e:Ending)(w':Wl):Prop where
 k:∃S:NS,S.OK/\M.Lw (g.nr+g.nb) (xj g) S.j/\e=Rt (.agg #[Uv S.a,Uv S.b,Uv S.c,Uv S.d])
 q:Bw w w'
def AY(ra la:Oa)(g:Gr)(rc lc:Nat):Prop:=∀S:NS,S.OK->∀W a b,Do W a b ra la g.nr rc g.nb lc S->IW W g.nr g.nb S (Pt a 0) (Pt b 0)
structure WN(w:Wl)(e:Ending)(w':Wl):Prop where
 k:∃t:NS,t.OK/\e=Rt (Hk t)
 q:Bw w w'
def uyg(W:Wl)(b n:Nat)(i:Vl)(wr:Wl):Prop :=
 ∃(k:Nat) (s:NS),k<=n/\i=Iv (k:Int)/\s.OK/\At wr b s/\Below b W wr
def usP{W1 wr X W2 a b u}(c:Below b W1 wr)(d:Bw wr X)(e:Bw X W2)(f:Bw W2 a)(g:At wr b u)t:Below b W1 (Il a b t) :=
 kT (c.trans ((uf (uf d e) f).mono (Nat.le_of_lt g.lt))) b t zD
def ui1 Q ra la a nr rc d lc n c B w(l:zM Q w a n B)(U:∀i,i<n->M.bB nr d (B i))(hn:n<=1048576)(h1:nr<=100)(h2:d<=100) :
  Cs 96 #[.agg #[Sl ra nr rc,Sl la d lc],Sl a n c] w (WN w):=by
 have HB:=ua l;have HK:=ua U;clear l U;go_enter func96,ntmps96;go_wp2;have H:(((w.alloc (Oc #[Sl ra nr rc,Sl la d lc] 34)).alloc (Ax nz)).alloc (Ax nz)).cell? (Ad w.heap.size 0)=some (Sl ra nr rc):=ue (ue (cN w.heap.size rfl rfl) Bi) Bi;have I:(((w.alloc (Oc #[Sl ra nr rc,Sl la d lc] 34)).alloc (Ax nz)).alloc (Ax nz)).cell? (Ad w.heap.size 1)=some (Sl la d lc):=ue (ue (cN w.heap.size rfl rfl) Bi) Bi;have o:At (((w.alloc (Oc #[Sl ra nr rc,Sl la d lc] 34)).alloc (Ax nz)).alloc (Ax nz)) (w.heap.size+1) nz:=by
  have:=At.a (w.alloc (Oc #[Sl ra nr rc,Sl la d lc] 34)) nz;rw[Ck]at this;exact this.h Bi
 have z:At (((w.alloc (Oc #[Sl ra nr rc,Sl la d lc] 34)).alloc (Ax nz)).alloc (Ax nz)) (w.heap.size+1+1) nz:=by
  have:=At.a ((w.alloc (Oc #[Sl ra nr rc,Sl la d lc] 34)).alloc (Ax nz)) nz;rw[Ck,Ck]at this;exact this
 have S:Bw w (((w.alloc (Oc #[Sl ra nr rc,Sl la d lc] 34)).alloc (Ax nz)).alloc (Ax nz)):=Lk w _ _ _;have f5:(((w.alloc (Oc #[Sl ra nr rc,Sl la d lc] 34)).alloc (Ax nz)).alloc (Ax nz)).heap.size=w.heap.size+3:=sM;rw[show(Obj.cells #[Uv 0,Uv 0,Uv 0,Uv 0] 91)=Ax nz from rfl];generalize (((w.alloc (Oc #[Sl ra nr rc,Sl la d lc] 34)).alloc (Ax nz)).alloc (Ax nz))=W1 at *;have V:=ua S;clear S;go_loopw [10] (λi wr=>uyg W1 (w.heap.size+1+1) n i wr) (λi _=>n-(intOf i).toNat)
 .exact⟨0,nz,zK,rfl,NS.OK.f,z,zH _⟩
 obtain⟨k,s,hk,rfl,N,u,m⟩:=hrel;have D:=V.trans (m.mono oM);have g0:=(m.cell (p:=(Ad w.heap.size 0)) (Nat.lt_trans (Iy _) (Iy _))).trans H;have g1:=(m.cell (p:=(Ad w.heap.size 1)) (Nat.lt_trans (Iy _) (Iy _))).trans I;have C:=o.y (m.block _ oM);have F:=ua u;let⟨u0,u1,u2,u3⟩:=u.b;let⟨v0,v1,v2,v3⟩:=u.r;have hlt':=u.lt;have ac:=ua D;have O:=ua m;by_cases T:k<n
 .have l:=HB.h D;rcases l with h0|⟨b,off,rfl,hq,l⟩
  .omega
  let⟨c0,⟨sa,sc,c1,hs⟩,c2⟩:=l k T;have ah:=ud c0;clear l hs D m u C H I o z;have A:=HK k T;by_cases j:M.bE (B k)
  .have HN:Hid (M.bE (B k)):=j;have E:=IQ A j;have af:=A.2.2.2.2.1;have ag:(B k).f<=1048576:=by have:=A.2.2.2.2.2;unfold M.bF at this;split at this<;>(try split at this)<;>omega
   have HT:Hid (M.tg nr (B k)<256):=(by show _<_;omega);have P:=ua N;clear A E;have ae:((B k).e==2)=true\/((B k).e==2)=false/\((B k).e==3)=true:=by rcases j with q|q<;>simp[q]
   clear j;have g:=uk wr (Oc #[Iv (B k).e,Sl sa (B k).sl sc,Iv (B k).f] 185);have x0:(wr.alloc (Oc #[Iv (B k).e,Sl sa (B k).sl sc,Iv (B k).f] 185)).cell? (Ad wr.heap.size 0)=some (Iv (B k).e):=cN wr.heap.size rfl rfl;have x1:(wr.alloc (Oc #[Iv (B k).e,Sl sa (B k).sl sc,Iv (B k).f] 185)).cell? (Ad wr.heap.size 1)=some (Sl sa (B k).sl sc):=cN wr.heap.size rfl rfl;have x2:(wr.alloc (Oc #[Iv (B k).e,Sl sa (B k).sl sc,Iv (B k).f] 185)).cell? (Ad wr.heap.size 2)=some (Iv (B k).f):=cN wr.heap.size rfl rfl;have aj:=ue g0 g;have ak:=ue g1 g;have al:=ue u0 g;have am:=ue u1 g;have an:=ue u2 g;have ao:=ue u3 g;have Z:=ua (F.h g);replace g:=ua g;rcases ae with o|⟨o,z⟩;all_goals go_wp2
   all_goals generalize wr.alloc (Oc #[Iv (B k).e,Sl sa (B k).sl sc,Iv (B k).f] 185)=X at *
   all_goals go_region_with (first|(go_at_call 101;refine(xG ra la sa nr rc d lc sc (B k) _ af ag oM).mono ?_;rintro e W2 ⟨rfl,J⟩;have G:=Z.h ((zH X).drew.trans J);let⟨ap,aq,au,av⟩:=G.b;have W:Hid (At W2 (w.heap.size+1+1) (s)):=G;clear G;have aa:Hid (Bw X W2):=(zH X).drew.trans J;clear J)|(go_at_call 103;refine(AT s (M.tg nr (B k)) _ P HT).mono ?_;rintro e R ⟨⟨t,E,rfl⟩,L⟩;have ad:Hid (t=s.n (M.tg nr (B k))):=E;clear E;have x:=W.h L;let⟨aw,ax,ay,az⟩:=x.b;let⟨a0,a1,a2,a3⟩:=x.r;have Y:Hid (At R (w.heap.size+1+1) (s)):=x;have ai:=x.lt;clear x;have ab:Hid (Bw W2 R):=L;clear L))
   all_goals go_wp2
   all_goals go_roundw
   all_goals first
    |exact⟨k+1,t,oM,by go_num,ad.o▸P.n _,Y.set t,usP O g aa ab F t⟩
    |(simp[intOf];omega)
  have o:((B k).e==2)=false:=by simp;exact λq=>j (.inl q)
  have z:((B k).e==3)=false:=by simp;exact λq=>j (.inr q)
  have HN:=ua j;clear j A;go_wp2;go_roundw
  .exact⟨k+1,s,oM,by go_num,N,F.h (zO wr),O.trans ((zO wr).mono oM)⟩
  simp[intOf];omega
 obtain rfl:k=n:=oM;let⟨y0,y1,y2,y3⟩:=C.b;let⟨z0,z1,z2,z3⟩:=C.r;clear D m u C H I o z;go_wp2;refine zL (v:=Hk (s)) (by simp[results,f96,go_sem,Hk, *]) rfl ?_;exact⟨⟨_,N,rfl⟩,kT ac (w.heap.size+1) (s) oM⟩
def ufw Q ra la a g rc lc c k w(f:zM Q w a (nd g k).bl (nd g k).e)(l:qQ g k)(j:(nd g k).bl<=1048576)(b:g.nr<=100)(d:g.nb<=100) :
  Cs 96 #[.agg #[Sl ra g.nr rc,Sl la g.nb lc],Sl a (nd g k).bl c] w (WN w) :=
 ui1 Q ra la a g.nr rc g.nb lc (nd g k).bl c (nd g k).e w f (λi h=>by
  rcases l with q|q
  .omega
  exact q.1 i h) j b d
def ucq Q ra la rc lc g b n cap w(A:M.Valid g)(hs:∀p,p<g.nr+g.nb->(nd g p).bl<=1048576)(hn:g.nr+g.nb=n)(F:Ej Q w b g n)(af:AY ra la g rc lc) :
  Cs 39 #[.agg #[Sl ra g.nr rc,Sl la g.nb lc],Sl (Sm b 0) n cap] w (uw7 g w):=by
 have h1:=A.r2;have h2:=A.l2;have h0:=A.r1;have E:Hid (M.Valid g):=A;have O:Hid (∀p,p<g.nr+g.nb->(nd g p).bl<=1048576):=hs;have z:Hid (g.nr+g.nb=n):=hn;have L:=ua F;have aj:Hid (AY ra la g rc lc):=af;have H:n<=200:=oM;have ab:0<n:=oM;have ao:b<w.heap.size:=by let⟨a,c,G,_⟩:=F 0 ab;exact ud G
 clear A hs hn F af;have al:=WK n H;go_enter func39,ntmps39;go_wp2;have f0:((((w.alloc (Oc #[Sl ra g.nr rc,Sl la g.nb lc] 34)).alloc (Oc #[Sl (Sm b 0) n cap] 87)).alloc (Ax nz)).alloc (Oc (madeCells #[Uv 0,Uv 0,Uv 0,Uv 0] (n*4)) 91)).cell? (Ad w.heap.size 0)=some (Sl ra g.nr rc):=ue (ue (ue (cN w.heap.size rfl rfl) Bi) Bi) Bi;have f1:((((w.alloc (Oc #[Sl ra g.nr rc,Sl la g.nb lc] 34)).alloc (Oc #[Sl (Sm b 0) n cap] 87)).alloc (Ax nz)).alloc (Oc (madeCells #[Uv 0,Uv 0,Uv 0,Uv 0] (n*4)) 91)).cell? (Ad w.heap.size 1)=some (Sl la g.nb lc):=ue (ue (ue (cN w.heap.size rfl rfl) Bi) Bi) Bi;have f2:((((w.alloc (Oc #[Sl ra g.nr rc,Sl la g.nb lc] 34)).alloc (Oc #[Sl (Sm b 0) n cap] 87)).alloc (Ax nz)).alloc (Oc (madeCells #[Uv 0,Uv 0,Uv 0,Uv 0] (n*4)) 91)).cell? (Ad (w.heap.size+1) 0)=some (Sl (Sm b 0) n cap):=ue (ue (cN (w.heap.size+1) sM rfl) Bi) Bi;have T:At ((((w.alloc (Oc #[Sl ra g.nr rc,Sl la g.nb lc] 34)).alloc (Oc #[Sl (Sm b 0) n cap] 87)).alloc (Ax nz)).alloc (Oc (madeCells #[Uv 0,Uv 0,Uv 0,Uv 0] (n*4)) 91)) (w.heap.size+1+1) nz:=by
  have:=At.a ((w.alloc (Oc #[Sl ra g.nr rc,Sl la g.nb lc] 34)).alloc (Oc #[Sl (Sm b 0) n cap] 87)) nz;rw[Ck,Ck]at this;exact this.h Bi
 have V:Row ((((w.alloc (Oc #[Sl ra g.nr rc,Sl la g.nb lc] 34)).alloc (Oc #[Sl (Sm b 0) n cap] 87)).alloc (Ax nz)).alloc (Oc (madeCells #[Uv 0,Uv 0,Uv 0,Uv 0] (n*4)) 91)) (w.heap.size+1+1+1) 91 (n*4):=by
  have:=MS (((w.alloc (Oc #[Sl ra g.nr rc,Sl la g.nb lc] 34)).alloc (Oc #[Sl (Sm b 0) n cap] 87)).alloc (Ax nz)) #[Uv 0,Uv 0,Uv 0,Uv 0] (n*4) 91 sM;rw[Ck,Ck,Ck]at this;exact this
 have X:Bw w ((((w.alloc (Oc #[Sl ra g.nr rc,Sl la g.nb lc] 34)).alloc (Oc #[Sl (Sm b 0) n cap] 87)).alloc (Ax nz)).alloc (Oc (madeCells #[Uv 0,Uv 0,Uv 0,Uv 0] (n*4)) 91)):=(Lk w _ _ _).alloc sO _;rw[show(Obj.cells #[Uv 0,Uv 0,Uv 0,Uv 0] 91)=Ax nz from rfl];generalize (((w.alloc (Oc #[Sl ra g.nr rc,Sl la g.nb lc] 34)).alloc (Oc #[Sl (Sm b 0) n cap] 87)).alloc (Ax nz)).alloc (Oc (madeCells #[Uv 0,Uv 0,Uv 0,Uv 0] (n*4)) 91)=W1 at *;have H5:=ua X;have H4:=ua V;have H3:=ua T;clear X V T al;go_loopw [13] (λi wr=>WM W1 (w.heap.size+1+1+1) n i wr) (λi _=>n-(intOf i).toNat)
 .exact⟨0,λ_=>nz,zK,rfl,H4,λ_=>NS.OK.f,λj hj=>aB hj (Ge _),zH _⟩
 obtain⟨k,U,hk,rfl,ac,ae,ad,q⟩:=hrel;have aa:=H5.trans (q.mono oM);have g0:wr.cell? (Ad w.heap.size 0)=some (Sl ra g.nr rc):=(q.cell (p:=(Ad w.heap.size 0)) (show w.heap.size<w.heap.size+1+1+1 by omega)).trans f0;have g1:wr.cell? (Ad w.heap.size 1)=some (Sl la g.nb lc):=(q.cell (p:=(Ad w.heap.size 1)) (show w.heap.size<w.heap.size+1+1+1 by omega)).trans f1;have g2:wr.cell? (Ad (w.heap.size+1) 0)=some (Sl (Sm b 0) n cap):=(q.cell (p:=(Ad (w.heap.size+1) 0)) (show w.heap.size+1<w.heap.size+1+1+1 by omega)).trans f2;have Y:=H3.y (q.block _ oM);have N:=ua ac;have P:=ua ad;have R:=ua ae;have ah:Hid (Below (w.heap.size+1+1+1) W1 wr):=q;have D:=ua aa;have H3':=ua Y;clear ac ad ae q aa Y;by_cases ak:k<n
 .let⟨a,c,G,hO⟩:=(L.h D) k ak;have an:=ud G;have HO:=ua hO;have am:w.heap.size+1+1+1<wr.heap.size:=by let⟨u,hu⟩:=N.p (i:=0) oM;exact ud hu
  clear hO;go_wp2_with (go_at_call 96;refine(ufw Q ra la a g rc lc c k _ HO.o (yr E.o (oH z.o)) (O.o k (oH z.o)) h1 h2).mono ?_;rintro e W ⟨⟨t,ht,rfl⟩,m⟩;have HT:=ua ht;unfold Hk;have J:Hid (Bw wr W):=m;have l:Hid (Row W (w.heap.size+1+1+1) 91 (n*4)):=N.o.a (m.block _ am);let⟨u0,r0⟩:=l.o.p (i:=k*4) oM;let⟨u1,r1⟩:=l.o.p (i:=k*4+1) oM;let⟨u2,r2⟩:=l.o.p (i:=k*4+2) oM;let⟨u3,r3⟩:=l.o.p (i:=k*4+3) oM;have z0:=l.o.n (k*4);have z1:=l.o.n (k*4+1);have z2:=l.n (k*4+2);have z3:=l.n (k*4+3);clear m ht);go_roundw
  .show WM W1 (w.heap.size+1+1+1) n _ (xu W (w.heap.size+1+1+1) (k*4) t);refine⟨k+1,λi=>if i=k then t else U i,oM,by go_num,WI l,λj=>?_,λj hj=>?_,WJ (ah.trans (J.mono oM)) zD⟩
   .show(if j=k then t else U j).OK;split
    .exact HT
    exact R j
   by_cases e:j=k
   .subst e;have:=WH (s:=t) l (o:=j*4) oM;simpa using this
   simp only[Zn e];let⟨q0,q1,q2,q3⟩:=(P.h J) j oM;exact⟨(vR oM).trans q0,(vR oM).trans q1,(vR oM).trans q2,(vR oM).trans q3⟩
  simp[intOf];omega
 obtain rfl:k=n:=oM;have ag:Hid (Ej Q wr b g k):=L.h D;let⟨y0,y1,y2,y3⟩:=H3'.b;let⟨z0,z1,z2,z3⟩:=H3'.r;go_wp2_with fail;refine(VB (f:=98) (ps:=#[.pointer (Sm w.heap.size 0),.pointer (Sm (w.heap.size+1) 0)]) (w.heap.size+1+1+1) 0 k k U (xj g) _ usO P (λi _=>R i) ab H (z.o▸WG E)
  (λx hx S B W C=>(uqm Q ra la rc lc g w.heap.size (w.heap.size+1) b k cap x S W (ue g0 C) (ue g1 C) (ue g2 C) (ag.o.h C) hx H (yr E.o (oH z.o)) (O.o x (oH z.o)) (aj.o S B)).mono λe W h=>⟨⟨_,id,h.1⟩,h.2⟩)).mono ?_
 rintro e W ⟨⟨S,B,Z,rfl⟩,m⟩;have BW:=ua (uf D m);have I:=ua (H3'.h m);let⟨ap,aq,au,av⟩:=I.b;let⟨aw,ax,ay,az⟩:=I.r;have HL:Hid (M.Lw (g.nr+g.nb) (xj g) S.j):=z.o▸Z;have ai:=B;clear m Z B;unfold Hk;go_wp2;refine zL (v:=.agg #[Uv S.a,Uv S.b,Uv S.c,Uv S.d]) (by simp[results,f39,go_sem, *]) rfl ?_;exact⟨⟨S,ai,HL,rfl⟩,kT BW (w.heap.size+1+1) S oM⟩
section
open M (OpD ug Gr)
variable {α:Type} [Inhabited α] (f:OpD->α->α->α) (B:Nat->OpD)
def KT(q lo:Nat)(x:α)(d:M.Fed B (q+1))(l:M.ar (B q).e=2)(e:M.stk f B (q+1)=(lo,x)::M.stk f B lo) :
  ∃s y z,lo<s/\s<q/\M.stk f B q=(s,y)::M.stk f B s/\M.stk f B s=(lo,z)::M.stk f B lo/\x=f (B q) z y/\M.dep B s+1=M.dep B q/\∀j,s<j->j<=q->M.dep B q<=M.dep B j:=by
 have c:M.Fed B q:=d.h oM;have a:=M.bO f B q c;have o:=d q oM;rw[M.stk]at e;match hs:M.stk f B q with
 |[]=>rw[hs]at a;simp at a;omega
 |[(s,y)]=>rw[hs]at a;simp at a;omega
 |(s,y)::(s1,z)::r =>
  rw[hs]at e a;simp only[M.stp,l,if_true,List.cons.injEq,No]at e;obtain⟨⟨rfl,rfl⟩,n⟩:=e;let⟨g,b,i⟩:=M.cC f B q c s y _ hs;let⟨b1,k,m⟩:=M.cC f B s (c.h oM) s1 z r b.symm;have l2:=M.bO f B s (c.h oM);rw[<-b]at l2;simp at a l2;exact⟨s,y,z,b1,g,by rw[<-b],by rw[<-b,k],rfl,oM,i⟩
def CE(q lo:Nat)(x:α)(b:M.Fed B (q+1))(i:M.ar (B q).e=1)(e:M.stk f B (q+1)=(lo,x)::M.stk f B lo) :
  ∃z,lo<q/\M.stk f B q=(lo,z)::M.stk f B lo/\x=f (B q) z default:=by
 have c:M.Fed B q:=b.h oM;have a:=M.bO f B q c;have l:=b q oM;rw[M.stk]at e;match hs:M.stk f B q with
 |[]=>rw[hs]at a;simp at a;omega
 |(s,z)::r =>
  rw[hs]at e a;simp[M.stp,i]at e;obtain⟨⟨rfl,rfl⟩,g⟩:=e;let⟨d,j,k⟩:=M.cC f B q c s z _ hs;exact⟨z,d,by rw[<-g],rfl⟩
end
section
open M (OpD ug Gr uw EX ins uT uag wt)
def qp{nr a o}(h:M.bB nr a o):∃j:Nat,o.f=j:=⟨o.f.toNat,by have:=h.2.2.2.2.1;omega⟩
inductive TR where
 |lf (o:OpD)
 |un (o:OpD) (x:TR)
 |bn (o:OpD) (x y:TR)
def TR.n:TR->Nat
 |.lf _=>1
 |.un _ x=>x.n+1
 |.bn _ x y=>x.n+y.n+1
def TR.n0:∀T:TR,0<T.n
 |.lf _=>by simp[TR.n]
 |.un _ x=>by simp[TR.n]
 |.bn _ x y=>by simp[TR.n]
def TR.Ok(E:OpD->Prop):TR->Prop
 |.lf o=>M.ar o.e=0/\E o
 |.un o x=>M.ar o.e=1/\E o/\x.Ok E
 |.bn o x y=>M.ar o.e=2/\E o/\x.Ok E/\y.Ok E
def TR.a{α:Type}[Inhabited α](f:OpD->α->α->α):TR->α
 |.lf o=>f o default default
 |.un o x=>f o (x.a f) default
 |.bn o x y=>f o (x.a f) (y.a f)
def TB(B:Nat->OpD):TR->Nat->Prop
 |.lf o,i=>B i=o
 |.un o x,i=>TB B x i/\B (i+x.n)=o
 |.bn o x y,i=>TB B x i/\TB B y (i+x.n)/\B (i+x.n+y.n)=o
def TR.c:TR->Nat->OpD
 |.lf o,_=>o
 |.un o x,i=>if i<x.n then x.c i else o
 |.bn o x y,i=>if i<x.n then x.c i else if i<x.n+y.n then y.c (i-x.n) else o
def Xx:∀(T:TR) (B:Nat->OpD) (i:Nat),(∀j,j<T.n->B (i+j)=T.c j)->TB B T i
 |.lf o,B,i,h=>h 0 (by simp[TR.n])
 |.un o x,B,i,h=>⟨Xx x B i (λj a=>(h j (by simp[TR.n];omega)).trans (Zp a)),(h x.n (by simp[TR.n])).trans (Zn oM)⟩
 |.bn o x y,B,i,h=>⟨Xx x B i (λj a=>(h j (by simp[TR.n];omega)).trans (Zp a)),Xx y B _ (λj a=>by
   rw[Gy,h (x.n+j) (by simp[TR.n];omega),TR.c,Zn oM,Zp oM,Nat.add_sub_cancel_left]),by
   rw[Gy,h (x.n+y.n) (by simp[TR.n]),TR.c,Zn oM,Zn oM]⟩
variable {B:Nat->OpD} {E:OpD->Prop}
def Xy{α:Type}[Inhabited α](f:OpD->α->α->α):∀(T:TR) (i:Nat),T.Ok E->TB B T i->M.stk f B (i+T.n)=(i,T.a f)::M.stk f B i
 |.lf o,i,hk,h=>by subst h;simp[TR.n,M.stk,M.stp,TR.a,hk.1]
 |.un o x,i,hk,⟨h1,h2⟩=>by
  show M.stp f (B (i+x.n)) _ (M.stk f B (i+x.n))=_;rw[Xy f x i hk.2.2 h1,h2];simp[M.stp,TR.a,hk.1]
 |.bn o x y,i,hk,⟨h1,h2,h3⟩=>by
  show M.stk f B (i+(x.n+y.n)+1)=_;rw[M.stk,<-Gy,h3,Xy f y _ hk.2.2.2 h2,Xy f x i hk.2.2.1 h1];simp[M.stp,TR.a,hk.1]
def Vc:∀(T:TR) (i:Nat),T.Ok E->TB B T i->M.dep B (i+T.n)=M.dep B i+1/\∀j,i<j->j<=i+T.n->M.dep B i+1<=M.dep B j
 |.lf o,i,hk,h=>by
  have e:M.dep B (i+1)=M.dep B i+1:=by rw[M.dep,h,hk.1];omega
  refine⟨e,λj g f=>?_⟩;obtain rfl:j=i+1:=by simp[TR.n]at f;omega
  omega
 |.un o x,i,hk,⟨g,f⟩=>by
  let⟨a,b⟩:=Vc x i hk.2.2 g;have e:M.dep B (i+x.n+1)=M.dep B i+1:=by rw[M.dep,f,hk.1,a];omega
  refine⟨e,λj g f=>?_⟩;by_cases q:j<=i+x.n
  .exact b j g q
  obtain rfl:j=i+x.n+1:=by simp[TR.n]at f;omega
  omega
 |.bn o x y,i,hk,⟨g,f,h3⟩=>by
  let⟨a,b⟩:=Vc x i hk.2.2.1 g;let⟨c,d⟩:=Vc y _ hk.2.2.2 f;have e:M.dep B (i+x.n+y.n+1)=M.dep B i+1:=by rw[M.dep,h3,hk.1,c,a];omega
  refine⟨by rw[<-e];simp only[TR.n,Gy],λj g f=>?_⟩;by_cases q:j<=i+x.n
  .exact b j g q
  by_cases k:j<=i+x.n+y.n
  .have:=d j oM k;omega
  obtain rfl:j=i+x.n+y.n+1:=by simp[TR.n]at f;omega
  omega
def C4(d:Nat):∀lo,M.Fed B d->(∀i,i<d->E (B i))->M.stk (λ_ _ _=>()) B d=(lo,())::M.stk (λ_ _ _=>()) B lo->∃T:TR,lo+T.n=d/\T.Ok E/\TB B T lo:=by
 induction d using Nat.strongRecOn with
 |_ d m =>
  intro lo j g f;let⟨w,_,_⟩:=M.cC _ B d j lo () _ f;obtain⟨q,rfl⟩:∃q,d=q+1:=⟨d-1,oM⟩;have l:M.Fed B q:=j.h oM;have k:∀i,i<q->E (B i):=λi h=>g i oM;rcases M.cH (B q).e with h|h|h
  .rw[M.stk]at f;simp[M.stp,h]at f;exact⟨.lf (B q),by simp[TR.n];omega,⟨h,g q oM⟩,by show B lo=_;rw[f.1]⟩
  .let⟨z,t,p,_⟩:=CE _ B q lo () j h f;let⟨x,a,b,c⟩:=m q oM lo l k p;exact⟨.un (B q) x,by simp[TR.n];omega,⟨h,g q oM,b⟩,c,by rw[a]⟩
  let⟨s,y,z,t,p,u,v,_,_,_⟩:=KT _ B q lo () j h f;let⟨y,a,b,c⟩:=m q oM s l k u;let⟨x,o,r,c'⟩:=m s oM lo (l.h oM) (λi h=>k i oM) v;exact⟨.bn (B q) x y,by simp[TR.n];omega,⟨h,g q oM,r,b⟩,c',by rw[o];exact c,by rw[o,a]⟩
def qT{nr e n:Nat}(h:M.bC nr e n B):∃T:TR,T.n=n/\T.Ok (M.bB nr e)/\TB B T 0/\∀{α:Type} [Inhabited α] (f:OpD->α->α->α),M.top (M.stk f B n)=T.a f:=by
 let⟨T,b,c,d⟩:=C4 n 0 h.2.1 h.1 (BW (λ_ _ _=>()) B n h.2);rw[Bp]at b;exact⟨T,b,c,d,λf=>by have:=Xy f T 0 c d;rw[Bp]at this;rw[<-b,this];rfl⟩
def TA(Q:Np)(w:Wl)(b:Nat):TR->Nat->Prop
 |.lf o,off=>Em Q w b off o
 |.un o x,off=>TA Q w b x off/\Em Q w b (off+x.n*3) o
 |.bn o x y,off=>TA Q w b x off/\TA Q w b y (off+x.n*3)/\Em Q w b (off+(x.n+y.n)*3) o
variable {Q:Np} {w W:Wl} {A:Nat}
def TA.h:∀{T:TR} {off:Nat},TA Q w A T off->Bw w W->TA Q W A T off
 |.lf o,off,h,k=>Em.h h k
 |.un o x,off,h,k=>⟨h.1.h k,h.2.h k⟩
 |.bn o x y,off,h,k=>⟨h.1.h k,h.2.1.h k,h.2.2.h k⟩
def Ly:∀{T:TR} {off i:Nat},TB B T i->(∀j,j<T.n->Em Q w A (off+(i+j)*3) (B (i+j)))->TA Q w A T (off+i*3)
 |.lf o,off,i,h,k=>by have:=k 0 (by simp[TR.n]);rw[Dy,h]at this;exact this
 |.un o x,off,i,h,k=>⟨Ly h.1 (λj a=>k j (by simp[TR.n];omega)),by
   have:=k x.n (by simp[TR.n]);rw[h.2]at this;rw[show off+i*3+x.n*3=off+(i+x.n)*3 by omega];exact this⟩
 |.bn o x y,off,i,h,k=>⟨Ly h.1 (λj a=>k j (by simp[TR.n];omega)),by
   have:=Ly (off:=off) h.2.1 (λj a=>by have:=k (x.n+j) (by simp[TR.n];omega);rw[<-Gy]at this;exact this);rw[show off+i*3+x.n*3=off+(i+x.n)*3 by omega];exact this,by
   have:=k (x.n+y.n) (by simp[TR.n]);rw[<-Gy,h.2.2]at this;rw[show off+i*3+(x.n+y.n)*3=off+(i+x.n+y.n)*3 by omega];exact this⟩
def jL:∀{T:TR} {off:Nat},TA Q w A T off->∀j,j<T.n->Em Q w A (off+j*3) (T.c j)
 |.lf o,off,h,j,hj=>by
   obtain rfl:j=0:=(by simp[TR.n]at hj;exact hj);exact h
 |.un o x,off,h,j,hj=>by
  rw[TR.c];split
  .exact jL h.1 j aS
  obtain rfl:j=x.n:=by simp[TR.n]at hj;omega
  exact h.2
 |.bn o x y,off,h,j,hj=>by
  rw[TR.c];split
  .exact jL h.1 j aS
  split
  .have:=jL h.2.1 (j-x.n) oM;rw[show off+x.n*3+(j-x.n)*3=off+j*3 by omega]at this;exact this
  obtain rfl:j=x.n+y.n:=by simp[TR.n]at hj;omega
  exact h.2.2
def TR.b{E}:∀{T:TR},T.Ok E->∀j,E (T.c j)
 |.lf o,h,j=>h.2
 |.un o x,h,j=>by rw[TR.c];split;exact TR.b h.2.2 j;exact h.2.1
 |.bn o x y,h,j=>by
  rw[TR.c];split;exact TR.b h.2.2.1 j;split;exact TR.b h.2.2.2 _;exact h.2.1
def yM{o:OpD}{x y:TR}{off c m:Nat}(h:TA Q w A (.bn o x y) off)(i:(TR.bn o x y).Ok E)(l:x.n+y.n=m)(r:m<2000) :
  Cs 118 #[Sl (Sm A off) (m+1) c,Iv (m:Int)] w λk w'=>k=Rt (Iv (x.n:Int))/\w=w':=by
 subst l;let⟨f,g,p⟩:=Xx (.bn o x y) (TR.bn o x y).c 0 (λj q=>by rw[Bp]);let⟨a,_⟩:=Vc x 0 i.2.2.1 f;let⟨d,e⟩:=Vc y _ i.2.2.2 g;rw[Bp]at a d e;have s:=y.n0;exact KK A off (x.n+y.n+1) c (TR.bn o x y).c w Q (jL h) oM (x.n+y.n) x.n oM oM d.symm (λj f g=>oH (e j f g))
end
namespace M
inductive TX where
 |empty
 |set (n:Nat) (S:Nat->Int)
 |ref (s:ByteArray)
 |thr (s:ByteArray)
 |seq (x y:TX)
 |alt (x y:TX)
 |star (x:TX)
 |not (x:TX)
instance:Inhabited TX:=⟨.empty⟩
def b1(x:UInt8):ByteArray:=⟨#[x]⟩
def ufB(v:Int):UInt8:=if v<10 then UInt8.ofNat (48+v.toNat) else UInt8.ofNat (87+v.toNat)
def vH(b:Int):ByteArray :=
 if b=10 then ⟨#[92,110]⟩ else if b=9 then ⟨#[92,116]⟩ else if b=13 then ⟨#[92,114]⟩
 else if b=92\/b=34\/b=91\/b=93\/b=45\/b=94 then ⟨#[92,UInt8.ofNat b.toNat]⟩
 else if 32<=b/\b<=126 then ⟨#[UInt8.ofNat b.toNat]⟩
 else ⟨#[92,120,ufB (b / 16),ufB (b%16)]⟩
def udo(lo a:Int):ByteArray:=vH lo++(if lo+1<a then b1 45 else ByteArray.empty)++(if lo<a then vH a else ByteArray.empty)
def ucz(S:Nat->Int):Nat->ByteArray
 |0=>ByteArray.empty
 |k+1=>ucz S k++udo (S (2*k)) (S (2*k+1))
def setT(n:Nat)(S:Nat->Int):ByteArray :=
 if n=2/\S 0=0/\S 1=255 then b1 46 else if n=2/\S 0=S 1 then b1 34++vH (S 0)++b1 34
 else b1 91++ucz S (n / 2)++b1 93
def grp(c:Bool)(s:ByteArray):ByteArray:=if c then b1 40++s++b1 41 else s
def b1_size x:(b1 x).size=1:=rfl
def fL:ByteArray.empty.size=0:=rfl
def cE b:(vH b).size<=4:=by
 unfold vH;split
 .simp[ByteArray.size]
 split
 .simp[ByteArray.size]
 split
 .simp[ByteArray.size]
 split
 .simp[ByteArray.size]
 split<;>simp[ByteArray.size]
def fM lo a:(udo lo a).size<=9:=by
 unfold udo;have d:=cE lo;have e:=cE a;rw[Dq,Dq];have b:=b1_size 45;have c:=fL;split<;>split<;>omega
def eE S k:(ucz S k).size<=9*k:=by
 induction k with
 |zero=>simp[ucz]
 |succ k a =>
  have:=fM (S (2*k)) (S (2*k+1));rw[ucz,Dq];omega
def cA{n S}(h:bH n S):n<=256:=by
 obtain⟨l,f⟩:=h;obtain⟨k,rfl⟩:∃k,n=2*k:=⟨n / 2,oM⟩;have d:=(dP S k).2 f;have i:∀j,j<k->2*(j:Int)<=S (2*j):=by
  intro j;induction j with
  |zero=>intro e;have:=(d 0 e).1;simp[bN]at this;simpa using this
  |succ j g =>
   intro e;have a:=g oM;have b:=(d j oM).2.1;have c:=(d (j+1) e).1;unfold bN at c;rw[Zn oM,show 2*(j+1)-1=2*j+1 by omega]at c
   push_cast
   omega
 by_cases m:k=0
 .omega
 have a:=i (k-1) oM;have b:=d (k-1) oM;have:=b.2.1;have:=b.2.2;omega
def cP{n S}(h:bH n S):(setT n S).size<=1200:=by
 have c:=cA h;have b:=eE S (n / 2);have a:=cE (S 0);unfold setT;split
 .rw[b1_size];omega
 split
 .rw[Dq,Dq,b1_size];omega
 rw[Dq,Dq,b1_size,b1_size];omega
def bP c s:(grp c s).size<=s.size+2:=by
 unfold grp;split
 .rw[Dq,Dq,b1_size,b1_size];omega
 omega
end M
open M (TX)
def bv(s:ByteArray):List Value:=s.data.toList.map (λb=>Bv (b.toNat:Int))
def bT(s:ByteArray)(j:Nat):Int:=((s.data.toList.getD j 0).toNat:Int)
def Yf w s:∃a c W,(convert 9 22 (.string s)).run prog w=.ok (Sl a s.size c) W/\Ints (λb=>b=w.heap.size) .u8 W a s.size (bT s)/\Bw w W/\s.size<=c:=by
 have f:=Vj (P:=prog) w 9 22 5 s underlying9 underlying22 underlying5;refine⟨_,_,_,f,.inr ⟨w.heap.size,0,rfl,rfl,λi d=>?_⟩,?_,grownCap_ge w s.size 0 5⟩
 .rw[Bp];exact Lib.bytesWorld_cell w 5 s i d
 refine⟨?_,?_,?_,by rw[Vk];omega,λk e=>Vm w 5 s k e⟩;all_goals rfl
section
open M (OpD ug Gr uw EX ins uT uag wt)
section
variable {α:Type} [Inhabited α] (f:OpD->α->α->α) (B:Nat->OpD)
end
def KD args w:(callFunc 127 args).run prog w=.ok (.enter 127 args) w:=by
 simp[callFunc,func127,f127,go_sem]
def uxz args w:(callFunc 126 args).run prog w=.ok (.enter 126 args) w:=by
 simp[callFunc,func126,f126,go_sem]
def uxA args w:(callFunc 128 args).run prog w=.ok (.enter 128 args) w:=by
 simp[callFunc,func128,f128,go_sem]
def umi args w:(callFunc 66 args).run prog w=.ok (.enter 66 args) w:=by
 simp[callFunc,func66,f66,go_sem]
def ZV ra la sa nr rc b lc sc o w(j:M.bE o){k a}(i:o.e=k)(h:o.f=a)(c:0<=o.f)(d:o.f<=1048576)(g:nr<=1048576) :
  Cs 127 #[.agg #[Sl ra nr rc,Sl la b lc],.agg #[Iv k,Sl sa o.sl sc,Iv a]] w λe w'=>e=Rt (Iv (M.tg nr o:Nat))/\Bw w w':=by
 subst i h;exact kD ra la sa nr rc b lc sc o w j c d g
end
structure Rd(t:Tp)(R:Nat)(w:Wl)(a:Oa)(cap i:Nat):Prop where
 c0:w.cell? (Ad R 0)=some (Sl a t.m cap)
 c1:w.cell? (Ad R 1)=some (Iv (i:Int))
 f1:w.frozen? (Ad R 1)=false
 le:i<=t.m
 cp:t.m<=cap
 s:Ints (λb=>b<R) .u8 w a t.m (λk=>(t.T k:Int))
def Ch(t:Tp)(R:Nat)(w:Wl)(i:Nat):Prop:=∃a cap,Rd t R w a cap i
def Ch.lt{t R w i}(h:Ch t R w i):R<w.heap.size:=by
 obtain⟨a,c,h⟩:=h;exact ud h.c0
def Ch.le{t R w i}(h:Ch t R w i):i<=t.m:=by
 obtain⟨a,c,h⟩:=h;exact h.le
def Ch.y{t R w w' i C}(h:Ch t R w i)(k:zA C w w')(f:∀b,C b->R<b):Ch t R w' i:=by
 have g:=h.lt;obtain⟨a,c,h⟩:=h;have e:∀b,b<=R->w'.heap[b]?=w.heap[b]?:=λb e=>k.d b oM (λq=>oH (f b q));exact⟨a,c,(Bd (a:=(Ad R 0)) (e R zD)).trans h.c0,(Bd (a:=(Ad R 1)) (e R zD)).trans h.c1,(Dp (a:=(Ad R 1)) (e R zD)).trans h.f1,h.le,h.cp,h.s.on (λb q=>e b oM)⟩
def Rd.set{t R w a cap i j}(h:Rd t R w a cap i)(c:j<=t.m):Rd t R (w.setCell (Ad R 1) (Iv (j:Int))) a cap j:=by
 have d:((Ad R 1):Addr)≠(Ad R 0):=sM;refine⟨(La d).trans h.c0,Jm (by rw[h.c1];rfl),by rw[Et];exact h.f1,c,h.cp,h.s.on (λb e=>Bn (by show b≠R;omega))⟩
def zE(t:Tp)(R i:Nat)(w w':Wl):Prop:=Ch t R w' i/\zA (λk=>k=R) w w'
def uE t R i w(h:Ch t R w i) :
  Cs 15 #[.pointer (Sm R 0)] w λe w'=>e=Rt (Iv (t.v i:Int))/\zE t R (t.n i) w w':=by
 obtain⟨a,cap,h⟩:=h;have z:=h.c0;have A:=h.c1;have D:=h.f1;have F:=h.le;have G:=t.le;have H:=ua h;by_cases f:i<t.m
 .have l:t.v i=t.T i:=Zp f;have g:t.n i=i+1:=Zp f;rw[l,g];obtain⟨b,off,rfl,E,o⟩:∃b off,a=some (Ad b off)/\b<R/\∀k,k<t.m->w.cell? ⟨b,off+k,none⟩=some (Bv (t.T k:Int)):=by
   rcases H.s with e|e
   .omega
   exact e
  have C:=o i f;have J:=t.e i;have r:decide ((t.m:Int)<=i)=false:=sO;have hlt':(i:Int)<t.m:=oM;have p:Hid (∀q,zE t R (i+1) w ((w.drewN q).setCell (Ad R 1) (Iv ((i:Int)+1)))):=λq=>by
   have d:Kf w (w.drewN q):=zA.j (Be (Qt w.heap.size w) q) (λk d _=>d);let⟨x,B,u⟩:=Ch.y ⟨_,_,H.o⟩ d (λb q=>q.elim);have:=u.set (j:=i+1) oM;rw[Te]at this;exact⟨⟨_,_,this⟩,(d.h (λ_ q=>q.elim)).c (Dh rfl)⟩
  clear o;generalize t.T i=I at *;go_enter func15,ntmps15;go_wp2;go_quiet (fail);go_wp2;go_quiet (fail);go_wp2;go_ret;exact⟨rfl,p _⟩
 have l:t.v i=0:=Zn f;have g:t.n i=i:=Zn f;rw[l,g];have r:decide ((t.m:Int)<=i)=true:=sO;have hlt':(t.m:Int)<=i:=oM;go_enter func15,ntmps15;go_wp2;go_quiet (fail);go_wp2;go_ret;have d:∀q,Kf w (w.drewN q):=λq=>zA.j (Be (Qt w.heap.size w) q) (λk d _=>d);exact⟨rfl,Ch.y ⟨_,_,H⟩ (d _) (λb q=>q.elim),(d _).h (λ_ q=>q.elim)⟩
def PJ t R i w(h:Ch t R w i) :
  Cs 58 #[.pointer (Sm R 0)] w λe w'=>e=Rt (Iv ((t.m:Int)-i))/\zE t R i w w':=by
 obtain⟨a,cap,h⟩:=h;have d:=h.c0;have f:=h.c1;have g:=h.le;have l:=t.le;have H:=ua h;go_enter func58,ntmps58;go_wp2;go_quiet (fail);go_wp2;go_ret;have c:∀q,Kf w (w.drewN q):=λq=>zA.j (Be (Qt w.heap.size w) q) (λk c _=>c);exact⟨rfl,Ch.y ⟨_,_,H⟩ (c _) (λb q=>q.elim),(c _).h (λ_ q=>q.elim)⟩
def zE.c{t R i j w w' a}(h:zE t R i w w')(k:zE t R j w' a):zE t R j w a:=⟨k.1,h.2.c k.2⟩
def zE.e{t R i w}(h:Ch t R w i):zE t R i w w:=⟨h,Cc⟩
def zE.d{t R i w w' a}(h:zE t R i w w')(k:Kf w' a):zE t R i w a :=
 ⟨h.1.y k (λ_ q=>q.elim),h.2.c (k.h (λ_ q=>q.elim))⟩
def zE.le{t R i w w'}(h:zE t R i w w'):w.heap.size<=w'.heap.size:=h.2.l
def qD{Q k w a n S}(h:Ints Q k w a n S):Ints (λb=>Q b/\b<w.heap.size) k w a n S:=by
 by_cases c:n=0
 .exact .inl c
 rcases h with h|⟨b,off,e,d,h⟩
 .exact aB h c
 exact .inr ⟨b,off,e,⟨d,ud (h 0 oM)⟩,h⟩
def Ints.m{Q C k w w' a n S}(h:Ints Q k w a n S)(t:zA C w w')(e:∀b,Q b->¬C b):Ints Q k w' a n S :=
 ((qD h).on (λb c=>t.d b c.2 (e b c.1))).g (λb c=>c.1)
def Em.m{Q C w w' b o d}(h:Em Q w b o d)(l:Q b)(t:zA C w w')(g:∀b,Q b->¬C b):Em Q w' b o d:=by
 obtain⟨f,⟨a,c,i,j⟩,k⟩:=h;have e:=t.d b (ud f) (g b l);exact⟨(Bd (a:=(Ad b o)) e).trans f,⟨a,c,(Bd (a:=(Ad b (o+1))) e).trans i,j.m t g⟩,(Bd (a:=(Ad b (o+2))) e).trans k⟩
def zM.m{Q C w w' a n B}(h:zM Q w a n B)(t:zA C w w')(d:∀b,Q b->¬C b):zM Q w' a n B:=by
 rcases h with h|⟨b,off,e,c,h⟩
 .exact .inl h
 exact .inr ⟨b,off,e,c,λi f=>(h i f).m c t d⟩
def EY(t:Tp)(R:Nat)(s:List Int×Nat)(w:Wl)(e:Ending)(w':Wl):Prop :=
 ∃a c,e=Rt (Sl a s.1.length c)/\Ints (λb=>b≠R) .i64 w' a s.1.length (lf s.1)/\zE t R s.2 w w'
def Tw{t R i w W bs}(h:zE t R i w W){ty}:EY t R (bs,i) w (Rt (Sl (Sm W.heap.size 0) bs.length bs.length)) (W.alloc (Oc (bs.map (λx=>Iv x)).toArray ty)):=by
 refine⟨_,_,rfl,.inr ⟨W.heap.size,0,rfl,λe=>?_,λk c=>?_⟩,h.d zY⟩
 .have:=h.1.lt;omega
 have b:=Eo W (Oc (bs.map (λx=>Iv x)).toArray ty);simp only[World.cell?,b];have hk':=c;simp[lf,hk']
def vP{t R i w W}{x} y(e:x=y)(h:zE t R i w W){ty}:EY t R (vB y,i) w (Rt (Sl (Sm W.heap.size 0) 2 2)) (W.alloc (Oc #[Iv x,Iv x] ty)):=by
 subst e;exact Tw (bs:=vB x) h
def U7 t R i w(h:Ch t R w i)(s:List Int×Nat)(b:yg t i=s) :
  Cs 122 #[.pointer (Sm R 0)] w (EY t R s w):=by
 have E:=t.a i;go_enter func122,ntmps122;go_wp2_with fail;refine(uE t R i w h).mono ?_;rintro e w1 ⟨rfl,p⟩;have j:=ua p;unfold yg at b;generalize t.v i=k at *;let⟨q,z⟩:=nm (k%12);have hq':(k:Int)%12=(q:Int):=oM;have C:q<12:=oM;rw[z]at b;by_cases r:q<7
 .rw[Zp r]at b;subst b;have c1':(q:Int)<7:=oM;go_wp2_with fail;refine(uP _ _).mono ?_;rintro e B ⟨rfl,rfl⟩;go_wp2;go_ret;have y:97+(k:Int) / 12%4=((97+k / 12%4:Nat):Int):=oM;rw[y];exact Tw (bs:=vB ((97+k / 12%4:Nat):Int)) (ty:=3) j
 rw[Zn r]at b;have c1':¬(q:Int)<7:=oM;by_cases l:q=7
 .rw[Zp l]at b;subst b l;go_wp2;go_ret;exact Tw (bs:=[97,98]) j
 rw[Zn l]at b;by_cases c3:q=8
 .rw[Zp c3]at b;subst b c3;go_wp2;go_ret;exact Tw (bs:=[0,255]) j
 rw[Zn c3]at b;by_cases m:q=9
 .rw[Zp m]at b;subst b m;go_wp2;go_ret;exact Tw (bs:=[48,57,97,99]) j
 rw[Zn m]at b;by_cases o:q=10
 .rw[Zp o]at b;subst o;by_cases u:200<k
  .rw[Zp u]at b;subst b;have c6':(200:Int)<(k:Int):=oM;go_wp2;go_ret;exact⟨none,0,rfl,.inl rfl,j⟩
  rw[Zn u]at b;subst b;have c6':¬(200:Int)<(k:Int):=oM;go_wp2;go_ret;exact Tw (bs:=[0,96,99,255]) j
 rw[Zn o]at b;obtain rfl:q=11:=oM;go_wp2_with fail;refine(uE t R (t.n i) w1 j.1).mono ?_;rintro e B ⟨rfl,p⟩;have f:=ua (j.c p);have F:=t.a (t.n i);generalize t.v (t.n i)=x at *;let⟨d,A⟩:=nm (x%16);have hq2':(x:Int)%16=(d:Int):=oM;have D:d<16:=oM;rw[A]at b;subst b;rcases(show d=0\/d=1\/d=2\/d=3\/d=4\/d=5\/d=6\/d=7\/d=8\/d=9\/d=10\/d=11\/d=12\/d=13\/d=14\/d=15 by omega) with rfl|rfl|rfl|rfl|rfl|rfl|rfl|rfl|rfl|rfl|rfl|rfl|rfl|rfl|rfl|rfl
 .go_wp2_with fail;refine(uP _ _).mono ?_;rintro e g ⟨rfl,rfl⟩;go_wp2;go_ret;exact vP (lf ym 0) (by show wrap64 ((#[10,9,13,92,34,91,93,45,94,32,35,59,0,127,128,255]:Array UInt8)[0].toNat:Int)=_;simp[wrap64,lf,ym]) f
 .go_wp2_with fail;refine(uP _ _).mono ?_;rintro e g ⟨rfl,rfl⟩;go_wp2;go_ret;exact vP (lf ym 1) (by show wrap64 ((#[10,9,13,92,34,91,93,45,94,32,35,59,0,127,128,255]:Array UInt8)[1].toNat:Int)=_;simp[wrap64,lf,ym]) f
 .go_wp2_with fail;refine(uP _ _).mono ?_;rintro e g ⟨rfl,rfl⟩;go_wp2;go_ret;exact vP (lf ym 2) (by show wrap64 ((#[10,9,13,92,34,91,93,45,94,32,35,59,0,127,128,255]:Array UInt8)[2].toNat:Int)=_;simp[wrap64,lf,ym]) f
 .go_wp2_with fail;refine(uP _ _).mono ?_;rintro e g ⟨rfl,rfl⟩;go_wp2;go_ret;exact vP (lf ym 3) (by show wrap64 ((#[10,9,13,92,34,91,93,45,94,32,35,59,0,127,128,255]:Array UInt8)[3].toNat:Int)=_;simp[wrap64,lf,ym]) f
 .go_wp2_with fail;refine(uP _ _).mono ?_;rintro e g ⟨rfl,rfl⟩;go_wp2;go_ret;exact vP (lf ym 4) (by show wrap64 ((#[10,9,13,92,34,91,93,45,94,32,35,59,0,127,128,255]:Array UInt8)[4].toNat:Int)=_;simp[wrap64,lf,ym]) f
 .go_wp2_with fail;refine(uP _ _).mono ?_;rintro e g ⟨rfl,rfl⟩;go_wp2;go_ret;exact vP (lf ym 5) (by show wrap64 ((#[10,9,13,92,34,91,93,45,94,32,35,59,0,127,128,255]:Array UInt8)[5].toNat:Int)=_;simp[wrap64,lf,ym]) f
 .go_wp2_with fail;refine(uP _ _).mono ?_;rintro e g ⟨rfl,rfl⟩;go_wp2;go_ret;exact vP (lf ym 6) (by show wrap64 ((#[10,9,13,92,34,91,93,45,94,32,35,59,0,127,128,255]:Array UInt8)[6].toNat:Int)=_;simp[wrap64,lf,ym]) f
 .go_wp2_with fail;refine(uP _ _).mono ?_;rintro e g ⟨rfl,rfl⟩;go_wp2;go_ret;exact vP (lf ym 7) (by show wrap64 ((#[10,9,13,92,34,91,93,45,94,32,35,59,0,127,128,255]:Array UInt8)[7].toNat:Int)=_;simp[wrap64,lf,ym]) f
 .go_wp2_with fail;refine(uP _ _).mono ?_;rintro e g ⟨rfl,rfl⟩;go_wp2;go_ret;exact vP (lf ym 8) (by show wrap64 ((#[10,9,13,92,34,91,93,45,94,32,35,59,0,127,128,255]:Array UInt8)[8].toNat:Int)=_;simp[wrap64,lf,ym]) f
 .go_wp2_with fail;refine(uP _ _).mono ?_;rintro e g ⟨rfl,rfl⟩;go_wp2;go_ret;exact vP (lf ym 9) (by show wrap64 ((#[10,9,13,92,34,91,93,45,94,32,35,59,0,127,128,255]:Array UInt8)[9].toNat:Int)=_;simp[wrap64,lf,ym]) f
 .go_wp2_with fail;refine(uP _ _).mono ?_;rintro e g ⟨rfl,rfl⟩;go_wp2;go_ret;exact vP (lf ym 10) (by show wrap64 ((#[10,9,13,92,34,91,93,45,94,32,35,59,0,127,128,255]:Array UInt8)[10].toNat:Int)=_;simp[wrap64,lf,ym]) f
 .go_wp2_with fail;refine(uP _ _).mono ?_;rintro e g ⟨rfl,rfl⟩;go_wp2;go_ret;exact vP (lf ym 11) (by show wrap64 ((#[10,9,13,92,34,91,93,45,94,32,35,59,0,127,128,255]:Array UInt8)[11].toNat:Int)=_;simp[wrap64,lf,ym]) f
 .go_wp2_with fail;refine(uP _ _).mono ?_;rintro e g ⟨rfl,rfl⟩;go_wp2;go_ret;exact vP (lf ym 12) (by show wrap64 ((#[10,9,13,92,34,91,93,45,94,32,35,59,0,127,128,255]:Array UInt8)[12].toNat:Int)=_;simp[wrap64,lf,ym]) f
 .go_wp2_with fail;refine(uP _ _).mono ?_;rintro e g ⟨rfl,rfl⟩;go_wp2;go_ret;exact vP (lf ym 13) (by show wrap64 ((#[10,9,13,92,34,91,93,45,94,32,35,59,0,127,128,255]:Array UInt8)[13].toNat:Int)=_;simp[wrap64,lf,ym]) f
 .go_wp2_with fail;refine(uP _ _).mono ?_;rintro e g ⟨rfl,rfl⟩;go_wp2;go_ret;exact vP (lf ym 14) (by show wrap64 ((#[10,9,13,92,34,91,93,45,94,32,35,59,0,127,128,255]:Array UInt8)[14].toNat:Int)=_;simp[wrap64,lf,ym]) f
 go_wp2_with fail;refine(uP _ _).mono ?_;rintro e g ⟨rfl,rfl⟩;go_wp2;go_ret;exact vP (lf ym 15) (by show wrap64 ((#[10,9,13,92,34,91,93,45,94,32,35,59,0,127,128,255]:Array UInt8)[15].toNat:Int)=_;simp[wrap64,lf,ym]) f
section
open M (OpD ug Gr)
structure Hv(w0 w:Wl)(a:Oa)(c:Nat)(D:List OpD)(n:Nat):Prop where
 bd:zQ (zF w0 w) w (Sl a D.length c) D
 b:Ep n D
 ne:0<D.length
def Dr(t:Tp)(R i:Nat)(w0 w:Wl):Prop:=zE t R i w0 w/\R<w0.heap.size
def Up(w0 w W:Wl):Prop:=∀{a:Oa} {c:Nat} {D:List OpD} {n:Nat},Hv w0 w a c D n->Hv w0 W a c D n
def Pq(t:Tp)(R i:Nat)(w0 w:Wl)(D:List OpD)(n:Nat)(P:Ew):Prop :=
 ∀a c W,Dr t R i w0 W->Up w0 w W->Hv w0 W a c D n->P (Rt (Sl a D.length c)) W
variable {t:Tp} {R i n n' f:Nat} {w0 w W:Wl} {a a':Oa} {c c':Nat} {D D':List OpD} {P:Ew} {s:LI} {Q:Np}
def Hv.m(h:Hv w0 w a c D n)(e:n<=n'):Hv w0 w a c D n':=⟨h.bd,h.b.h e,h.ne⟩
def Dr.up(d:Dr t R i w0 w)(k:zA (λx=>x=R) w W):Up w0 w W:=λh =>
 ⟨(h.bd.on (λb a=>k.d b a.2 (λq=>oG a.1 d.2))).g (λx q=>⟨q.1,by have:=k.l;have:=q.2;omega⟩),h.b,h.ne⟩
def Dr.q(d:Dr t R i w0 w)(k:Kf w W):Dr t R i w0 W:=⟨d.1.d k,d.2⟩
def Mg(h:Ch t R w i):Dr t R i w w:=⟨zE.e h,h.lt⟩
def Yr{args:Av}(d:Dr t R i w0 w)(k:Ep n D)(l:0<D.length)(h:Cs f args w (Mk D w))(m:Pq t R i w0 w D n P):Cs f args w P:=h.mono (by
 rintro e W ⟨a,c,rfl,j,b⟩;exact m a c W (d.q b) (d.up (b.h (λ_ q=>q.elim))) ⟨j.g (λx q=>⟨by have:=d.1.le;have:=q.1;omega,q.2⟩),k,l⟩)
def jT(k x:Int)(d:Dr t R i w0 w)(a:Pq t R i w0 w (uv k x) 1 P):Cs 54 #[Iv k,Iv x] w P :=
 Yr d (xK k x) (by simp[uv]) (vU k x w) a
def Km(k:Int)(d:Dr t R i w0 w)(h:Hv w0 w a c D n)(g:n<=1000)(f:Pq t R i w0 w (Bq k D) (n+1) P):Cs 120 #[Iv k,Sl a D.length c] w P :=
 Yr d (Pw k h.b) (by simp[Bq]) (Ym k a c D w h.bd.e (h.b.c oM)) f
def Jr(k:Int)(d:Dr t R i w0 w)(h:Hv w0 w a c D n)(f:Hv w0 w a' c' D' n')(j:n+n'<=1000)(g:Pq t R i w0 w (uM k D D') (n+n'+1) P):Cs 51 #[Iv k,Sl a D.length c,Sl a' D'.length c'] w P :=
 Yr d (yt k h.b f.b) (by simp[uM];omega) (jR k a a' c c' D D' w h.bd.e (h.b.c oM) f.bd.e (f.b.c oM) f.ne) g
def Js(d:Dr t R i w0 w)(h:Ints Q .i64 w a s.length (lf s))(e:s.length<=4)(b:Pq t R i w0 w (uL s) 1 P):Cs 52 #[Sl a s.length c] w P :=
 Yr d (qC oM) (by simp[uL]) (jQ _ a c s w h oM) b
def NX(w:Wl)(x y:Int)(t:TypeId):Ints (λ_=>True) .i64 (w.alloc (Oc #[Iv x,Iv y] t)) (Sm w.heap.size 0) [x,y].length (lf [x,y]):=by
 refine .inr ⟨w.heap.size,0,rfl,trivial,λk b=>?_⟩;have a:=Eo w (Oc #[Iv x,Iv y] t);simp only[World.cell?,a];match k,b with
 |0,_=>rfl
 |1,_=>rfl
def DY(x y:Int)(d:Dr t R i w0 w)(e:Pq t R i w0 w (uL [x,y]) 1 P):Cs 52 #[Sl (Sm w.heap.size 0) 2 2] (w.alloc (Oc #[Iv x,Iv y] 3)) P :=
 Js (s:=[x,y]) (d.q zY) (NX w x y 3) sM λa c W b u h=>e a c W b (λh=>u (d.up zY h)) h
def NY(b:Int)(d:Dr t R i w0 w)(c:∀W,Dr t R i w0 W->Up w0 w W->Ints (λ_=>True) .i64 W (Sm w.heap.size 0) 2 (lf [b,b])->P (Rt (Sl (Sm w.heap.size 0) 2 2)) W):Cs 53 #[Iv b] w P :=
 (uP b w).mono (by rintro e W ⟨rfl,rfl⟩;exact c _ (d.q zY) (d.up zY) (NX w b b 3))
def Ri{j:Nat}(d:Dr t R i w0 w)(h:zE t R j w W):Dr t R j w0 W/\Up w0 w W:=⟨⟨d.1.c h,d.2⟩,d.up h.2⟩
def Le(d:Dr t R i w0 w)(a:∀W,Dr t R (t.n i) w0 W->Up w0 w W->P (Rt (Iv (t.v i:Int))) W):Cs 15 #[.pointer (Sm R 0)] w P :=
 (uE t R i w d.1.1).mono (by rintro e W ⟨rfl,h⟩;exact a W (Ri d h).1 (Ri d h).2)
def Mh(d:Dr t R i w0 w)(g:∀a c W,Dr t R (yg t i).2 w0 W->Up w0 w W->Ints (λb=>b≠R) .i64 W a (yg t i).1.length (lf (yg t i).1)->P (Rt (Sl a (yg t i).1.length c)) W):Cs 122 #[.pointer (Sm R 0)] w P :=
 (U7 t R i w d.1.1 _ rfl).mono (by rintro e W ⟨a,c,rfl,f,h⟩;exact g a c W (Ri d h).1 (Ri d h).2 f)
def DZ(t:Tp)(R:Nat)(p:List OpD×Nat)(w:Wl)(e:Ending)(w':Wl):Prop :=
 ∃a c,e=Rt (Sl a p.1.length c)/\zQ (zF w w') w' (Sl a p.1.length c) p.1/\zE t R p.2 w w'
def NZ{args:Av}{p:List OpD×Nat}(d:Dr t R i w0 w)(j:Ep n p.1)(k:0<p.1.length)(h:Cs f args w (DZ t R p w))(l:Pq t R p.2 w0 w p.1 n P):Cs f args w P:=h.mono (by
 rintro e W ⟨a,c,rfl,b,h⟩;exact l a c W (Ri d h).1 (Ri d h).2 ⟨b.g (λx q=>⟨by have:=d.1.le;have:=q.1;omega,q.2⟩),j,k⟩)
def Dr.l{p:List OpD×Nat}(d:Dr t R i w0 w)(h:Hv w0 w a c D n)(e:(D,i)=p):DZ t R p w0 (Rt (Sl a D.length c)) w:=e▸⟨a,c,rfl,h.bd,d.1⟩
structure Ob(R:Nat)(w:Wl)(a:Oa)(D:List OpD):Prop where
 e:zM (λb=>b≠R) w a D.length (df D)
 sm:xx D.length (df D)
 ne:0<D.length
def Dr.ob(d:Dr t R i w0 w)(h:Ob R w0 a D):Ob R w a D:=⟨h.e.m d.1.2 (λ_ q e=>q e),h.sm,h.ne⟩
def Hv.ob(h:Hv w0 w a c D n)(d:Dr t R i w0 w)(f:n<=1000):Ob R w a D:=⟨h.bd.e.g (λb q e=>oG q.1 d.2),h.b.c oM,h.ne⟩
def EA(t:Tp)(R i:Nat)(w0:Wl)(D:List OpD)(P:Ew):Prop:=∀a c W,Dr t R i w0 W->zQ (zF w0 W) W (Sl a D.length c) D->P (Rt (Sl a D.length c)) W
def OA{args:Av}(d:Dr t R i w0 w)(h:Cs f args w (Mk D w))(k:EA t R i w0 D P):Cs f args w P:=h.mono (by
 rintro e W ⟨a,c,rfl,b,j⟩;exact k a c W (d.q j) (b.g (λx q=>⟨by have:=d.1.le;have:=q.1;omega,q.2⟩)))
def P7(k:Int)(d:Dr t R i w0 w)(h:Ob R w a D)(b:EA t R i w0 (Bq k D) P):Cs 120 #[Iv k,Sl a D.length c] w P:=OA d (Ym k a c D w h.e h.sm) b
def uid(k:Int)(d:Dr t R i w0 w)(h:Ob R w a D)(b:Ob R w a' D')(f:EA t R i w0 (uM k D D') P):Cs 51 #[Iv k,Sl a D.length c,Sl a' D'.length c'] w P:=OA d (jR k a a' c c' D D' w h.e h.sm b.e b.sm b.ne) f
end
def DP{d}(h:d<=5):Wk d<=200:=by
 match d,h with
 |0,_=>decide
 |1,_=>decide
 |2,_=>decide
 |3,_=>decide
 |4,_=>decide
 |5,_=>decide
def DQ t b e c:∀(d:Nat) (a:Bool) (i:Nat),0<(yo t b e c d a i).1.length
 |0,_,i=>by rw[yo];simp[uL]
 |d+1,a,i=>by
  rw[yo];dsimp only;repeat' split
  all_goals first|(simp[uL,uv,Bq,uM];done)|(simp[uL,uv,Bq,uM];omega)
def N7 t R E A z(ak:E<=100)(al:A<=100)(am:z<=100):∀(d:Nat) (F:Int) (Q:F=(d:Int)) (J:Bool) (i:Nat) (w:Wl) (p:List OpD×Nat),d<=5->Ch t R w i->yo t E A z d J i=p ->
  Cs 119 #[.pointer (Sm R 0),Iv F,Iv E,Iv A,Iv z,.bool J] w (DZ t R p w):=by
 intro d;induction d with
 |zero =>
  intro F Q J i w p hd h f;have hv:=t.a i;obtain rfl:F=0:=oM;have g:=ua f;clear Q f;go_enter func119,ntmps119;go_wp2_with fail;refine Le (Mg h) λw1 b _=>?_;generalize t.v i=k at *;go_wp2_with fail;refine Mh b λa c G b _ h=>?_;go_wp2_with fail;refine Js b h (vI _ _) λa c y b _ h=>?_;go_wp2;go_ret;exact b.l h g.o
 |succ d Z =>
  intro F Q J i w p hd h f;have hv:=t.a i;have D:=ua λ(S:Bool) (i:Nat) (w0 w:Wl) (P:Ew) (e:Dr t R i w0 w)=>NZ (P:=P) e ((kH t E A z d S i).h (DP oM)) (DQ t E A z d S i) (Z (F-1) oM S i w _ oM e.1.1 rfl);have ag:¬F<=0:=oM;have ah:F<=5:=oM;have ai:decide (F<=0)=false:=sO;clear Q Z;go_enter func119,ntmps119;go_wp2_with fail;refine Le (Mg h) λw1 b _=>?_;rw[yo]at f;dsimp only at f;generalize t.n i=j at *;generalize t.v i=k at *;let⟨q,X⟩:=nm (k%20);have hq':(k:Int)%20=(q:Int):=oM;have an:q<20:=oM;rw[X]at f;clear X;by_cases b1:(q:Int)<4
  .rw[Zp oM]at f;have g:=ua f;clear f;go_wp2_with fail;refine Mh b λa c G b _ h=>?_;go_wp2_with fail;refine Js b h (vI _ _) λa c y b _ h=>?_;go_wp2;go_ret;exact b.l h g.o
  go_wp2_with fail;refine(PJ t R j w1 b.1.1).mono ?_;rintro e G ⟨rfl,W⟩;replace b:=(Ri b W).1;have aj:=b.1.1.le;have ao:=t.le;clear W;by_cases b2:t.m=j
  .have c2:((t.m:Int)-(j:Int)==0)=true:=sO;rw[Zp (.inr b2)]at f;have b2':(t.m:Int)-(j:Int)=0:=oM;have g:=ua f;clear f;go_wp2_with fail;refine Mh b λa c G b _ h=>?_;go_wp2_with fail;refine Js b h (vI _ _) λa c y b _ h=>?_;go_wp2;go_ret;exact b.l h g.o
  have b2':¬(t.m:Int)-(j:Int)=0:=oM;have b2'':((t.m:Int)-(j:Int)==0)=false:=sO;rw[Zn oM]at f;by_cases b3:(q:Int)=4
  .rw[Zp oM]at f;have g:=ua f;clear f;go_wp2_with fail;refine jT 0 0 b λa c y b _ h=>?_;go_wp2;go_ret;exact b.l h g.o
  rw[Zn oM]at f;have ap:=t.a j;by_cases b4:(q:Int)<7
  .rw[Zp oM]at f;cases J with
   |true =>
    simp only[if_true,Nat.sub_zero,Bp]at f;by_cases b5:(A:Int)<=0
    .rw[Zp oM]at f;have g:=ua f;clear f;go_wp2_with fail;refine Mh b λa c G b _ h=>?_;go_wp2_with fail;refine Js b h (vI _ _) λa c y b _ h=>?_;go_wp2;go_ret;exact b.l h g.o
    rw[Zn oM]at f;have V:¬(A:Int)=0:=oM;go_wp2_with fail;refine Le b λy b _=>?_;generalize t.v j=C at *;let⟨B,x⟩:=nm (C%A);have U:(C:Int)%(A:Int)=(B:Int):=(by rw[<-x];omega);have T:B<A:=x▸If C oM;rw[x]at f;have g:=ua f;clear x f;go_wp2_with fail;refine jT 2 (B:Int) b λa c y b _ h=>?_;go_wp2;go_ret;exact b.l h g.o
   |false =>
    simp only[Nh,if_false]at f;by_cases b5:(A:Int)<=(E:Int)+1
    .rw[Zp oM]at f;have g:=ua f;clear f;go_wp2_with fail;refine Mh b λa c G b _ h=>?_;go_wp2_with fail;refine Js b h (vI _ _) λa c y b _ h=>?_;go_wp2;go_ret;exact b.l h g.o
    rw[Zn oM]at f;let⟨r,Y⟩:=nm (A-(E+1));have hr':(A:Int)-((E:Int)+1)=(r:Int):=oM;have V:¬(r:Int)=0:=oM;rw[Y]at f;go_wp2_with fail;refine Le b λy b _=>?_;generalize t.v j=C at *;let⟨B,x⟩:=nm (C%r);have U:(C:Int)%(r:Int)=(B:Int):=(by rw[<-x];omega);have T:B<r:=x▸If C oM;rw[x]at f;have g:=ua f;clear x f Y;go_wp2_with fail;refine jT 2 ((E:Int)+1+(B:Int)) b λa c y b _ h=>?_;go_wp2;go_ret;exact b.l h g.o
  rw[Zn oM]at f;by_cases I:q<9/\0<z
  .rw[Zp I]at f;obtain⟨I,O⟩:=I;have b6':(q:Int)<9:=oM;have b7':(0:Int)<(z:Int):=oM;have V:¬(z:Int)=0:=oM;go_wp2_with fail;refine Le b λy b _=>?_;generalize t.v j=C at *;let⟨B,x⟩:=nm (C%z);have U:(C:Int)%(z:Int)=(B:Int):=(by rw[<-x];omega);have T:B<z:=x▸If C O;rw[x]at f;have g:=ua f;clear x f;go_wp2_with fail;refine Mh b λa c G b _ h=>?_;go_wp2_with fail;refine Js b h (vI _ _) λa c y b _ h=>?_;go_wp2_with fail;refine jT 3 (B:Int) b λa c o b u s=>?_;go_wp2_with fail;refine Jr 5 b (u h) s oM λa c o b u h=>?_;go_wp2;go_ret;exact b.l h g.o
  rw[Zn I]at f;have O:¬((q:Int)<9/\(0:Int)<(z:Int)):=oM;by_cases b8:(q:Int)<13
  .rw[Zp oM]at f;have g:=ua f;clear f;by_cases b9:(q:Int)<9;all_goals try have aa:¬(0:Int)<(z:Int):=oM
   all_goals
    clear I O;go_wp2_with fail;refine Mh b λa c G b _ h=>?_;go_wp2_with fail;refine Js b h (vI _ _) λa c y b _ h=>?_;go_wp2_with fail;refine D.o _ _ _ _ _ b λa c o b u s=>?_;go_wp2_with fail;refine Jr 4 b (u h) s oM λa c o b u h=>?_;go_wp2;go_ret;exact b.l h g.o
  rw[Zn oM]at f;have b9:¬(q:Int)<9:=oM;clear I O;by_cases aa:(q:Int)<16
  .rw[Zp oM]at f;by_cases ab:(q:Int)=13
   .rw[Zp oM]at f;have g:=ua f;clear f;go_wp2_with fail;refine D.o _ _ _ _ _ b λa c o b u h=>?_;go_wp2_with fail;refine D.o _ _ _ _ _ b λa c o b u s=>?_;go_wp2_with fail;refine Jr 4 b (u h) s oM λa c o b u h=>?_;go_wp2;go_ret;exact b.l h g.o
   rw[Zn oM]at f;have g:=ua f;clear f;go_wp2_with fail;refine D.o _ _ _ _ _ b λa c o b u h=>?_;go_wp2_with fail;refine D.o _ _ _ _ _ b λa c o b u s=>?_;go_wp2_with fail;refine Jr 5 b (u h) s oM λa c o b u h=>?_;go_wp2;go_ret;exact b.l h g.o
  have ab:¬(q:Int)=13:=oM;rw[Zn oM]at f;by_cases ac:(q:Int)<18
  .rw[Zp oM]at f;have aq:=t.a (yg t j).2;go_wp2_with fail;refine Mh b λa c G b _ h=>?_;go_wp2_with fail;refine Js b h (vI _ _) λa c y b _ h=>?_;go_wp2_with fail;refine Le b λo b u=>?_;replace h:=u h;generalize t.v (yg t j).2=N at *;let⟨H,L⟩:=nm (N%3);have hc':(N:Int)%3=(H:Int):=oM;rw[L]at f;obtain rfl|rfl|rfl:H=0\/H=1\/H=2:=oM;all_goals have g:=ua f
   all_goals clear f L u
   .go_wp2_with fail;refine Km 6 b h oM λa c o b u h=>?_;go_wp2;go_ret;exact b.l h g.o
   .go_wp2_with fail;refine D.o _ _ _ _ _ b λa c o b u s=>?_;go_wp2_with fail;refine Jr 4 b (u h) s oM λa c o b u h=>?_;go_wp2_with fail;refine Km 6 b h oM λa c o b u h=>?_;go_wp2;go_ret;exact b.l h g.o
   go_wp2_with fail;refine D.o _ _ _ _ _ b λa c o b u s=>?_;replace h:=u h;go_wp2_with fail;refine Km 7 b s oM λa c o b u s=>?_;go_wp2_with fail;refine Jr 4 b s (u h) oM λa c o b u h=>?_;go_wp2_with fail;refine Km 6 b h oM λa c o b u h=>?_;go_wp2;go_ret;exact b.l h g.o
  rw[Zn oM]at f;by_cases ad:(q:Int)=18
  .rw[Zp oM]at f;have g:=ua f;clear f;go_wp2_with fail;refine D.o _ _ _ _ _ b λa c o b u s=>?_;go_wp2_with fail;refine Km 7 b s oM λa c o b u h=>?_;go_wp2;go_ret;exact b.l h g.o
  rw[Zn oM]at f;go_wp2_with fail;refine Le b λo b u=>?_;generalize t.v j=N at *;let⟨H,L⟩:=nm (N%4);have hc':(N:Int)%4=(H:Int):=oM;rw[L]at f;clear u L;by_cases ae:(0:Int)<(H:Int)
  .rw[Zp oM]at f;have g:=ua f;clear f;go_wp2_with fail;refine Mh b λa c G b _ h=>?_;go_wp2_with fail;refine Js b h (vI _ _) λa c y b _ h=>?_;go_wp2_with fail;refine D.o _ _ _ _ _ b λa c o b u s=>?_;replace h:=u h;go_wp2_with fail;refine Jr 4 b h s oM λa c o b u s=>?_;go_wp2_with fail;refine Jr 5 b (u h) s oM λa c o b u h=>?_;go_wp2_with fail;refine Km 6 b h oM λa c o b u h=>?_;go_wp2;go_ret;exact b.l h g.o
  rw[Zn oM]at f;have g:=ua f;clear f;go_wp2_with fail;refine D.o _ _ _ _ _ b λa c o b u h=>?_;go_wp2_with fail;refine Km 6 b h oM λa c o b u h=>?_;go_wp2;go_ret;exact b.l h g.o
def MY{t}{R i:Nat}{w0 w P}(a c b d:Nat)(g:Int)(j:g=(d:Int))f(h:a<=100/\c<=100/\b<=100/\d<=5)(e:Dr t R i w0 w)(k:Pq t R (yo t a c b d f i).2 w0 w (yo t a c b d f i).1 200 P) :
  Cs 119 #[.pointer (Sm R 0),Iv g,Iv a,Iv c,Iv b,.bool f] w P :=
 NZ e ((kH t a c b d f i).h (DP h.2.2.2)) (DQ t a c b d f i) (N7 t R a c b h.1 h.2.1 h.2.2.1 d g j f i w _ h.2.2.2 e.1.1 rfl) k
open M (vH ufB)
def WY:ByteArray:=⟨#[48,49,50,51,52,53,54,55,56,57,97,98,99,100,101,102]⟩
def unQ{q:Int}(h:0<=q/\q<=15):q=0\/q=1\/q=2\/q=3\/q=4\/q=5\/q=6\/q=7\/q=8\/q=9\/q=10\/q=11\/q=12\/q=13\/q=14\/q=15:=oM
def uxb{b}(h:0<=b/\b<=255):IntKind.u8.wrap b=b:=by
 simp[IntKind.wrap,IntKind.bits,IntKind.signed];omega
open M (udo ucz setT b1)
def WZ{n S}(h:M.bH n S){k}(o:2*k+1<n):(0<=S (2*k)/\S (2*k)<=255)/\(0<=S (2*k+1)/\S (2*k+1)<=255):=by
 obtain⟨m,g⟩:=h;obtain⟨q,rfl⟩:∃q,n=2*q:=⟨n / 2,oM⟩;have d:=(M.dP S q).2 g;have l:∀j,j<q->0<=S (2*j):=by
  intro j;induction j with
  |zero=>intro e;have:=(d 0 e).1;simp[M.bN]at this;simpa using this
  |succ j i =>
   intro e;have a:=i oM;have b:=(d j oM).2.1;have c:=(d (j+1) e).1;unfold M.bN at c;rw[Zn oM,show 2*(j+1)-1=2*j+1 by omega]at c;omega
 have a:=l k oM;have b:=d k oM;have b1:=b.2.1;have f:=b.2.2;exact⟨⟨a,oM⟩,⟨oM,f⟩⟩
section
open M (OpD ug Gr uw EX ins uT emit_len)
def Cr(n:Nat)(R:Nat->uw)(p:Nat)(l:List uw):Prop:=∀i x,l[i]?=some x->p+i<n/\R (p+i)=x
section
variable {n:Nat} {R:Nat->uw} {p:Nat} {U S:List uw} {x:uw}
def Cr.g(h:Cr n R p (U++S)):Cr n R p U:=λi x c =>
 h i x (by rw[Es (Bz.1 c).1];exact c)
def Cr.b(h:Cr n R p (U++S)):Cr n R (p+U.length) S:=λi x c=>by
 have:=h (U.length+i) x (by rw[Fb oM,Nat.add_sub_cancel_left];exact c);rw[Gy];exact this
def Cr.q(h:Cr n R p (x::S)):p<n/\R p=x:=h 0 x rfl
def Cr.a(h:Cr n R p (x::S)):Cr n R (p+1) S:=λi y c=>by
 have:=h (i+1) y c;rw[show p+1+i=p+(i+1) by omega];exact this
end
structure EC where
 g:Gr
 ra:Option Addr
 rc:Nat
 la:Option Addr
 lc:Nat
 ia:Option Addr
 il:Nat
 ic:Nat
 I:Nat->Int
 d:Int
 a:Int
 n:Nat
 R:Nat->uw
 t:zC
 b:Nat
 w0:Wl
 Q:Nat->Prop
def EC.E(K:EC)(s:zC):Prop:=Ends K.n K.R K.il K.I K.d K.a s K.t
def EC.wd(K:EC)(s:zC)(e:Oa)(f xc:Nat)(c lb ps:Int):Array Value :=
 #[Sl K.ra K.g.nr K.rc, Sl K.la K.g.nb K.lc, Sl K.ia K.il K.ic, Iv K.d, Iv K.a, Iv (s.b : Int), Iv (s.i : Int), Sl e f xc, Iv (s.d : Int), Iv c, Iv lb, Iv ps]
structure EC.Ok(K:EC):Prop where
 a:M.Sound K.g
 j:zV K.Q K.w0 K.ra K.la K.g
 c:Ints K.Q .u8 K.w0 K.ia K.il K.I
 h:Cz K.il K.I
 il:K.il<=1048576
 f0:0<=K.d
 f1:K.d<=50000
 m0:0<=K.a
 m1:K.a<=1000
 b:K.w0.heap.size<=K.b
 q:∀x,K.Q x->x<K.w0.heap.size
structure EC.f(K:EC)(A:Np)(s:zC)(xa:Oa)(xn xc:Nat)(cd lb ps:Int)(W:Wl):Prop where
 e:zG W K.b (K.wd s xa xn xc cd lb ps)
 ex:Fm (λx=>K.b<x/\x<W.heap.size/\¬A x) W xa xn s.t
 q:Below K.w0.heap.size K.w0 W
def EC.Wd(K:EC)(A:Np)(s:zC)(W:Wl):Prop:=∃b c xc a lb ps,K.f A s b c xc a lb ps W
inductive Nst(nb:Nat):Nat->Nat->List Cm->Prop
 |nil {p q:Nat}:p<=q->Nst nb p q []
 |one {p q:Nat} {L:List Cm} {k a:Int}:Nst nb p q L->k=0\/k=1/\0<=a/\a<nb->Nst nb p q ([⟨k,a,p⟩]++L++[⟨2,0,q⟩])
 |app {p q r:Nat} {L M:List Cm}:Nst nb p q L->Nst nb q r M->Nst nb p r (L++M)
structure Ty(nb:Nat)(t:zC):Prop where
 ok:t.r=0->Nst nb 0 t.c t.a/\t.a.length<=50000
 d:t.r=2->0<=t.s/\t.s<nb
def EC.k(K:EC)(W:Wl):Prop:=∃s a b xc lb ps,K.f (λ_=>False) s a b xc K.t.r lb ps W/\(K.t.r=3\/(K.t.r=2/\lb=K.t.s/\ps=(K.t.c:Int)/\s.i=K.t.i/\s.t=K.t.t/\s.d=K.t.d/\0<=lb/\lb<K.g.nb))
structure EC.Sg(K:EC)(s:zC):Prop where
 e:s.e=false
 thr:s.d<=s.b
 a:s.a.length<=s.b
 st:(s.b:Int)<=K.d
 c:(s.st.length:Int)<=K.a
abbrev EC.Kp(K:EC)(W W':Wl):Prop:=zA (λx=>x=K.b) W W'
structure EC.i(K:EC)(s s':zC)(q:Nat)(L:List Cm):Prop where
 st:s'.st=s.st
 f:s'.f=(q:Int)
 a:s'.a=s.a++L
 e:K.E s'
 sg:K.Sg s'
 p:s.b<=s'.b
 b:Nst K.g.nb s.c s'.c L
structure EC.j(K:EC)(s s':zC):Prop where
 st:∃F,s'.st=s.st++F/\∀f,f∈F->f.e=2
 a:∃L,s'.a=s.a++L
 e:K.E s'.h
 sg:K.Sg s'
 p:s.b<=s'.b
structure Df(w0 w:Wl)(P:Np)(v:Vl)(l:List Cm):Prop where
 k:zB P w v 3 l.length (vb l)
 a:∀x,P x->w0.heap.size<=x/\x<w.heap.size
 nil:l = []->v=nS
def yU(a pos:Int)(v:Vl):Ending:=Rt (.tuple #[Iv a,Iv pos,v])
structure EC.h(K:EC)(A:Np)(s:zC)(q:Nat)(W:Wl)(P:Ew):Prop where
 ok:∀s' L B a n c W',K.i s s' q L->K.Wd (λx=>A x\/B x) s' W'->Df W W' B (Sl a n c) L->K.Kp W W'->P (yU 0 (s'.c:Int) (Sl a n c)) W'
 h:∀s' z W',K.j s s'->K.Wd A s' W'->K.Kp W W'->P (yU 1 z nS) W'
 b:∀z W',K.k W'->K.Kp W W'->P (yU 2 z nS) W'
def EC.e(K:EC)(m:Nat)(T:TR):Prop:=∀(i off c p l:Nat) (q k:Int) (o:Bool) (A:Np) (s:zC) (W:Wl) (P:Ew),
 l=T.n->T.Ok (M.bB K.g.nr K.g.nb)->T.n<=c->T.n<=2000->TA K.Q K.w0 i T off->Cr K.n K.R p (uT (Ee K.g) (T.a (M.bA K.g.nr)) p)->s.f=(p:Int)->q=(s.c:Int)->k=(s.st.length:Int)->o=s.j ->
 K.E s->K.Sg s->K.Wd A s W->(∀x,A x->x<W.heap.size)->(K.d-s.b).toNat<=m->K.h A s (p+(T.a (M.bA K.g.nr)).c) W P ->
 Cs 136 #[.pointer (Sm K.b 0),Sl (Sm i off) l c,Iv q,Iv k,.bool o] W P
def EC.l(K:EC)(m:Nat):Prop:=∀(k q:Nat) (n p i:Int) (o:Bool) (A:Np) (s e:zC) (W:Wl) (P:Ew),k<K.g.nr+K.g.nb->0<(nd K.g k).bl->n=(k:Int)->e.f=Ee K.g k->e.st=s.st++[⟨2,(q:Int),0,0⟩]->e.a=s.a/\e.c=s.c->s.b<=e.b->p=(e.c:Int)->i=(e.st.length:Int)->o=e.j ->
 K.E e->K.Sg e->K.Wd A e W->(∀x,A x->x<W.heap.size)->(K.d-e.b).toNat<=m->K.h A s q W P ->
 Cs 80 #[.pointer (Sm K.b 0),Iv n,Iv p,Iv i,.bool o] W P
def zC.g(s:zC):zC:={ s with b:=s.b+1 }
section
variable {K:EC} {s s':zC} {X:Nat} {W W' V:Wl} {A B:Np} {xa:Oa} {xn xc:Nat} {cd lb ps cd' lb' ps':Int}
def EC.E.a(h:K.E s)(j:K.Sg s)(c:s.f=(X:Int))(k:X<K.n)(i:(s.b:Int)≠K.d):K.E (s.g.q (K.R X) K.il K.I K.a):=by
 have:=Ends.p h j.e;unfold zC.p at this;rw[Zn (by rw[c];omega),Zn i,show s.f.toNat=X by rw[c];rfl]at this;exact this
def EC.E.u(h:K.E s)(g:K.Sg s)(a:s.f=(X:Int))(i:X<K.n)(c:(s.b:Int)=K.d):K.t=s.l 3:=by
 have:=Ends.p h g.e;unfold zC.p at this;rw[Zn (by rw[a];omega),Zp c]at this;exact this.d rfl
def EC.Sg.g(h:K.Sg s)(f:(s.b:Int)≠K.d):K.Sg s.g:=⟨h.e,by have:=h.thr;show s.d<=s.b+1;omega,by have:=h.a;show s.a.length<=s.b+1;omega,by have:=h.st;show((s.b+1:Nat):Int)<=_;omega,h.c⟩
def EC.Wd.q(h:K.Wd A s W):Below K.w0.heap.size K.w0 W:=let⟨_,_,_,_,_,_,h⟩:=h;h.q
def EC.Wd.lt(h:K.Wd A s W):K.b<W.heap.size:=let⟨_,_,_,_,_,_,h⟩:=h;h.e.x.2.2
def EC.Wd.d(h:K.Wd A s W)(c:s'.b=s.b)(f:s'.i=s.i)(g:s'.t=s.t)(j:s'.d=s.d):K.Wd A s' W:=by
 obtain⟨k,l,xc,a,lb,ps,h⟩:=h;exact⟨k,l,xc,a,lb,ps,⟨by have:=h.e;unfold EC.wd at this ⊢;rw[c,f,j];exact this,g▸h.ex,h.q⟩⟩
def EC.f.h(h:K.f A s xa xn xc cd lb ps W)(b:∀x,B x->A x):K.f B s xa xn xc cd lb ps W:=⟨h.e,h.ex.g (λx a=>⟨a.1,a.2.1,λX=>a.2.2 (b x X)⟩),h.q⟩
def EC.Wd.h(h:K.Wd A s W)(a:∀x,B x->A x):K.Wd B s W:=let⟨xa,xn,xc,cd,lb,ps,h⟩:=h;⟨xa,xn,xc,cd,lb,ps,h.h a⟩
def EC.f.y(h:K.f A s xa xn xc cd lb ps W)(k:Kf W W'):K.f A s xa xn xc cd lb ps W' :=
 ⟨h.e.on k.q,(h.ex.on (λx a=>k.d x a.2.1 (λe=>e))).g (λx a=>⟨a.1,Ba a.2.1 k.l,a.2.2⟩),uf h.q k.q⟩
def EC.Wd.y(h:K.Wd A s W)(k:Kf W W'):K.Wd A s W':=let⟨xa,xn,xc,cd,lb,ps,h⟩:=h;⟨xa,xn,xc,cd,lb,ps,h.y k⟩
def EC.f.set(c:K.Ok)(h:K.f A s xa xn xc cd lb ps W){o:Nat}{v:Vl}(d:(K.wd s xa xn xc cd lb ps).setIfInBounds o v=K.wd s' xa xn xc cd' lb' ps')(i:s'.t=s.t):K.f A s' xa xn xc cd' lb' ps' (W.setCell (Ad K.b o) v) :=
 ⟨d▸h.e.set o v,i▸(h.ex.on (λx a=>Bn (Nat.ne_of_gt a.1))).g (λx a=>⟨a.1,by rw[uh];exact a.2.1,a.2.2⟩),uD h.q c.b⟩
def EC.c(o:Nat)(v:Vl):K.Kp W (W.setCell (Ad K.b o) v):=⟨rfl,rfl,rfl,by rw[uh];exact zD,λx _ a=>Bn a⟩
end
def FL:∀(F l:List Cf),(∀f,f∈F->f.e=2)->vr (F++l)=vr l
 |[],l,_=>rfl
 |f::F,l,h=>by rw[Fc,vr,Zp (h f sM),FL F l (λg a=>h g (by simp[a]))]
section
variable {K:EC} {s s1 s':zC} {q:Nat} {W W':Wl} {P:Ew}
def EC.j.b(h:K.j s1 s'){f:Cf}(n:s1.st=s.st++[f])(l:f.e≠2)(m:f.a=s.a.length)(d:s1.a=s.a):s'.h={ s' with st:=s.st,c:=f.c,a:=s.a,f:=f.to }:=by
 let⟨F,e,k⟩:=h.st;let⟨L,i⟩:=h.a;unfold zC.h;have o:vr s'.st.reverse=some (f,s.st.reverse):=by
  rw[e,n,List.reverse_append,List.reverse_append,FL _ _ (λg d=>k g (by simpa using d))];show vr (f::s.st.reverse)=_;rw[vr,Zn l]
 rw[o];simp only[List.reverse_reverse,m,i,d,List.take_left]
def EC.j.over(h:K.j s s')(c:s.st = []):K.t=s'.l 1:=by
 let⟨F,e,a⟩:=h.st;have f:vr s'.st.reverse=none:=by
  have:=FL F.reverse [] (λg b=>a g (by simpa using b));rw[Dl]at this;rw[e,c,Hm,this,vr]
 have e:=h.e;unfold zC.h at e;rw[f]at e;exact Ends.d e rfl
def EC.j.of(c:K.E s'.h)(i:K.Sg s')(g:s'.st=s.st)(d:s'.a=s.a)(e:s.b<=s'.b):K.j s s':=⟨⟨[],by rw[g];simp,λf h=>by cases h⟩,⟨[],by rw[d];simp⟩,c,i,e⟩
end
section
variable {w0 w1 w w':Wl} {P P2:Np} {v:Vl} {l:List Cm} {a2:Oa} {n2 c2:Nat} {L L2:List Cm}
def QD{w0}{w}:Df w0 w (λ_=>False) nS []:=⟨.inl ⟨rfl,rfl,rfl⟩,λ_ q=>q.elim,λ_=>rfl⟩
def Df.y{C:Np}(h:Df w0 w P v l)(k:zA C w w')(c:∀x,C x->¬P x):Df w0 w' P v l:=⟨h.k.on (λx b=>k.d x (h.a x b).2 (λq=>c x q b)),λx b=>⟨(h.a x b).1,Ba (h.a x b).2 k.l⟩,h.nil⟩
def Df.b(h:Df w0 w P v l)(d:w1.heap.size<=w0.heap.size):Df w1 w P v l:=⟨h.k,λx c=>⟨zP d (h.a x c).1,(h.a x c).2⟩,h.nil⟩
def Df.c(h:Df w0 w P (Sl a2 n2 c2) l):n2=l.length:=by
 rcases h.k with⟨e,a,_⟩|⟨g,cap,e,_⟩
 .injection e with _ e2 _;omega
 injection e with _ e2 _
def QE(w:Wl)(e:Cm)(b:w0.heap.size<=w.heap.size):Df w0 (w.alloc (Oc #[Iv e.e,Iv e.f,Iv e.c] 165)) (λx=>x=w.heap.size) (Sl (Sm w.heap.size 0) 1 1) [e]:=by
 let⟨z,p,lz⟩:=(um w #[Iv e.e,Iv e.f,Iv e.c] 165).x;refine⟨.inr ⟨w.heap.size,1,rfl,rfl,rfl,zD,λj a=>(z j).trans (by simp[vb,Ji]),λj a=>⟨?_,p j⟩⟩,λx d=>⟨oM,oM⟩,λh=>by cases h⟩;rw[z j];match j,a with
 |0,_=>rfl
 |1,_=>rfl
 |2,_=>rfl
def W5(ty:TypeId)(h:Df w0 w P v L)(n:Df w1 w P2 (Sl a2 n2 c2) L2)(y:L.length+L2.length<=16777216)(p:w0.heap.size<=w.heap.size) :
  ∃m t c' W',(Builtin.append_ #[42,42] ty #[v,Sl a2 n2 c2]).run prog w=.ok (Sl m t c') W'/\Df w0 W' (λx=>(P x\/w.heap.size<=x)/\x<W'.heap.size) (Sl m t c') (L++L2)/\zA P w W':=by
 obtain rfl:=n.c;have r:=utk n.k;by_cases o:0<L.length+L2.length
 .let⟨B,w',z,s,j,A⟩:=yN ty BL h.k r y;obtain⟨m,c',rfl⟩:=uj s;refine⟨m,_,c',w',z,⟨?_,λx i=>⟨i.1.elim (λq=>(h.a x q).1) (λq=>zP p q),i.2⟩,λe=>by rw[List.append_eq_nil_iff]at e;rw[e.1,e.2]at o;simp at o⟩,⟨j.os,j.g,j.f,j.l,j.d⟩⟩;have e:vb (L++L2)=vb L++vb L2:=by simp[vb]
  rw[zJ,e];exact s.a oM (λb q u=>⟨q,u⟩)
 obtain rfl:L = []:=Ic oM;obtain rfl:L2 = []:=Ic oM;rw[h.nil rfl];exact⟨_,_,_,_,Yd ty BL r,⟨.inl ⟨rfl,rfl,rfl⟩,λx i=>⟨i.1.elim (λq=>(h.a x q).1) (λq=>zP p q),i.2⟩,λ_=>rfl⟩,Cc⟩
end
def Zf{ops:Array Oper}{rest:List Oper}{o:Oper}{a:Act}{e:Exit->Act->World->Prop}{w0 w1 w:Wl}(n:o.guard=none)(s x:Operand)(q:o.op=.call { callee:=.builtin .append,args:=#[s,x],argTypes:=#[42,42] })
  {P j:Np} {v:Vl} {f:Oa} {i g:Nat} {L L2:List Cm} (t:a.eval s=v) (u:a.eval x=Sl f i g) (h:Df w0 w P v L) (d:Df w1 w j (Sl f i g) L2) (p:L.length+L2.length<=16777216) (y:w0.heap.size<=w.heap.size)
  (k:∀W' b c c',Hid (Df w0 W' (λx=>(P x\/w.heap.size<=x)/\x<W'.heap.size) (Sl b c c') (L++L2))->Hid (zA P w W')->wpList prog ops e rest (a.put o.dst (Sl b c c')) W'):wpList prog ops e (o::rest) a w:=by
 refine wpList_plain n λK m=>?_;let⟨b,c,c',w',r,l,d⟩:=W5 o.type h d p y;exact yO q t u r (m _ _ (k w' b c c' l d))
def yV{K:EC}(m:K.Ok){A:Np}{s}{q:Nat}{W}{P:Ew}(h:K.Wd A s W)(r:K.E s)(l:K.Sg s)(o:s.f=(q:Int))(t:q<K.n)(H:∀W',K.Wd A s.g W'->K.Kp W W'->K.E (s.g.q (K.R q) K.il K.I K.a)->K.Sg s.g->(s.b:Int)<K.d->P (Rt Bt) W')(G:∀W',K.k W'->K.Kp W W'->P (Rt Bf) W'):Cs 78 #[.pointer (Sm K.b 0)] W P:=by
 obtain⟨v,w,xc,D,lb,ps,h⟩:=h;have L:=ua h;have J:=ua m;let⟨z,p,lz⟩:=h.e.x;unfold EC.wd at z;have O:=l.st;have N:=m.f1;by_cases j:(s.b:Int)=K.d
 .have F:((s.b:Int)==K.d)=true:=by simp[j]
  have B:=ua (G ((W.drew).setCell (Ad K.b 9) (Iv 3)) ⟨s,v,w,xc,lb,ps,(by rw[r.u l o t j];exact((h.y Cj).set m rfl rfl).h (λ_ q=>q.elim)),.inl (by rw[r.u l o t j];rfl)⟩ (Cj.c (EC.c _ _)));go_enter func78,ntmps78;go_upto_region 1 with fail;go_region;go_wp2;exact B
 have F:((s.b:Int)==K.d)=false:=by simp[j]
 have C:=ua (H ((W.drew).setCell (Ad K.b 5) (Iv ((s.b:Int)+1))) ⟨v,w,xc,D,lb,ps,(h.y Cj).set m rfl rfl⟩ (Cj.c (EC.c _ _)) (r.a l o t j) (l.g j) oM);go_enter func78,ntmps78;go_upto_region 1 with fail;go_region;go_wp2;exact C
def Tz{K:EC}(r:K.Ok){A:Np}{s W}{P:Ew}{d:Int}(u:d=(s.st.length:Int))(h:K.Wd A s W)(B:K.Sg s)(y:∀W',K.Wd A s W'->K.Kp W W'->(s.st.length:Int)<K.a->P (Rt Bt) W')(w:∀W',(∀f,s.m f K.a=s.l 3)->(K.t=s.l 3->K.k W')->K.Kp W W'->P (Rt Bf) W'):Cs 79 #[.pointer (Sm K.b 0),Iv d] W P:=by
 subst u;obtain⟨g,i,xc,o,lb,ps,h⟩:=h;let⟨z,p,lz⟩:=h.e.x;unfold EC.wd at z;by_cases v:K.a<=(s.st.length:Int)
 .have j:=ua (w (W.setCell (Ad K.b 9) (Iv 3)) (λf=>Zp v) (λe=>⟨s,g,i,xc,lb,ps,(by rw[e];exact(h.set r rfl rfl).h (λ_ q=>q.elim)),.inl (by rw[e];rfl)⟩) (EC.c _ _));go_enter func79,ntmps79;go_wp2;exact j
 have n:=ua (y W ⟨g,i,xc,o,lb,ps,h⟩ Cc oM);go_enter func79,ntmps79;go_wp2;exact n
end
end Go.Proofs.YtmlblamikgkdcaaGreat
