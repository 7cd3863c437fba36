import Derived.Test.YtpghlcdkfldlpaaGreatT04
set_option linter.unusedVariables false
set_option linter.unusedSimpArgs false
set_option maxHeartbeats 40000000
set_option maxRecDepth 100000
namespace Go.Proofs.YtpghlcdkfldlpaaGreat
open Go.RowKit
open M (OpD ue Gr um EX ins)
structure IC where
 d:um
 a:Option Addr
 c:Nat
def icv(x:IC):List Value:=[.int .i64 x.d.kind,.int .i64 x.d.arg,.int .i64 x.d.to,.slice x.a x.d.sl x.c]
def ic(k a t:Int):IC:=⟨ins k a t,none,0⟩
def uH:List IC->List Value
 |[]=>[]
 |x::l=>icv x++uH l
theorem ubf x:(icv x).length=4:=rfl
theorem uaN l:(uH l).length=l.length*4:=by
 induction l with
 |nil=>rfl
 |cons x l a=>rw[uH,List.length_append,a,ubf];simp only[List.length_cons];omega
theorem uc4 l m:uH (l++m)=uH l++uH m:=by
 induction l with
 |nil=>rfl
 |cons x l a=>rw[List.cons_append,uH,uH,a,List.append_assoc]
theorem uaO:∀(l:List IC) (i j:Nat) (x:IC),l[i]?=some x->j<4->(uH l)[i*4+j]?=(icv x)[j]?
 |[],i,j,x,h,_=>by simp at h
 |y::l,0,j,x,h,hj=>by
  simp at h;subst h;rw[uH,List.getElem?_append_left (by rw[ubf];omega)];simp
 |y::l,i+1,j,x,h,hj=>by
  simp at h;rw[uH,List.getElem?_append_right (by rw[ubf];omega),ubf,show(i+1)*4+j-4=i*4+j by omega];exact uaO l i j x h hj
theorem uhQ l:∀u,u∈uH l->u.oneCell'=true:=by
 induction l with
 |nil=>intro u a;cases a
 |cons x l b =>
  intro u a;rw[uH]at a;rcases List.mem_append.1 a with h|h
  ·simp[icv]at h;rcases h with rfl|rfl|rfl|rfl<;>rfl
  exact b u h
def SetsA(S:Nat->Prop)(w:World)(l:List IC):Prop:=∀x,x∈l->Ints S .i64 w x.a x.d.sl x.d.set
theorem SetsA.on{S w w' l}(h:SetsA S w l)(k:Stay S w w'):SetsA S w' l:=λx a=>(h x a).on k
theorem SetsA.later{S w w' l}(h:SetsA S w l)(k:Below w.heap.size w w'):SetsA S w' l:=λx a=>(h x a).later k
theorem SetsA.wide{S a w l}(h:SetsA S w l)(k:∀b,S b->a b):SetsA a w l:=λx c=>(h x c).wide k
theorem SetsA.app{S w l m}(h:SetsA S w l)(k:SetsA S w m):SetsA S w (l++m):=λx a=>(List.mem_append.1 a).elim (h x) (k x)
theorem uhR:vV 31 79 4 48:=⟨Tryz.underlying31,⟨_,uq1,rfl⟩,by omega⟩
structure IRowP(w0 w:World)(v:Value)(l:List IC)(P S:Nat->Prop):Prop where
 own:OwnC P w v 4 l.length (uH l)
 sets:SetsA S w l
 p:∀b,P b->w0.heap.size<=b/\b<w.heap.size/\¬S b
 s:∀b,S b->w0.heap.size<=b/\b<w.heap.size
 bel:Below w0.heap.size w0 w
 ne:v=.slice none 0 0\/0<l.length
def IRow(w0 w:World)(v:Value)(l:List IC):Prop:=∃P S,IRowP w0 w v l P S
theorem uah{Q w w' v a n cs}(h:OwnC Q w v a n cs)(d:∀b,Q b->b<w.heap.size)(k:Below w.heap.size w w'):OwnC Q w' v a n cs :=
 h.on (λb c=>k.block b (d b c))
theorem IRowP.later{w0 w w' v l P S}(h:IRowP w0 w v l P S)(k:Below w.heap.size w w'):IRowP w0 w' v l P S :=
 ⟨uah h.own (λb a=>(h.p b a).2.1) k,h.sets.later k,λb a=>⟨(h.p b a).1,Nat.lt_of_lt_of_le (h.p b a).2.1 k.size,(h.p b a).2.2⟩,λb a=>⟨(h.s b a).1,Nat.lt_of_lt_of_le (h.s b a).2 k.size⟩,h.bel.trans (k.mono h.bel.size),h.ne⟩
theorem IRow.later{w0 w w' v l}(h:IRow w0 w v l)(k:Below w.heap.size w w'):IRow w0 w' v l:=let ⟨P,S,h⟩:=h;⟨P,S,h.later k⟩
theorem IRow.bel{w0 w v l}(h:IRow w0 w v l):Below w0.heap.size w0 w:=let ⟨_,_,h⟩:=h;h.bel
theorem IRow.shape{w0 w v l}(h:IRow w0 w v l):∃a c,v=.slice a l.length c:=by
 obtain⟨P,S,h⟩:=h;rcases h.own with⟨rfl,e,_⟩|⟨g,cap,rfl,_⟩
 ·exact⟨none,0,by rw[e]⟩
 exact⟨_,_,rfl⟩
theorem IRow.nil{w0 w}(h:Below w0.heap.size w0 w):IRow w0 w (.slice none 0 0) [] :=
 ⟨λ_=>False,λ_=>False,.inl ⟨rfl,rfl,rfl⟩,λx a=>absurd a (List.not_mem_nil),λb q=>q.elim,λb q=>q.elim,h,.inl rfl⟩
theorem IRow.since{w0 w1 w v l}(h:IRow w1 w v l)(k:Below w0.heap.size w0 w1):IRow w0 w v l:=by
 obtain⟨P,S,h⟩:=h;have:=k.size;exact⟨P,S,h.own,h.sets,λb a=>⟨by have:=(h.p b a).1;omega,(h.p b a).2⟩,λb a=>⟨by have:=(h.s b a).1;omega,(h.s b a).2⟩,ud k h.bel,h.ne⟩
theorem ujc{w0 w v l P S}(h:IRowP w0 w v l P S):Src Tryz.prog 4 31 v l.length (uH l) w:=by
 rcases h.own with⟨rfl,e,f⟩|⟨g,cap,rfl,m,k,i,c,n⟩
 ·have:l = []:=List.eq_nil_of_length_eq_zero e;subst this;exact Src.ofNil w Tryz.underlying31 0
 refine Src.ofSlice (P:=Tryz.prog) w Tryz.underlying31 ⟨g,0,none⟩ l.length cap _ (by rw[uaN]) (λj u b=>?_) (uhQ l);have d:=(List.getElem?_eq_some_iff.1 b).1;have e':(⟨g,0,none⟩:Addr).add j=⟨g,j,none⟩:=by
  by_cases a:j=0
  ·subst a;simp[Addr.add]
  simp[Addr.add,a]
 rw[e',c j d];exact b
theorem un1{w0 w1 w w' v y l L L2 P S m i}(h:IRowP w0 w1 v L P S)(a:IRowP w1 w y L2 m i)(x:OwnC (λb=>P b\/w.heap.size<=b) w' l 4 (L.length+L2.length) (uH L++uH L2))(d:Grew (λb=>P b) w w')(z:0<L.length+L2.length):IRow w0 w' l (L++L2):=by
 have E:=h.bel.size;have F:=a.bel.size;have G:=d.size;have o:Stay (λb=>S b\/i b) w w':=λb c=>d.block b (by
  rcases c with q|q
  ·have:=(h.s b q).2;omega
  ·exact(a.s b q).2) (λq=>by
  rcases c with r|r
  ·exact(h.p b q).2.2 r
  have f:=(h.p b q).2.1;have j:=(a.s b r).1;omega)
 refine⟨λb=>P b\/(w.heap.size<=b/\b<w'.heap.size),λb=>S b\/i b,?_,?_,?_,?_,?_,.inr (by rw[List.length_append];exact z)⟩
 ·rw[List.length_append,uc4];rcases x with q|⟨g,cap,e,A,f,j,n,k⟩
  ·exact .inl q
  refine .inr ⟨g,cap,e,?_,f,j,n,k⟩;rcases A with q|q
  ·exact .inl q
  obtain⟨u,B⟩:=Option.isSome_iff_exists.1 (k 0 (by omega)).1;exact .inr ⟨q,ub B⟩
 ·exact((((h.sets.wide (λb q=>Or.inl q)).later a.bel).app (a.sets.wide (λb q=>Or.inr q)))).on o
 ·rintro b (q|⟨D,C⟩)
  ·have f:=h.p b q;refine⟨f.1,by omega,λr=>?_⟩;rcases r with r|r
   ·exact f.2.2 r
   have:=(a.s b r).1;omega
  refine⟨by omega,C,λr=>?_⟩;rcases r with r|r
  ·have:=(h.s b r).2;omega
  have:=(a.s b r).2;omega
 ·rintro b (q|q)
  ·have:=h.s b q;exact⟨this.1,by omega⟩
  have:=a.s b q;exact⟨by omega,by omega⟩
 have c:=ud h.bel a.bel;exact⟨d.os.trans c.os,d.tape.trans c.tape,d.output.trans c.output,Nat.le_trans c.size d.size,λb t=>(d.block b (by omega) (λq=>by have:=(h.p b q).1;omega)).trans (c.block b t)⟩
theorem ubg{w x g j news t h e}ty(b:vV t e g j)(a:Src Tryz.prog g h x 0 news w) :
  (Builtin.append_ #[t,h] ty #[.slice none 0 0,x]).run Tryz.prog w=.ok (.slice none 0 0) w:=by
 obtain⟨z,k,q⟩:=b.info;obtain⟨i,l,f⟩:=Option.map_eq_some_iff.1 k;simp only[Prod.mk.injEq]at f;obtain⟨o,m,p⟩:=f;have c:=a.cells;rw[<-m]at c;rcases a.kind with⟨n,d⟩|d<;>simp[Builtin.append_,run_underlying b.und,run_underlying d,sizeOf,typeInfo,l,a.len,c]
theorem ujd{w0 w1 w v y L L2}ty(h:IRow w0 w1 v L)(a:IRow w1 w y L2)(l:L.length+L2.length<=16777216) :
  ∃c w',(Builtin.append_ #[31,31] ty #[v,y]).run Tryz.prog w=.ok c w'/\IRow w0 w' c (L++L2):=by
 obtain⟨P,S,h⟩:=h;obtain⟨r,s,a⟩:=a;by_cases u:L.length+L2.length=0
 ·have d:L = []:=List.eq_nil_of_length_eq_zero (by omega);have f:L2 = []:=List.eq_nil_of_length_eq_zero (by omega);subst d f;have j:=h.ne.elim id (λq=>absurd q (by simp));subst j;exact⟨_,_,ubg ty uhR (ujc a),IRow.nil (ud h.bel a.bel)⟩
 obtain⟨c,w',m,n,o,x⟩:=yX ty uhR (uah h.own (λb k=>(h.p b k).2.1) a.bel) (ujc a) l (λe=>by
  by_cases q:0<L2.length
  ·exact q
  rcases h.own with⟨_,t,_⟩|⟨g,cap,i,_⟩
  ·omega
  rw[i]at e;cases e)
 exact⟨c,w',m,un1 h a n o (by omega)⟩
theorem uaP{ops:Array Oper}{rest:List Oper}{o:Oper}{a:Act}{f:Exit->Act->World->Prop}{w:World}(l:o.guard=none)(s x:Operand)(n:o.op=.call { callee:=.builtin .append,args:=#[s,x],argTypes:=#[31,31] })
  {w0 w1:World} {v y:Value} {L L2:List IC} (q:a.eval s=v) (r:a.eval x=y) (h:IRow w0 w1 v L) (i:IRow w1 w y L2) (m:L.length+L2.length<=16777216)
  (k:∀w' d e b c,Hid (d=L++L2)->Hid (e=d.length)->Hid (IRow w0 w' (.slice b e c) d)->wpList Tryz.prog ops f rest (a.put o.dst (.slice b e c)) w'):wpList Tryz.prog ops f (o::rest) a w:=by
 refine wpList_plain l λK j=>?_
 obtain⟨t,w',p,g⟩:=ujd o.type h i m;obtain⟨b,c,rfl⟩:=g.shape;unfold Oper.wp execOp;simp only[n,resolve,invoke,builtin,Sem.run_bind,Sem.run_pure,Result.andThen_ok,List.map_toArray,List.map_cons,List.map_nil,q,r,p];exact j _ _ (k w' (L++L2) _ b c rfl rfl g)
theorem urY{ops:Array Oper}{o:Oper}{a:Act}{w:World}{K:Act->World->Prop}{g:Exit->Act->World->Prop}{E:Prop}(j:o.guard=none)(s x:Operand)(m:o.op=.call { callee:=.builtin .append,args:=#[s,x],argTypes:=#[31,31] })
  {w0 w1:World} {v y:Value} {L L2:List IC} (p:a.eval s=v) (r:a.eval x=y) (h:IRow w0 w1 v L) (i:IRow w1 w y L2) (l:L.length+L2.length<=16777216)
  (k:∀w' d e b c,Hid (d=L++L2)->Hid (e=d.length)->Hid (IRow w0 w' (.slice b e c) d)->K (a.put o.dst (.slice b e c)) w'):if Region.wanted o (yielded ops a.tmps)=true then Oper.wp Tryz.prog o a w K g else E:=by
 have q:Region.wanted o (yielded ops a.tmps)=true:=by simp[Region.wanted,j]
 rw[if_pos q];obtain⟨t,w',n,f⟩:=ujd o.type h i l;obtain⟨b,c,rfl⟩:=f.shape;unfold Oper.wp execOp;simp only[m,resolve,invoke,builtin,Sem.run_bind,Sem.run_pure,Result.andThen_ok,List.map_toArray,List.map_cons,List.map_nil,p,r,n];exact k w' (L++L2) _ b c rfl rfl f
theorem uje{w0 w x S}(h:Below w0.heap.size w0 w)(m:Ints S .i64 w x.a x.d.sl x.d.set)(g:∀b,S b->w0.heap.size<=b/\b<w.heap.size) :
  IRow w0 (w.alloc (.cells #[.int .i64 x.d.kind,.int .i64 x.d.arg,.int .i64 x.d.to,.slice x.a x.d.sl x.c] 79)) (.slice (some ⟨w.heap.size,0,none⟩) 1 1) [x]:=by
 have f:(w.alloc (.cells #[.int .i64 x.d.kind,.int .i64 x.d.arg,.int .i64 x.d.to,.slice x.a x.d.sl x.c] 79)).heap.size=w.heap.size+1:=by simp
 have hb':=h.size;have i:∀j,j<4->(w.alloc (.cells #[.int .i64 x.d.kind,.int .i64 x.d.arg,.int .i64 x.d.to,.slice x.a x.d.sl x.c] 79)).cell? ⟨w.heap.size,j,none⟩=(icv x)[j]?:=λj e=>by
  match j,e with
  |0,_=>exact cN w.heap.size rfl rfl
  |1,_=>exact cN w.heap.size rfl rfl
  |2,_=>exact cN w.heap.size rfl rfl
  |3,_=>exact cN w.heap.size rfl rfl
  |j+4,e=>omega
 refine⟨λb=>b=w.heap.size,S,?_,?_,?_,?_,?_,.inr (by simp)⟩
 ·refine .inr ⟨w.heap.size,1,rfl,rfl,rfl,Nat.le_refl _,λj e=>?_,λj e=>⟨?_,?_⟩⟩
  ·have hj':j<4:=(by simpa[uH,icv] using e);rw[i j hj',uH,uH,List.append_nil]
  ·rw[i j (by omega)];match j,e with
   |0,_=>rfl
   |1,_=>rfl
   |2,_=>rfl
   |3,_=>rfl
   |j+4,e=>omega
  exact uaE w _ 79 w.heap.size j (Nat.le_refl _) (by rw[f];omega)
 ·intro y k;simp at k;subst k;exact m.later (uf w _)
 ·rintro b rfl;exact⟨hb',by rw[f];omega,λq=>by have:=(g _ q).2;omega⟩
 ·intro b l;have:=g b l;exact⟨this.1,by rw[f];omega⟩
 exact ud h (uf w _)
theorem xe{w0 w}k a t(c:Below w0.heap.size w0 w):IRow w0 (w.alloc (.cells #[.int .i64 k,.int .i64 a,.int .i64 t,.slice none 0 0] 79)) (.slice (some ⟨w.heap.size,0,none⟩) 1 1) [ic k a t] :=
 uje (x:=ic k a t) (S:=λ_=>False) c (.inl rfl) (λb q=>q.elim)
def uV(k:IntKind)(S:Nat->Int)(n:Nat):List Value:=(List.range n).map λi=>.int k (S i)
theorem kA k S n:(uV k S n).length=n:=by simp[uV]
theorem ueu{k S n i}(h:i<n):(uV k S n)[i]?=some (.int k (S i)):=by simp[uV,h]
theorem ukc k S n:∀u∈uV k S n,u.oneCell'=true:=by
 intro u a;obtain⟨i,_,rfl⟩:=List.mem_map.1 a;rfl
theorem Ints.src{Q k w x n c S g e}(i:Tryz.prog.underlying g=some (.slice e))(h:Ints Q k w (some x) n S):Src Tryz.prog 1 g (.slice (some x) n c) n (uV k S n) w:=by
 refine Src.ofSlice (P:=Tryz.prog) w i x n c (uV k S n) (by rw[kA,Nat.mul_one]) (λj u d=>?_) (ukc k S n);have f:j<n:=by have:=(List.getElem?_eq_some_iff.1 d).1;rwa [kA]at this
 rw[ueu f]at d;cases d;rcases h with a|⟨b,off,e,_,h⟩
 ·omega
 cases e;have e':(⟨b,off,none⟩:Addr).add j=⟨b,off+j,none⟩:=by
  by_cases a:j=0
  ·subst a;simp[Addr.add]
  simp[Addr.add,a]
 rw[e'];exact h j f
theorem OwnC.ints{Q k w v n S}(h:OwnC Q w v 1 n (uV k S n)):∃a c,v=.slice a n c/\Ints Q k w a n S:=by
 rcases h with⟨rfl,rfl,_⟩|⟨g,cap,rfl,e,f,_,d,_⟩
 ·exact⟨none,0,rfl,.inl rfl⟩
 refine⟨_,_,rfl,.inr ⟨g,0,rfl,e,λi b=>?_⟩⟩;rw[Nat.zero_add,d i (by rw[kA];exact b),ueu b]
theorem Grew.below{Q w0 w w'}(h:Grew Q w w')(a:Below w0.heap.size w0 w)(d:∀b,b<w0.heap.size->¬Q b):Below w0.heap.size w0 w' :=
 ⟨h.os.trans a.os,h.tape.trans a.tape,h.output.trans a.output,Nat.le_trans a.size h.size,λb c=>(h.block b (Nat.lt_of_lt_of_le c a.size) (d b c)).trans (a.block b c)⟩
theorem ukd w g c:OwnC (λb=>b=g) w (.slice (some ⟨g,0,none⟩) 0 0) c 0 [] :=
 .inr ⟨g,0,rfl,rfl,by simp,Nat.le_refl _,λj a=>absurd a (Nat.not_lt_zero _),λj a=>by simp at a⟩
theorem unU{x n c m}(h:Value.slice (some x) n c=.slice none 0 0):0<m:=by injection h with h;cases h
theorem uke{k t w W j n S}(h:OwnC (λb=>b=w.heap.size\/(w.alloc (.cells #[] t)).heap.size<=b) W j 1 (0+n) ([]++uV k S n))(f:Grew (λb=>b=w.heap.size) (w.alloc (.cells #[] t)) W)(o:W.heap.size<=(w.alloc (.cells #[] t)).heap.size+1) :
  CpS (λw' a=>Ints (New w w') k w' a n S) n w (.returned j) W:=by
 rw[Nat.zero_add,List.nil_append]at h;have i:=f.below (uf w _) (λb i e=>by omega);simp only[World.size_alloc]at h o;have p:=f.size;simp only[World.size_alloc]at p;refine⟨?_,i,(uaE w _ t).grew f⟩;obtain⟨a,c,e,d⟩:=h.ints;by_cases g:n=0
 ·exact⟨a,c,by rw[e],.inl g⟩
 rcases d with m|⟨b,off,l,q,d⟩
 ·exact absurd m g
 exact⟨a,c,by rw[e],.inr ⟨b,off,l,⟨by omega,ub (d 0 (by omega))⟩,d⟩⟩
theorem uc2 Q a n c S w(f:Ints Q .i64 w a n S)(q:n<=1048576) :
  Calls Tryz.prog 106 #[.slice a n c] w (CpS (λw' a=>Ints (New w w') .i64 w' a n S) n w):=by
 have r:∀(w:World) (a:Option Addr) (n c d b:Nat),(binOp .eql 34 (.slice a n c) (.slice none d b)).run Tryz.prog w=.ok (.bool a.isNone) w:=λw a n c d b=>Lib.run_eql_slice_nil w _ _ a n c d b Tryz.underlying34
 cases a with
 |none =>
  have p:n=0:=by
   rcases f with h|⟨_,_,e,_⟩
   ·exact h
   cases e
  subst p;go_enter Tryz.func106,Tryz.ntmps106;go_wp2;go_ret;exact⟨⟨none,0,rfl,.inl rfl⟩,Below.refl _ _,Soft.refl _⟩
 |some x =>
  have m:=ua f;go_enter Tryz.func106,Tryz.ntmps106;go_wp2_with (at_builtin;refine uhN rfl _ _ 34 34 rfl rfl rfl elem34 (ukd _ w.heap.size 1) (Ints.src Tryz.underlying34 (m.later (uf w _))) (by omega) unU ?_;intro s W i g j;have l:Hid _:=i;have k:Hid _:=g;have o:Hid _:=j;clear i g j);go_ret;exact uke l k o
theorem upP{ops:Array Oper}{rest:List Oper}{o:Oper}{a:Act}{r:Exit->Act->World->Prop}{w:World}(G:o.guard=none)(s x:Operand)(L:o.op=.call { callee:=.builtin .append,args:=#[s,x],argTypes:=#[34,34] })
  {Q:Nat->Prop} {j:Option Addr} {n c:Nat} {S:Nat->Int} (O:a.eval s=.slice none 0 0) (P:a.eval x=.slice j n c) (t:Ints Q .i64 w j n S) (W:n<=1048576)
  (k:∀w' d f,Hid (Ints (New w w') .i64 w' d n S)->Hid (Below w.heap.size w w')->wpList Tryz.prog ops r rest (a.put o.dst (.slice d n f)) w'):wpList Tryz.prog ops r (o::rest) a w:=by
 refine wpList_plain G λK F=>?_
 have l:Src Tryz.prog 1 34 (.slice j n c) n (uV .i64 S n) w:=by
  cases j with
  |some y=>exact t.src Tryz.underlying34
  |none =>
   have m:n=0:=by
    rcases t with h|⟨_,_,e,_⟩
    ·exact h
    cases e
   subst m;exact Src.ofNil w Tryz.underlying34 c
 have U:∃d f w',(Builtin.append_ #[34,34] o.type #[.slice none 0 0,.slice j n c]).run Tryz.prog w=.ok (.slice d n f) w'/\Ints (New w w') .i64 w' d n S/\Below w.heap.size w w':=by
  by_cases m:n=0
  ·subst m;obtain⟨z,H,Z⟩:=elem34.info;obtain⟨i,I,A⟩:=Option.map_eq_some_iff.1 H;simp only[Prod.mk.injEq]at A;obtain⟨X,R,Y⟩:=A;have g:=l.cells;rw[<-R]at g;refine⟨none,0,w,?_,.inl rfl,Below.refl _ _⟩;rcases l.kind with⟨V,J⟩|J<;>simp[Builtin.append_,run_underlying elem34.und,sizeOf,typeInfo,I,l.len,g]
  obtain⟨v',w',p,B,T,k3⟩:=yX (Q:=λ_=>False) (v:=.slice none 0 0) (cs:=[]) (n:=0) o.type elem34 (.inl ⟨rfl,rfl,rfl⟩) l (by omega) (λ_=>by omega);rw[Nat.zero_add,List.nil_append]at B;obtain⟨d,f,rfl,E⟩:=B.ints;have u:=T.below (Below.refl _ w) (λb u q=>q);refine⟨d,f,w',p,?_,u⟩;rcases E with q|⟨b,off,e,N,g⟩
  ·exact .inl q
  exact .inr ⟨b,off,e,⟨N.elim (λq=>q.elim) id,ub (g 0 (by omega))⟩,g⟩
 obtain⟨d,f,w',p,C,D⟩:=U;unfold Oper.wp execOp;simp only[L,resolve,invoke,builtin,Sem.run_bind,Sem.run_pure,Result.andThen_ok,List.map_toArray,List.map_cons,List.map_nil,O,P,p];exact F _ _ (k w' d f C D)
def rg(M:Nat->Bool):Nat->List Int
 |0=>[]
 |b+1=>rg M b++((if M b&&(b==0||!M (b-1)) then [(b:Int)] else [])++(if M b&&(b==255||!M (b+1)) then [(b:Int)] else []))
theorem yU M b:rg M (b+1)=rg M b++((if M b&&(b==0||!M (b-1)) then [(b:Int)] else [])++(if M b&&(b==255||!M (b+1)) then [(b:Int)] else [])):=rfl
theorem uiV M b:(rg M b).length<=2*b:=by
 induction b with
 |zero=>exact Nat.le_refl _
 |succ b e =>
  rw[rg,List.length_append,List.length_append];have:∀(c:Bool),(if c then [(b:Int)] else []).length<=1:=λc=>by cases c<;>simp
  have a:=this (M b&&(b==0||!M (b-1)));have d:=this (M b&&(b==255||!M (b+1)));omega
def vM(a:List Int):List Value:=a.map (λz=>.int .i64 z)
def OwnL(w0 w:World)(v:Value)(l:List Int):Prop:=∃P,OwnC P w v 1 l.length (vM l)/\(∀b,P b->w0.heap.size<=b/\b<w.heap.size)/\Below w0.heap.size w0 w
theorem OwnL.bel{w0 w v l}(h:OwnL w0 w v l):Below w0.heap.size w0 w:=let ⟨_,_,_,h⟩:=h;h
theorem OwnL.nil{w0 w}(h:Below w0.heap.size w0 w):OwnL w0 w (.slice none 0 0) []:=⟨λ_=>False,.inl ⟨rfl,rfl,rfl⟩,λb q=>q.elim,h⟩
theorem OwnL.shape{w0 w v l}(h:OwnL w0 w v l):∃a c,v=.slice a l.length c:=by
 obtain⟨P,h,_⟩:=h;exact ul h
theorem unz{w0 w1 v l}z ty(h:OwnL w0 w1 v l)(A:l.length<=4096) :
  ∃f w',(Builtin.append_ #[34,34] ty #[v,.slice (some ⟨w1.heap.size,0,none⟩) 1 1]).run Tryz.prog (w1.alloc (.cells #[.int .i64 z] 3))=.ok f w'/\OwnL w0 w' f (l++[z]):=by
 obtain⟨P,s,i,c⟩:=h;have b1:=uf w1 (.cells #[.int .i64 z] 3);have x:Src Tryz.prog 1 34 (.slice (some ⟨w1.heap.size,0,none⟩) 1 1) 1 [.int .i64 z] (w1.alloc (.cells #[.int .i64 z] 3)):=by
  refine Src.ofSlice (P:=Tryz.prog) _ Tryz.underlying34 ⟨w1.heap.size,0,none⟩ 1 1 [.int .i64 z] rfl (λj u a=>?_) (λu a=>?_)
  ·match j,a with
   |0,a=>simpa[Addr.add] using (cN w1.heap.size rfl a:(w1.alloc (.cells #[.int .i64 z] 3)).cell? ⟨w1.heap.size,0,none⟩=some u)
   |j+1,a=>simp at a
  simp at a;subst a;rfl
 obtain⟨f,w',w,y,d,D⟩:=yX ty elem34 (s.on (λb c=>b1.block b (i b c).2)) x (by omega) (λ_=>Nat.one_pos);refine⟨f,w',w,λb=>(P b\/(w1.alloc (.cells #[.int .i64 z] 3)).heap.size<=b)/\b<w'.heap.size,?_,?_,?_⟩
 ·have e:vM (l++[z])=vM l++[.int .i64 z]:=by simp[vM]
  rw[e,List.length_append,List.length_singleton];rcases y with q|⟨g,cap,e,t,n,o,p,k⟩
  ·exact .inl q
  refine .inr ⟨g,cap,e,⟨t,?_⟩,n,o,p,k⟩;obtain⟨u,a⟩:=Option.isSome_iff_exists.1 (k 0 (by omega)).1;exact ub a
 ·rintro b ⟨q|q,m⟩
  ·exact⟨(i b q).1,m⟩
  have:=c.size;have:=b1.size;exact⟨by omega,m⟩
 have B:=c.size;have C:=b1.size;exact⟨d.os.trans (b1.os.trans c.os),d.tape.trans (b1.tape.trans c.tape),d.output.trans (b1.output.trans c.output),by have:=d.size;omega,λb r=>(d.block b (by omega) (λq=>by have:=(i b q).1;omega)).trans ((b1.block b (by omega)).trans (c.block b r))⟩
theorem uaL{ops:Array Oper}{rest:List Oper}{o:Oper}{a:Act}{f:Exit->Act->World->Prop}(j:o.guard=none)(s x:Operand)(n:o.op=.call { callee:=.builtin .append,args:=#[s,x],argTypes:=#[34,34] })
  {w0 w1:World} {v:Value} {l:List Int} {z:Int} (q:a.eval s=v) (r:a.eval x=.slice (some ⟨w1.heap.size,0,none⟩) 1 1) (h:OwnL w0 w1 v l) (m:l.length<=4096)
  (k:∀w' d e b c,Hid (d=l++[z])->Hid (e=d.length)->Hid (OwnL w0 w' (.slice b e c) d)->wpList Tryz.prog ops f rest (a.put o.dst (.slice b e c)) w'):wpList Tryz.prog ops f (o::rest) a (w1.alloc (.cells #[.int .i64 z] 3)):=by
 refine wpList_plain j λK i=>?_
 obtain⟨t,w',p,g⟩:=unz z o.type h m;obtain⟨b,c,rfl⟩:=g.shape;unfold Oper.wp execOp;simp only[n,resolve,invoke,builtin,Sem.run_bind,Sem.run_pure,Result.andThen_ok,List.map_toArray,List.map_cons,List.map_nil,q,r,p];exact i _ _ (k w' (l++[z]) _ b c rfl rfl g)
def uj3(w:World)(a:Option Addr)(M:Nat->Bool):Prop:=∃b,a=some ⟨b,0,none⟩/\∀i,i<256->w.cell? ⟨b,i,none⟩=some (.bool (M i))
def ub4(l:List Int)(w:World)(e:Ending)(w':World):Prop:=∃a c,e=.returned (.slice a l.length c)/\OwnL w w' (.slice a l.length c) l
def rgI(w:World)(M:Nat->Bool)(b a:Value)(wr:World):Prop:=∃k:Nat,k<=256/\a=.int .i64 (k:Int)/\OwnL w wr b (rg M k)
theorem qr a M w(c:uj3 w a M):Calls Tryz.prog 124 #[.slice a 256 256] w (ub4 (rg M 256) w):=by
 obtain⟨b,rfl,H⟩:=c;have T:=ua H;have lb:=ub (H 0 (by omega));clear H;go_enter Tryz.func124,Tryz.ntmps124;go_wp2;go_loopw [3,4] (λS J wr=>rgI w M S J wr) (λS J _=>256-(intOf J).toNat)
 case atStart=>exact⟨0,by omega,rfl,OwnL.nil (Below.refl _ _)⟩
 case round =>
  obtain⟨k,hk,rfl,G⟩:=hrel;obtain⟨Y,Z,rfl⟩:=G.shape;have X:=uiV M k;obtain⟨on,I⟩:=nm ((rg M k).length);rw[I]at G X ⊢;have h:=ua G;have r:=ua I;have m:Hid (∀W i,Below w.heap.size w W->i<256->W.cell? ⟨b,i,none⟩=some (.bool (M i))):=λW i U V=>uc (T.out i V) U
  clear G I;by_cases ab:k<256
  ·have hlt':(k:Int)<256:=(by omega);have ac:=Nat.lt_of_lt_of_le lb h.out.bel.size;rcases Nat.eq_zero_or_pos k with Q|Q
   ·subst Q;have u:=m.out wr (0) h.out.bel (by omega);have x:=m.out wr (1) h.out.bel (by omega);cases c:M (0) with
    |false =>
     rw[c]at u;have g:Hid (rg M (0+1)=rg M (0)):=(by show _=_;rw[yU M (0)];simp[c]);clear c;go_wp2;go_roundw
     case rel =>
      refine⟨(0)+1,by omega,by go_num,?_⟩;rw[g.out];exact h.out
     case measure=>first|(simp[intOf];done)|(simp[intOf];omega)
    |true =>
     rw[c]at u;cases d:M (1) with
     |true =>
      rw[d]at x;have s:=ua c;have t:=ua d;have g:Hid (rg M (0+1)=rg M (0)++[((0:Nat):Int)]):=(by show _=_;rw[yU M (0)];simp[c,d]);clear c d;go_wp2_with (at_builtin;refine uaL (l:=rg M (0)) rfl _ _ rfl rfl rfl h.out (by rw[r.out];omega) ?_;intro W L n z A q y f;have o:=m.out W (0) f.out.bel (by omega);have v:=m.out W (1) f.out.bel (by omega);have C:=ub o;rw[s.out]at o;rw[t.out]at v);go_roundw
      case rel =>
       refine⟨(0)+1,by omega,by go_num,?_⟩;rw[g.out];exact q.out▸f.out
      case measure=>first|(simp[intOf];done)|(simp[intOf];omega)
     |false =>
      rw[d]at x;have s:=ua c;have t:=ua d;have g:Hid (rg M (0+1)=rg M (0)++([((0:Nat):Int)]++[((0:Nat):Int)])):=(by show _=_;rw[yU M (0)];simp[c,d]);clear c d;go_wp2_with (first|(at_builtin;refine uaL (l:=rg M (0)) rfl _ _ rfl rfl rfl h.out (by rw[r.out];omega) ?_;intro W L n z A q y f;have o:=m.out W (0) f.out.bel (by omega);have v:=m.out W (1) f.out.bel (by omega);have C:=ub o;rw[s.out]at o;rw[t.out]at v)|(at_builtin;refine uaL (l:=L) rfl _ _ rfl rfl rfl f.out (by rw[q.out,List.length_append,r.out];simp;omega) ?_;intro W2 L2 R O P D N E));go_roundw
      case rel =>
       refine⟨(0)+1,by omega,by go_num,?_⟩;have e:rg M ((0)+1)=L2:=(by rw[g.out,D.out,q.out,List.append_assoc];rfl);rw[e];exact E.out
      case measure=>first|(simp[intOf];done)|(simp[intOf];omega)
   obtain⟨j,rfl⟩:∃j,k=j+1:=⟨k-1,by omega⟩;have e0:((j:Int)+1==0)=false:=(by simp;omega);by_cases B:j=254
   ·subst B;have u:=m.out wr (255) h.out.bel (by omega);have F:=m.out wr (254) h.out.bel (by omega);cases c:M (255) with
    |false =>
     rw[c]at u;have g:Hid (rg M (255+1)=rg M (255)):=(by show _=_;rw[yU M (255)];simp[c]);clear c;go_wp2;go_roundw
     case rel =>
      refine⟨(255)+1,by omega,by go_num,?_⟩;rw[g.out];exact h.out
     case measure=>first|(simp[intOf];done)|(simp[intOf];omega)
    |true =>
     rw[c]at u;cases p:M (254) with
     |true =>
      rw[p]at F;have s:=ua c;have g:Hid (rg M (255+1)=rg M (255)++[((255:Nat):Int)]):=(by show _=_;rw[yU M (255)];simp[c,p]);clear c p;go_wp2_with (at_builtin;refine uaL (l:=rg M (255)) rfl _ _ rfl rfl rfl h.out (by rw[r.out];omega) ?_;intro W L n z A q y f;have o:=m.out W (255) f.out.bel (by omega);have C:=ub o);go_roundw
      case rel =>
       refine⟨(255)+1,by omega,by go_num,?_⟩;rw[g.out];exact q.out▸f.out
      case measure=>first|(simp[intOf];done)|(simp[intOf];omega)
     |false =>
      rw[p]at F;have s:=ua c;have g:Hid (rg M (255+1)=rg M (255)++([((255:Nat):Int)]++[((255:Nat):Int)])):=(by show _=_;rw[yU M (255)];simp[c,p]);clear c p;go_wp2_with (first|(at_builtin;refine uaL (l:=rg M (255)) rfl _ _ rfl rfl rfl h.out (by rw[r.out];omega) ?_;intro W L n z A q y f;have o:=m.out W (255) f.out.bel (by omega);have C:=ub o;rw[s.out]at o)|(at_builtin;refine uaL (l:=L) rfl _ _ rfl rfl rfl f.out (by rw[q.out,List.length_append,r.out];simp;omega) ?_;intro W2 L2 R O P D N E));go_roundw
      case rel =>
       refine⟨(255)+1,by omega,by go_num,?_⟩;have e:rg M ((255)+1)=L2:=(by rw[g.out,D.out,q.out,List.append_assoc];rfl);rw[e];exact E.out
      case measure=>first|(simp[intOf];done)|(simp[intOf];omega)
   have e5:((j:Int)+1==255)=false:=(by simp;omega);have aa:(j:Int)+1+1<256:=(by omega);have u:=m.out wr (j+1) h.out.bel (by omega);have F:=m.out wr (j) h.out.bel (by omega);have x:=m.out wr (j+1+1) h.out.bel (by omega);cases c:M (j+1) with
   |false =>
    rw[c]at u;have g:Hid (rg M (j+1+1)=rg M (j+1)):=(by show _=_;rw[yU M (j+1)];simp[B,c]);clear c;go_wp2;go_roundw
    case rel =>
     refine⟨(j+1)+1,by omega,by go_num,?_⟩;rw[g.out];exact h.out
    case measure=>first|(simp[intOf];done)|(simp[intOf];omega)
   |true =>
    rw[c]at u;cases p:M (j) with
    |true =>
     rw[p]at F;cases d:M (j+1+1) with
     |true =>
      rw[d]at x;have s:=ua c;have t:=ua d;have g:Hid (rg M (j+1+1)=rg M (j+1)):=(by show _=_;rw[yU M (j+1)];simp[B,c,p,d]);clear c p d;go_wp2;go_roundw
      case rel =>
       refine⟨(j+1)+1,by omega,by go_num,?_⟩;rw[g.out];exact h.out
      case measure=>first|(simp[intOf];done)|(simp[intOf];omega)
     |false =>
      rw[d]at x;have s:=ua c;have t:=ua d;have g:Hid (rg M (j+1+1)=rg M (j+1)++[((j+1:Nat):Int)]):=(by show _=_;rw[yU M (j+1)];simp[B,c,p,d]);clear c p d;go_wp2_with (at_builtin;refine uaL (l:=rg M (j+1)) rfl _ _ rfl rfl rfl h.out (by rw[r.out];omega) ?_;intro W L n z A q y f;have o:=m.out W (j+1) f.out.bel (by omega);have v:=m.out W (j+1+1) f.out.bel (by omega);have C:=ub o);go_roundw
      case rel =>
       refine⟨(j+1)+1,by omega,by go_num,?_⟩;rw[g.out];exact q.out▸f.out
      case measure=>first|(simp[intOf];done)|(simp[intOf];omega)
    |false =>
     rw[p]at F;cases d:M (j+1+1) with
     |true =>
      rw[d]at x;have s:=ua c;have t:=ua d;have g:Hid (rg M (j+1+1)=rg M (j+1)++[((j+1:Nat):Int)]):=(by show _=_;rw[yU M (j+1)];simp[B,c,p,d]);clear c p d;go_wp2_with (at_builtin;refine uaL (l:=rg M (j+1)) rfl _ _ rfl rfl rfl h.out (by rw[r.out];omega) ?_;intro W L n z A q y f;have o:=m.out W (j+1) f.out.bel (by omega);have v:=m.out W (j+1+1) f.out.bel (by omega);have C:=ub o;rw[s.out]at o;rw[t.out]at v);go_roundw
      case rel =>
       refine⟨(j+1)+1,by omega,by go_num,?_⟩;rw[g.out];exact q.out▸f.out
      case measure=>first|(simp[intOf];done)|(simp[intOf];omega)
     |false =>
      rw[d]at x;have s:=ua c;have t:=ua d;have g:Hid (rg M (j+1+1)=rg M (j+1)++([((j+1:Nat):Int)]++[((j+1:Nat):Int)])):=(by show _=_;rw[yU M (j+1)];simp[B,c,p,d]);clear c p d;go_wp2_with (first|(at_builtin;refine uaL (l:=rg M (j+1)) rfl _ _ rfl rfl rfl h.out (by rw[r.out];omega) ?_;intro W L n z A q y f;have o:=m.out W (j+1) f.out.bel (by omega);have v:=m.out W (j+1+1) f.out.bel (by omega);have C:=ub o;rw[s.out]at o;rw[t.out]at v)|(at_builtin;refine uaL (l:=L) rfl _ _ rfl rfl rfl f.out (by rw[q.out,List.length_append,r.out];simp;omega) ?_;intro W2 L2 R O P D N E));go_roundw
      case rel =>
       refine⟨(j+1)+1,by omega,by go_num,?_⟩;have e:rg M ((j+1)+1)=L2:=(by rw[g.out,D.out,q.out,List.append_assoc];rfl);rw[e];exact E.out
      case measure=>first|(simp[intOf];done)|(simp[intOf];omega)
  obtain rfl:k=256:=by omega
  go_wp2;go_ret;exact⟨Y,Z,by rw[r.out];rfl,by rw[r.out];exact h.out⟩
def ucu(M:Nat->Bool)(m:Nat)(j:Nat):Value:=if j<m then .bool (M j) else .bool false
theorem udZ{t:TypeId}{w:World}{b n m:Nat}{M:Nat->Bool}(h:w.rowIs b t n (ucu M m)):(w.setCell ⟨b,m,none⟩ (.bool (M m))).rowIs b t n (ucu M (m+1)):=by
 refine(h.set m (.bool (M m))).congr λi _=>?_
 unfold ucu;by_cases e:i=m
 ·subst e;simp
 rw[if_neg e];by_cases a:i<m
 ·rw[if_pos a,if_pos (by omega)]
 rw[if_neg a,if_neg (by omega)]
theorem unA:(Tryz.prog.info? 4).map (λi=>(i.zero,i.size,i.bytes))=some (some (.bool false),1,1):=by kernel_rfl
def byI(w:World)(M:Nat->Bool)(a:Value)(wr:World):Prop :=
 ∃m:Nat,m<=256/\a=.int .i64 (m:Int)/\wr.rowIs w.heap.size 4 256 (ucu M m)/\Below w.heap.size w wr/\wr.heap.size=w.heap.size+1
theorem ucv Q v a l n f c x S h w(y:Ints Q .i64 w a n S)(z:Ints v .i64 w l f h)(T:n<=1048576)(U:f<=1048576) :
  Calls Tryz.prog 101 #[.slice a n c,.slice l f x] w (ub4 (rg (λb=>vA n S b||vA f h b) 256) w):=by
 have D:=run_make_row' (P:=Tryz.prog) 185 4 (.bool false) 1 Tryz.underlying185 unA rfl .i64 .i64 256 (by omega) (by omega);simp only[show((256:Nat):Int)=256 from rfl]at D;have G:=ua y;have H:=ua z;obtain⟨M,o⟩:∃M:Nat->Bool,M=λb:Nat=>vA n S b||vA f h b:=⟨_,rfl⟩
 have s:=ua o;rw[<-o];clear y z o;go_enter Tryz.func101,Tryz.ntmps101;go_wp2;go_loopw [6] (λr wr=>byI w M r wr) (λr _=>256-(intOf r).toNat)
 case atStart=>exact⟨0,by omega,rfl,(World.rowIs_made w _ 256 4).congr λi _=>by simp[ucu],(Below.refl _ w).alloc (Nat.le_refl _) _,by simp⟩
 case round =>
  obtain⟨m,hm,rfl,g,j,q⟩:=hrel;clear D;by_cases R:m<256
  ·have hlt':(m:Int)<256:=(by omega);have Y:=g.cell R;have Z:=g.frozen m;have E:=udZ g;have t:=ua E;have d:=ua j;have u:=ua q;clear g E j q;go_wp2_with fail;refine(uax Q a n c S m _ (G.later d) T).mono ?_;rintro e W ⟨rfl,O⟩;subst W;cases k:vA n S m with
   |true =>
    have p:Hid (M m=true):=(by show M m=true;rw[s.out];simp[k]);clear k;go_wp2;go_roundw
    case rel=>exact⟨m+1,by omega,by go_num,p.out▸t.out,uo d _ _ _ (Nat.le_refl _),by rw[uh];exact u⟩
    case measure=>simp[intOf];omega
   |false =>
    have p:Hid (M m=vA f h m):=(by show M m=_;rw[s.out];simp[k]);clear k;go_wp2_with fail;refine(uax v l f x h m _ (H.later d) U).mono ?_;rintro e W ⟨rfl,O⟩;subst W;rw[<-p.out];go_wp2;go_roundw
    case rel=>exact⟨m+1,by omega,by go_num,t,uo d _ _ _ (Nat.le_refl _),by rw[uh];exact u⟩
    case measure=>simp[intOf];omega
  obtain rfl:m=256:=by omega
  have d:=ua j;have I:Hid (uj3 wr (some ⟨w.heap.size,0,none⟩) M):=⟨w.heap.size,rfl,λi C=>by rw[g.cell C];simp[ucu,C]⟩;clear g j q;go_wp2_with fail;refine(qr _ M _ I).mono ?_;rintro e W ⟨L,N,rfl,A⟩;have J:=ua A;clear A;go_wp2;go_ret;obtain⟨P,V,F,X⟩:=J;have:=d.size;exact⟨L,N,rfl,P,V,λb B=>⟨by have:=F b B;omega,(F b B).2⟩,ud d X⟩
end Go.Proofs.YtpghlcdkfldlpaaGreat
