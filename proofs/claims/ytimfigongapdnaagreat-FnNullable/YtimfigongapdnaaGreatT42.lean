import Derived.Test.YtimfigongapdnaaGreatT41
import Derived.Test.YtimfigongapdnaaGreatT21
set_option linter.unusedVariables false
set_option linter.unusedSimpArgs false
set_option maxHeartbeats 40000000
set_option maxRecDepth 100000
namespace Go.Proofs.YtimfigongapdnaaGreat
open Go.RowKit
open M (OpD ug Gr)
theorem ukJ{Q R w w' v d n cs}(h:OwnC Q w v d n cs)(s:0<d)(k:Keep (λx=>x=R) w w')(p:∀b,Q b->b≠R):OwnC Q w' v d n cs:=by
 rcases h with e|⟨b,cap,e,m,g,i,o,l⟩
 ·exact .inl e
 have f:∀j,j<cap*d->w'.heap[b]?=w.heap[b]?:=λj c=>by
  obtain⟨u,r⟩:=Option.isSome_iff_exists.1 (l j c).1;exact k.block b (ud r) (p b m)
 have q:∀j,j<cs.length->j<cap*d:=λj c=>Nat.lt_of_lt_of_le c (by rw[g];exact Nat.mul_le_mul_right _ i)
 refine .inr ⟨b,cap,e,m,g,i,λj c=>(World.cell?_of_block (a:=⟨b,j,none⟩) (f j (q j c))).trans (o j c),λj c=>?_⟩;rw[World.cell?_of_block (a:=⟨b,j,none⟩) (f j c),World.frozen?_of_block (a:=⟨b,j,none⟩) (f j c)];exact l j c
structure BufR(u:Tp)(R j:Nat)(w0:World)(z:List Int)(v:Value)(wr:World):Prop where
 own:OwnC (λb=>w0.heap.size<=b) wr v 1 z.length (z.map (Value.int .u8))
 on:RdOn u R j w0 wr
 lt:R<w0.heap.size
theorem BufR.nil{u R j w0 wr}(h:RdOn u R j w0 wr)(a:R<w0.heap.size):BufR u R j w0 [] (.slice none 0 0) wr:=⟨.inl ⟨rfl,rfl,rfl⟩,h,a⟩
theorem BufR.next{u R j a w0 wr w' z v}(h:BufR u R j w0 z v wr)(k:RdOn u R a wr w'):BufR u R a w0 z v w' :=
 ⟨ukJ h.own (by omega) k.2 (λb q=>by have:=h.lt;omega),h.on.trans k,h.lt⟩
theorem BufR.quiet{u R j w0 wr w' z v}(h:BufR u R j w0 z v wr)(k:Keep (λ_=>False) wr w'):BufR u R j w0 z v w' :=
 h.next ⟨h.on.1.keep k (λ_ e=>e.elim),k.mono (λ_ e=>e.elim)⟩
theorem BufR.shape{u R j w0 wr z v}(h:BufR u R j w0 z v wr):∃a c,v=.slice a z.length c:=uk h.own
theorem ubj{Q w z a n c}(h:OwnC Q w (.slice a n c) 1 z.length (z.map (Value.int .u8))):n=z.length/\Ints Q .u8 w a z.length (lf z)/\z.length<=c:=by
 obtain⟨b,d,e⟩:=uk h;injection e with e1 e2 e3;subst e1 e2 e3;exact⟨rfl,yZ (by rw[uad];exact h),xA h⟩
theorem BufR.byt{u R j w0 wr z a n c}(h:BufR u R j w0 z (.slice a n c) wr):ukL z u R j w0 (.returned (.slice a n c)) wr:=by
 obtain⟨rfl,b,d⟩:=ubj h.own;exact⟨a,c,rfl,uae b,d,h.on⟩
theorem BufR.grow{u R j w0 W d z y v f}(a:BufR u R j w0 z v W)(g:OwnC (λb=>w0.heap.size<=b\/W.heap.size<=b) d f 1 (z.length+y.length) (z.map (Value.int .u8)++y.map (Value.int .u8)))(c:Grew (λb=>w0.heap.size<=b) W d):BufR u R j w0 (z++y) f d:=by
 have e:Keep (λb=>w0.heap.size<=b) W d:=⟨c.os,c.tape,c.output,c.size,c.block⟩;refine⟨?_,⟨a.on.1.keep e (λb q=>by have:=a.lt;omega),ubm a.on.2 e (λb q=>.inr q)⟩,a.lt⟩;rw[List.length_append,List.map_append];exact jw g (λb q=>q.elim id (λq=>Nat.le_trans a.on.2.size q))
theorem utg{ops:Array Oper}{rest:List Oper}{o:Oper}{a:Act}{f:Exit->Act->World->Prop}{u:Tp}{R j:Nat}{w0 W:World}(k:o.guard=none)(s x:Operand)(l:o.op=.call { callee:=.builtin .append,args:=#[s,x],argTypes:=#[22,22] }){z y:List Int}{v yv:Value}
  (n:a.eval s=v) (p:a.eval x=yv) (g:BufR u R j w0 z v W) (q:Src Tryz.prog 1 22 yv y.length (y.map (Value.int .u8)) W) (r:z.length+y.length<=16000000) (h:∀c d b,Hid (BufR u R j w0 (z++y) (.slice c (z.length+y.length) d) b)->wpList Tryz.prog ops f rest (a.put o.dst (.slice c (z.length+y.length) d)) b) :
  wpList Tryz.prog ops f (o::rest) a W:=by
 refine uaL k s x 22 22 l n p qw g.own q (by omega) ?_;intro w b m i t;have e:=g.grow m i;obtain⟨c,d,rfl⟩:=e.shape;rw[List.length_append]at e ⊢;exact h c d b e
theorem umd{ops:Array Oper}{rest:List Oper}{o:Oper}{a:Act}{b:Exit->Act->World->Prop}{u:Tp}{R j:Nat}{w0 W:World}(g:o.guard=none)(s x:Operand)(i:o.op=.call { callee:=.builtin .append,args:=#[s,x],argTypes:=#[22,22] }){z:List Int}{v:Value}{y:Int}
  (k:a.eval s=v) (l:a.eval x=.slice (some ⟨W.heap.size,0,none⟩) 1 1) (f:BufR u R j w0 z v W) (m:z.length<=15000000) (h:∀d e c,Hid (BufR u R j w0 (z++[y]) (.slice d (z.length+1) e) c)->wpList Tryz.prog ops b rest (a.put o.dst (.slice d (z.length+1) e)) c) :
  wpList Tryz.prog ops b (o::rest) a (W.alloc (.cells #[.int .u8 y] 5)) :=
 utg g s x i k l (f.quiet (Keep.alloc _ _ _)) (y:=[y]) (ufZ W y) (by simp;omega) h
section
open Go.RowKit
open M (OpD ug Gr TX b1 grp b1_size)
theorem Box.keepR{w w' b R c}(h:Box w b c)(k:Keep (λx=>x=R) w w')(a:b≠R):Box w' b c:=h.blk (k.block b h.x.2.2 a)
theorem ukO n S:(negT n S).size<=1200:=M.setT_size (ueL n S)
theorem ugV t{n S}(h:M.Canon n S)i:(jL t n S i).1.size<=1250:=by
 have a:=M.canon_len h;have b:=yf (S 0).toNat (t.v (t.n i));have c:=yf (S 1).toNat (t.v (t.n (t.n i)));have d:=ukO n S;have e:=jK t S n (t.n (t.n (t.n i))) ((n-2) / 2);have f:=M.setT_size h;have g:(⟨#[91,94]⟩:ByteArray).size=2:=rfl;unfold jL;generalize negT n S=u at *;split
 ·simp only[ByteArray.size_append,b1_size];omega
 split
 ·simp only[ByteArray.size_append,ByteArray.size_extract];omega
 split
 ·simp only[ByteArray.size_append,b1_size];omega
 show(M.setT n S).size<=_;omega
theorem jM(args:Array Value)(w:World):(callFunc 57 args).run Tryz.prog w=.ok (.enter 57 args) w:=by
 simp[callFunc,Tryz.func57,Tryz.f57,go_sem]
structure LM(Q:Nat->Prop)(ra la:Option Addr)(g:Gr)(b off N H:Nat)(B:Nat->OpD)(w:World):Prop where
 ops:∀i,i<N->OpC Q w b (off+i*3) (B i)
 gr:GramA Q w ra la g
 sz:H<=w.heap.size
section
variable (t:Tp) (g:Gr) (N:Nat) (B:Nat->OpD)
def LoC(lo m i:Nat)(s:ByteArray)(j:Nat):Prop :=
 s.size<=1300*(m-lo)/\∀(R:Nat) (Q:Nat->Prop) (a la:Option Addr) (d lc b off H:Nat),Q b->(∀b,Q b->b≠R/\b<H)->∀(l o c:Nat) (w:World),l+lo=m->o=off+lo*3->l<=c->LM Q a la g b off N H B w->RdA t R w i ->
  Calls Tryz.prog 57 #[.agg #[.slice a g.nr d,.slice la g.nb lc],.slice (some ⟨b,o,none⟩) l c,.pointer (some ⟨R,0,none⟩)] w (ugT s t R j w)
def TxC(lo m:Nat)(s:ByteArray):Prop :=
 ∀(Q:Nat->Prop) (a la:Option Addr) (d lc b off H l o c:Nat) (w:World),l+lo=m->o=off+lo*3->l<=c->LM Q a la g b off N H B w ->
  Calls Tryz.prog 46 #[.agg #[.slice a g.nr d,.slice la g.nb lc],.slice (some ⟨b,o,none⟩) l c] w (vZ s w)
def usI(lo q s:Nat)(i a b:Nat)(x y:ByteArray):Prop :=
 lo<s/\s<q/\M.dep B s+1=M.dep B q/\(∀j,s<j->j<=q->M.dep B q<=M.dep B j)/\LoC t g N B lo s i x a/\LoC t g N B s q a y b
inductive Kd(q lo i:Nat)(s0:ByteArray)(j0:Nat):Prop
 |set:(B q).kind=1->(s0,j0)=jL t (B q).sl (B q).set i->Kd q lo i s0 j0
 |leaf:(B q).kind≠1->(B q).kind<4->TxC g N B lo (q+1) s0->j0=i->Kd q lo i s0 j0
 |star (s:ByteArray):(B q).kind=6->lo<q->LoC t g N B lo q i s j0->s0=grp (decide (4<=(B (q-1)).kind)) s++b1 42->Kd q lo i s0 j0
 |and (s:ByteArray):(B q).kind=7->lo<q-1->(B (q-1)).kind=7->LoC t g N B lo (q-1) i s j0->s0=b1 38++grp ((B (q-2)).kind==4||(B (q-2)).kind==5) s->Kd q lo i s0 j0
 |not (s:ByteArray):(B q).kind=7->lo<q->(B (q-1)).kind≠7->LoC t g N B lo q i s j0->s0=b1 33++grp ((B (q-1)).kind==4||(B (q-1)).kind==5) s->Kd q lo i s0 j0
 |bin (s jx jy:Nat) (x y:ByteArray):usI t g N B lo q s i jx jy x y ->
   ((B q).kind=4/\s0=grp ((B (s-1)).kind==5) x++gapT (t.v jy)++grp ((B (q-1)).kind==5||(B (q-1)).kind==4) y/\j0=t.n jy) \/
   ((B q).kind=5/\(B (q-1)).kind=0/\(B (s-1)).kind<4/\s0=b1 40++x++⟨#[41,63]⟩/\j0=jy) \/
   ((B q).kind=5/\¬((B (q-1)).kind=0/\(B (s-1)).kind<4)/\s0=x++gapT (t.v jy)++b1 47++grp ((B (q-1)).kind==5) (if (y.toList == [34,34])=true then ⟨#[]⟩ else y)/\j0=t.n jy)->Kd q lo i s0 j0
end
variable {t:Tp} {R:Nat} {Q:Nat->Prop} {ra la:Option Addr} {rc lc:Nat} {g:Gr} {b off N H:Nat} {B:Nat->OpD}
theorem LM.keep{w w':World}(h:LM Q ra la g b off N H B w)(k:Keep (λx=>x=R) w w')(c:Q b)(a:∀b,Q b->b≠R/\b<H):LM Q ra la g b off N H B w':=by
 have st:=k.stay (λb q=>⟨by have:=a b q;have:=h.sz;omega,(a b q).1⟩);exact⟨λi d=>(h.ops i d).on c st,⟨h.gr.rules.on st,h.gr.labs.on st⟩,Nat.le_trans h.sz k.size⟩
theorem usJ(V:M.Sound g)(Y:∀i,i<N->M.ElemOK g.nr g.nb (B i))(hN:N<=2000)(q lo i:Nat)(x:Unit)(hq:q+1<=N)(r:M.Fed B (q+1))(C:M.stk (λ_ _ _=>()) B (q+1)=(lo,x)::M.stk (λ_ _ _=>()) B lo)(ac:lo<q+1)
  (A:∀m,m<q+1->∀lo i (x:Unit),m<=N->M.Fed B m->M.stk (λ_ _ _=>()) B m=(lo,x)::M.stk (λ_ _ _=>()) B lo->∃s j,LoC t g N B lo m i s j) :
  ∃s j,s.size+2<=1300*(q+1-lo)/\Kd t g N B q lo i s j:=by
 have E:=Y q (by omega);have k0:=E.1;have k7:=E.2.1;have un:M.ar (B q).kind=1->lo<q/\∃z,M.stk (λ_ _ _=>()) B q=(lo,z)::M.stk (λ_ _ _=>()) B lo:=λh=>by
  obtain⟨z,n,a,_⟩:=ucg _ B q lo x r h C;exact⟨n,z,a⟩
 have bin:M.ar (B q).kind=2->∃s k d x y,usI t g N B lo q s i k d x y:=λh=>by
  obtain⟨s,y,z,X,Z,aa,ab,hx,R,S⟩:=ua9 _ B q lo x r h C;obtain⟨sx,k,n⟩:=A s (by omega) lo i z (by omega) (r.less (by omega)) ab;obtain⟨sy,d,a⟩:=A q (by omega) s k y (by omega) (r.less (by omega)) aa;exact⟨s,k,d,sx,sy,X,Z,R,S,n,a⟩
 rcases(by omega:(B q).kind=1\/((B q).kind≠1/\(B q).kind<4)\/(B q).kind=6\/(B q).kind=7\/(B q).kind=4\/(B q).kind=5) with e|e|e|e|e|e
 ·exact⟨(jL t (B q).sl (B q).set i).1,(jL t (B q).sl (B q).set i).2,by have:=ugV t (E.2.2.1 e) i;omega,.set e rfl⟩
 ·have I:M.ar (B q).kind=0:=by unfold M.ar;rw[if_neg (by omega),if_neg (by omega)]
  obtain⟨s,hs,U⟩:=uoB V (o:=B q) ⟨I,E⟩;have W:q=lo:=by rw[M.stk]at C;simp[M.stp,I]at C;exact C.1
  refine⟨s,i,by omega,.leaf e.1 e.2 (λQ ra la rc lc b off H l o c w n a f D=>?_) rfl⟩;exact U Q ra la rc lc b o c l w (by show l=1;omega) (by show 1<=c;omega) (by rw[a,<-W];exact D.ops q (by omega)) D.gr
 ·obtain⟨n,z,a⟩:=un (by simp[M.ar,e]);obtain⟨s,j,f⟩:=A q (by omega) lo i z (by omega) (r.less (by omega)) a;refine⟨_,_,?_,.star s e n f rfl⟩;have:=M.grp_size (decide (4<=(B (q-1)).kind)) s;have:=f.1;simp only[ByteArray.size_append,b1_size];omega
 ·obtain⟨n,z,a⟩:=un (by simp[M.ar,e]);by_cases F:(B (q-1)).kind=7
  ·obtain⟨p,rfl⟩:∃p,q=p+1:=⟨q-1,by omega⟩;obtain⟨z2,D,T,_⟩:=ucg _ B p lo z (r.less (by omega)) (by simp[M.ar,show(B p).kind=7 from F]) a;obtain⟨s,j,f⟩:=A p (by omega) lo i z2 (by omega) (r.less (by omega)) T;refine⟨_,_,?_,.and s e D F f rfl⟩;have:=M.grp_size ((B (p+1-2)).kind==4||(B (p+1-2)).kind==5) s;have:=f.1;simp only[ByteArray.size_append,b1_size];omega
  obtain⟨s,j,f⟩:=A q (by omega) lo i z (by omega) (r.less (by omega)) a;refine⟨_,_,?_,.not s e n F f rfl⟩;have:=M.grp_size ((B (q-1)).kind==4||(B (q-1)).kind==5) s;have:=f.1;simp only[ByteArray.size_append,b1_size];omega
 ·obtain⟨s,k,d,x,y,u⟩:=bin (by simp[M.ar,e]);refine⟨_,_,?_,.bin s k d x y u (.inl ⟨e,rfl,rfl⟩)⟩;have:=M.grp_size ((B (s-1)).kind==5) x;have:=M.grp_size ((B (q-1)).kind==5||(B (q-1)).kind==4) y;have:=jp (t.v d);obtain⟨J,L,_,_,⟨O,_⟩,P,_⟩:=u;simp only[ByteArray.size_append];omega
 obtain⟨s,k,d,x,y,u⟩:=bin (by simp[M.ar,e]);by_cases G:(B (q-1)).kind=0/\(B (s-1)).kind<4
 ·refine⟨_,_,?_,.bin s k d x y u (.inr (.inl ⟨e,G.1,G.2,rfl,rfl⟩))⟩;obtain⟨J,L,_,_,⟨O,_⟩,P,_⟩:=u;have:(⟨#[41,63]⟩:ByteArray).size=2:=rfl;simp only[ByteArray.size_append,b1_size];omega
 refine⟨_,_,?_,.bin s k d x y u (.inr (.inr ⟨e,G,rfl,rfl⟩))⟩;have:=M.grp_size ((B (q-1)).kind==5) (if (y.toList == [34,34])=true then ⟨#[]⟩ else y);have:(if (y.toList == [34,34])=true then (⟨#[]⟩:ByteArray) else y).size<=y.size:=by split;exact Nat.zero_le _;exact Nat.le_refl _
 have:=jp (t.v d);obtain⟨J,L,_,_,⟨O,_⟩,P,_⟩:=u;simp only[ByteArray.size_append,b1_size];omega
theorem uih(I:Q b)(hQ:∀b,Q b->b≠R/\b<H)(hN:N<=2000)(ao:∀i,i<N->M.ElemOK g.nr g.nb (B i))(q lo i:Nat)(hq:q+1<=N)(s0:ByteArray)(j0:Nat)(ap:s0.size+2<=1300*(q+1-lo))(J:Kd t g N B q lo (t.n i) s0 j0)
  (l o c:Nat) (w:World) (hl:l+lo=q+1) (bc:lo<q+1) (ho:o=off+lo*3) (hc:l<=c) (hM:LM Q ra la g b off N H B w) (hR:RdA t R w i) :
  Calls Tryz.prog 57 #[.agg #[.slice ra g.nr rc,.slice la g.nb lc],.slice (some ⟨b,o,none⟩) l c,.pointer (some ⟨R,0,none⟩)] w (ugT (if t.v i%14=1 then b1 40++s0++b1 41 else s0) t R j0 w):=by
 obtain⟨s1,ai⟩:=nm (if t.v i%14=1 then b1 40++s0++b1 41 else s0);rw[ai];have aa:=ua ai;clear ai;have hv:=t.v_le i;have a6:=hR.lt;obtain⟨n,rfl⟩:∃n,l=n+1:=⟨l-1,by omega⟩;obtain⟨c0,⟨sa,sc,c1,aq⟩,c2⟩:=hM.ops q (by omega);rw[show off+q*3=o+n*3 by omega]at c0 c1 c2;have a7:=ud c0;have x2:((n+1:Nat):Int)-1=(n:Int):=by omega
 have x3:(n:Int)<((n+1:Nat):Int):=by omega
 have be:n<=2000:=by omega
 have F:=ua hM;have HK:=ua J;have aw:=ua ao;have G:=ua hQ;have HS:=ua ap;have r:Hid (n+lo=q/\o=off+lo*3):=⟨by omega,ho⟩;have K0:=ua (((Keep.alloc (λ_=>False) w (.cells #[.slice ra g.nr rc,.slice la g.nb lc] 28))).trans (Keep.alloc _ _ (.cells #[.int .i64 (B q).kind,.slice sa (B q).sl sc,.int .i64 (B q).arg] 118)));have X:=ua ((ux w #[.slice ra g.nr rc,.slice la g.nb lc] 28).al (.cells #[.int .i64 (B q).kind,.slice sa (B q).sl sc,.int .i64 (B q).arg] 118));have Y:=ua (yG (w.alloc (.cells #[.slice ra g.nr rc,.slice la g.nb lc] 28)) #[.int .i64 (B q).kind,.slice sa (B q).sl sc,.int .i64 (B q).arg] 118 (w.heap.size+1) (by simp));have af:=ua aq;clear hM J ao hQ ap hl ho aq;go_enter Tryz.func57,Tryz.ntmps57;go_upto_region 3 with fail;generalize (w.alloc (.cells #[.slice ra g.nr rc,.slice la g.nb lc] 28)).alloc _=W0 at *;go_wp2_with fail;refine(uw t R i W0 (hR.keep K0 (λ_ e=>e.elim))).mono ?_;rintro e W1 ⟨rfl,a⟩;have A:Hid (RdOn t R (t.n i) w W1):=⟨a.1,(K0.mono (λ_ e=>e.elim)).trans a.2⟩;replace X:=ua (X.keepR a.2 (by omega));replace Y:=ua (Y.keepR a.2 (by omega));replace F:=ua (F.keep A.2 I G);replace af:=ua (af.keepR A.2 (λb q=>(G b q).1));clear a K0 c0 c1 c2 hR;obtain⟨z,p,lz⟩:=X.x;obtain⟨yy,rr,ly⟩:=Y.x;have ac:w.heap.size≠R:=by omega
 have ad:w.heap.size+1≠R:=by omega
 generalize t.v i=k at *;generalize t.n i=i1 at *;obtain⟨d,hd⟩:=nm (k%14);have hd':(k:Int)%14=(d:Int):=by omega
 rw[hd]at aa;go_upto_if 32 with fail;simp only[hd'];clear hd hd' hv;go_cut [10] (λv wc=>v=.string s0/\RdOn t R j0 w wc)
 case first =>
  have hE:=aw q (by omega);have ay:=HK;clear HK;cases ay with
  |set e E =>
   have f1:((B q).kind==1)=true:=(by simp[e]);have S:=ua (hE.2.2.1 e);have O:=ua E;clear hE e E;go_wp2_with fail;refine(udc t R i1 Q sa (B q).sl sc (B q).set S (λb q=>(G b q).1) W1 af A.1).mono ?_;rintro e W2 ⟨rfl,a⟩;have D:=ua (A.trans a);clear a;rw[<-O.out]at D ⊢;go_wp2;go_meet;exact⟨rfl,D⟩
  |leaf h1 h4 hT hj =>
   subst hj;have f1:((B q).kind==1)=false:=(by simp[h1]);have HT:=ua hT;clear hE hT h1;go_wp2_with fail;refine(HT.out Q ra la rc lc b off H (n+1) o c W1 (by have:=r.out;omega) r.out.2 hc F.out).mono ?_;rintro e W2 ⟨rfl,C⟩;have D:=ua (A.quiet (vK C));clear C;go_wp2;go_meet;exact⟨rfl,D⟩
  |star s e an Z E =>
   have f1:((B q).kind==1)=false:=(by simp[e]);have f4:¬(B q).kind<4:=(by omega);have f6:((B q).kind==6)=true:=(by simp[e]);have S:=ua Z;have O:=ua E;have z6:=uz n (by omega);have hcj':n<=c:=(by omega);have ak:n<c:=(by omega);have am:¬c=0:=(by omega);clear hE Z e E;go_wp2_with fail;go_region_law (refine xu jM rfl (.tmp 46) (.tmp 50) (.tmp 51) 28 68 42 rfl (y1:=.agg #[.slice ra g.nr rc,.slice la g.nb lc]) (y2:=.slice (some ⟨b,o,none⟩) n c) (y3:=.pointer (some ⟨R,0,none⟩)) (by simp[Act.eval]) (by simp[Act.eval]) (by simp[Act.eval]) ((S.2 R Q ra la rc lc b off H I G n o c W1.drew r.1 r.2 hcj' (F.keep (Keep.drew _ _) I G) (A.1.keep (Keep.drew (λ_=>False) _) (λ_ e=>e.elim))).mono ?_);rintro e W2 ⟨rfl,a⟩;have D:=ua ((A.quiet (Keep.drew _ _)).trans a);have av:=ua ((F.keep (Keep.drew _ _) I G).keep a.2 I G);clear a;refine⟨_,rfl,?_⟩);have hz:=S.1;have P:=(av.ops (q-1) (by omega)).kind;obtain⟨m,hm⟩:∃m,n=m+1:=⟨n-1,by have:=r.out;omega⟩;rw[show off+(q-1)*3=o+m*3 by have:=r.out;omega]at P;have lb:=ud P;have x5:(n:Int)+1-2=(m:Int):=(by omega);have x6:(m:Int)<(n:Int)+1:=(by omega);have T:=M.grp_size (decide (4<=(B (q-1)).kind)) s;have HG:=ua (vq s (decide (4<=(B (q-1)).kind)) W2 (by omega));clear hm;generalize (B (q-1)).kind=f at *;go_wp2_with fail;refine HG.mono ?_;rintro e W3 ⟨rfl,C⟩;replace D:=ua (D.quiet (vK C));generalize grp (decide (4<=f)) s=u at *;clear C;go_wp2;go_meet;exact⟨by rw[O.out];rfl,D⟩
  |and s e an e7 Z E =>
   have f1:((B q).kind==1)=false:=(by simp[e]);have f4:¬(B q).kind<4:=(by omega);have f6:((B q).kind==6)=false:=(by simp[e]);have f7:((B q).kind==7)=true:=(by simp[e]);have S:=ua Z;have P:=(F.ops (q-1) (by omega)).kind;have d1:=(F.ops (q-2) (by omega)).kind;obtain⟨m,hm⟩:∃m,n=m+2:=⟨n-2,by have:=r.out;omega⟩;obtain⟨U,a1⟩:=nm (m+1);rw[show off+(q-1)*3=o+U*3 by have:=r.out;omega,e7]at P;rw[show off+(q-2)*3=o+m*3 by have:=r.out;omega]at d1;have z6:=uz U (by omega);have hcj':U<=c:=(by omega);have ak:U<c:=(by omega);have am:¬c=0:=(by omega);have lb:=ud P;have x4:(2:Int)<(n:Int)+1:=(by omega);have x5:(n:Int)+1-2=(U:Int):=(by omega);have x6:(U:Int)<(n:Int)+1:=(by omega);have x7:(n:Int)+1-3=(m:Int):=(by omega);have x8:(m:Int)<(n:Int)+1:=(by omega);have hz:=S.1;have HG:Hid (∀(c:Bool) (W:World),Calls Tryz.prog 84 #[.string s,.bool c] W (vZ (grp c s) W)):=λc W=>vq s c W (by omega)
   have T:∀c,(grp c s).size<=s.size+2:=λc=>M.grp_size c s
   generalize (B (q-2)).kind=f at *;obtain⟨V,L⟩:=nm (f==4||f==5);rw[L]at E;have O:=ua E;replace r:Hid (U+lo=q-1/\o=off+lo*3):=⟨by have:=r.out;omega,r.out.2⟩;clear hE Z e E e7 hm a1;go_wp2_with fail;go_region_law (refine xu jM rfl (.tmp 83) (.tmp 87) (.tmp 88) 28 68 42 rfl (y1:=.agg #[.slice ra g.nr rc,.slice la g.nb lc]) (y2:=.slice (some ⟨b,o,none⟩) U c) (y3:=.pointer (some ⟨R,0,none⟩)) (by simp[Act.eval]) (by simp[Act.eval]) (by simp[Act.eval]) ((S.out.2 R Q ra la rc lc b off H I G.out U o c W1.drew (by have:=r.out;omega) r.out.2 hcj' (F.out.keep (Keep.drew _ _) I G.out) (A.out.1.keep (Keep.drew (λ_=>False) _) (λ_ e=>e.elim))).mono ?_);rintro e W2 ⟨rfl,a⟩;have D:=ua ((A.out.quiet (Keep.drew _ _)).trans a);clear a;refine⟨_,rfl,?_⟩);by_cases J:f=4
   ·have g4:(f==4)=true:=(by simp[J]);obtain rfl:V=true:=(by rw[<-L,g4];rfl);clear J L;go_wp2_with fail;refine(HG true W2).mono ?_;rintro e W3 ⟨rfl,C⟩;replace D:=ua (D.quiet (vK C));have ag:=T true;generalize grp true s=u at *;clear C T;go_wp2;go_meet;exact⟨by rw[O.out];rfl,D⟩
   have g4:(f==4)=false:=(by simp[J]);obtain rfl:(f==5)=V:=(by rw[<-L,g4];rfl);clear J L;go_wp2_with fail;refine(HG (f==5) W2).mono ?_;rintro e W3 ⟨rfl,C⟩;replace D:=ua (D.quiet (vK C));have ag:=T (f==5);generalize grp (f==5) s=u at *;clear C T;go_wp2;go_meet;exact⟨by rw[O.out];rfl,D⟩
  |not s e an e7 Z E =>
   have f1:((B q).kind==1)=false:=(by simp[e]);have f4:¬(B q).kind<4:=(by omega);have f6:((B q).kind==6)=false:=(by simp[e]);have f7:((B q).kind==7)=true:=(by simp[e]);have S:=ua Z;have z6:=uz n (by omega);have hcj':n<=c:=(by omega);have ak:n<c:=(by omega);have am:¬c=0:=(by omega);have P:=(F.ops (q-1) (by omega)).kind;obtain⟨m,hm⟩:∃m,n=m+1:=⟨n-1,by have:=r.out;omega⟩;rw[show off+(q-1)*3=o+m*3 by have:=r.out;omega]at P;have lb:=ud P;have x5:(n:Int)+1-2=(m:Int):=(by omega);have x6:(m:Int)<(n:Int)+1:=(by omega);have hz:=S.1;have HG:Hid (∀(c:Bool) (W:World),Calls Tryz.prog 84 #[.string s,.bool c] W (vZ (grp c s) W)):=λc W=>vq s c W (by omega)
   have T:∀c,(grp c s).size<=s.size+2:=λc=>M.grp_size c s
   generalize (B (q-1)).kind=f at *;have g7:(f==7)=false:=(by simp[e7]);obtain⟨V,L⟩:=nm (f==4||f==5);rw[L]at E;have O:=ua E;clear hE Z e E e7 hm;rcases(by omega:(2:Int)<(n:Int)+1\/¬(2:Int)<(n:Int)+1) with a2|a2;all_goals
    go_wp2_with fail;go_region_law (refine xu jM rfl (.tmp 105) (.tmp 109) (.tmp 110) 28 68 42 rfl (y1:=.agg #[.slice ra g.nr rc,.slice la g.nb lc]) (y2:=.slice (some ⟨b,o,none⟩) n c) (y3:=.pointer (some ⟨R,0,none⟩)) (by simp[Act.eval]) (by simp[Act.eval]) (by simp[Act.eval]) ((S.out.2 R Q ra la rc lc b off H I G.out n o c W1.drew (by have:=r.out;omega) r.out.2 hcj' (F.out.keep (Keep.drew _ _) I G.out) (A.out.1.keep (Keep.drew (λ_=>False) _) (λ_ e=>e.elim))).mono ?_);rintro e W2 ⟨rfl,a⟩;have D:=ua ((A.out.quiet (Keep.drew _ _)).trans a);clear a;refine⟨_,rfl,?_⟩);by_cases J:f=4
    ·have g4:(f==4)=true:=(by simp[J]);obtain rfl:V=true:=(by rw[<-L,g4];rfl);clear J L;go_wp2_with fail;refine(HG true W2).mono ?_;rintro e W3 ⟨rfl,C⟩;replace D:=ua (D.quiet (vK C));have ag:=T true;generalize grp true s=u at *;clear C T;go_wp2;go_meet;exact⟨by rw[O.out];rfl,D⟩
    have g4:(f==4)=false:=(by simp[J]);obtain rfl:(f==5)=V:=(by rw[<-L,g4];rfl);clear J L;go_wp2_with fail;refine(HG (f==5) W2).mono ?_;rintro e W3 ⟨rfl,C⟩;replace D:=ua (D.quiet (vK C));have ag:=T (f==5);generalize grp (f==5) s=u at *;clear C T;go_wp2;go_meet;exact⟨by rw[O.out];rfl,D⟩
  |bin s jx jy x y C hs =>
   have ah:(B q).kind=4\/(B q).kind=5:=(by rcases hs with h|h|h;exact .inl h.1;exact .inr h.1;exact .inr h.1);have f1:((B q).kind==1)=false:=(by simp;omega);have f4:¬(B q).kind<4:=(by omega);have f6:((B q).kind==6)=false:=(by simp;omega);have f7:((B q).kind==7)=false:=(by simp;omega);obtain⟨bd,bi,ax,aj,hX,hY⟩:=C;obtain⟨u,hu⟩:∃u,s=lo+u+1:=⟨s-lo-1,by omega⟩;obtain⟨p1,a3⟩:=nm (u+1);have bj:=hX.1;have bk:=hY.1;have HX:=ua hX.2;have HY:=ua hY.2;have P:=(F.ops (q-1) (by omega)).kind;have d1:=(F.ops (s-1) (by omega)).kind;obtain⟨m,hm⟩:∃m,n=m+1:=⟨n-1,by have:=r.out;omega⟩;rw[show off+(q-1)*3=o+m*3 by have:=r.out;omega]at P;rw[show off+(s-1)*3=o+u*3 by have:=r.out;omega]at d1;have HT:=ua (kY b o (n+1) c (λi=>B (lo+i)) W1 Q (λi hi=>by have:=F.out.ops (lo+i) (by have:=r.out;omega);rwa [show off+(lo+i)*3=o+i*3 by have:=r.out;omega]at this) (by omega) n p1 (by omega) (by have:=r.out;omega)
    (by rw[xX,xX,show lo+p1=s by omega,show lo+n=q by have:=r.out;omega];omega) (λj h1 h2=>by rw[xX,xX,show lo+n=q by have:=r.out;omega];have:=aj (lo+j) (by omega) (by have:=r.out;omega);omega))
   have bf:p1<n:=(by have:=r.out;omega);have hpn':(p1:Int)<(n:Int):=(by omega);have bg:(p1:Int)<=(n:Int):=(by omega);have bh:p1<=n:=(by omega);have z5:=uz p1 (by omega);have z6:=uz n (by omega);have a8:p1<=c:=(by omega);have a9:n<=c:=(by omega);have ba:¬c=p1:=(by omega);have lb:=ud P;have x4:(p1:Int)-1=(u:Int):=(by omega);have x5:(n:Int)+1-2=(m:Int):=(by omega);have x6:(m:Int)<(n:Int)+1:=(by omega);have x8:(u:Int)<(n:Int)+1:=(by omega);generalize (B (q-1)).kind=f at *;generalize (B (s-1)).kind=kx at *;have HH:=ua hs;replace r:Hid (n+lo=q/\o=off+lo*3/\s=lo+p1):=⟨r.1,r.2,by omega⟩;clear hE hX hY hs hm hu a3 ax aj;go_wp2_with fail;refine HT.mono ?_;rintro e W ⟨rfl,hw⟩;subst hw;go_wp2_with fail;go_region_law (refine xu jM rfl (.tmp 137) (.tmp 140) (.tmp 141) 28 68 42 rfl (y1:=.agg #[.slice ra g.nr rc,.slice la g.nb lc]) (y2:=.slice (some ⟨b,o,none⟩) p1 c) (y3:=.pointer (some ⟨R,0,none⟩)) (by simp[Act.eval]) (by simp[Act.eval]) (by simp[Act.eval]) ((HX.out R Q ra la rc lc b off H I G.out p1 o c W1.drew (by have:=r.out;omega) (by have:=r.out;omega) (by omega) (F.out.keep (Keep.drew _ _) I G.out) (A.out.1.keep (Keep.drew (λ_=>False) _) (λ_ e=>e.elim))).mono ?_);rintro e W2 ⟨rfl,a⟩;replace A:=ua ((A.out.quiet (Keep.drew _ _)).trans a);replace F:=ua ((F.out.keep (Keep.drew _ _) I G.out).keep a.2 I G.out);replace Y:=ua ((Y.out.keepR (Keep.drew _ _) ad).keepR a.2 ad);replace X:=ua ((X.out.keepR (Keep.drew _ _) ac).keepR a.2 ac);clear a;refine⟨_,rfl,?_⟩);obtain⟨z2,p2,l2⟩:=X.x;clear z p lz yy rr ly P d1 lb;go_wp2_with fail;go_region_law (refine xu jM rfl (.tmp 143) (.tmp 148) (.tmp 149) 28 68 42 rfl (y1:=.agg #[.slice ra g.nr rc,.slice la g.nb lc]) (y2:=.slice (some ⟨b,o+p1*3,none⟩) (n-p1) (c-p1)) (y3:=.pointer (some ⟨R,0,none⟩)) (by simp[Act.eval]) (by simp[Act.eval]) (by simp[Act.eval]) ((HY.out R Q ra la rc lc b off H I G.out (n-p1) (o+p1*3) (c-p1) W2.drew (by have:=r.out;omega) (by have:=r.out;omega) (by omega) (F.out.keep (Keep.drew _ _) I G.out) (A.out.1.keep (Keep.drew (λ_=>False) _) (λ_ e=>e.elim))).mono ?_);rintro e W3 ⟨rfl,a⟩;replace A:=ua ((A.out.quiet (Keep.drew _ _)).trans a);replace F:=ua ((F.out.keep (Keep.drew _ _) I G.out).keep a.2 I G.out);replace Y:=ua ((Y.out.keepR (Keep.drew _ _) ad).keepR a.2 ad);replace X:=ua ((X.out.keepR (Keep.drew _ _) ac).keepR a.2 ac);clear a;refine⟨_,rfl,?_⟩);obtain⟨z3,p3,l3⟩:=Y.x;clear z2 p2 l2;have au:Hid (∀(c:Bool) (W:World),Calls Tryz.prog 84 #[.string x,.bool c] W (vZ (grp c x) W)):=λc W=>vq x c W (by omega)
   have ae:Hid (∀(c:Bool) (W:World) (z:ByteArray),z.size<=y.size->Calls Tryz.prog 84 #[.string z,.bool c] W (vZ (grp c z) W)):=λc W z h=>vq z c W (by omega)
   have a5:=jp (t.v jy);have a0:=HH;clear HH;rcases a0 with⟨e4,E,ej⟩|⟨e5,e0,ek,E,ej⟩|⟨e5,e0,E,ej⟩
   ·have f5:((B q).kind==4)=true:=(by simp[e4]);obtain⟨V,L⟩:=nm (f==5||f==4);rw[L]at E;have bb:=M.grp_size (kx==5) x;have az:=M.grp_size V y;have O:=ua E;subst ej;clear E e4 ah;go_wp2_with fail;refine(ub2 t R jy W3 A.1).mono ?_;rintro e W4 ⟨rfl,a⟩;replace A:=ua (A.trans a);clear a;generalize gapT (t.v jy)=gp at *;go_wp2_with fail;refine(au (kx==5) W4).mono ?_;rintro e W5 ⟨rfl,C⟩;replace A:=ua (A.quiet (vK C));clear C;generalize grp (kx==5) x=gx at *;by_cases J:f=5
    ·have g5:(f==5)=true:=(by simp[J]);obtain rfl:V=true:=(by rw[<-L,g5,Bool.true_or]);clear J L;go_wp2_with fail;refine(ae true W5 y (Nat.le_refl _)).mono ?_;rintro e W6 ⟨rfl,C⟩;replace A:=ua (A.quiet (vK C));clear C;generalize grp true y=gy at *;go_wp2;go_meet;exact⟨by rw[O.out],A⟩
    have g5:(f==5)=false:=(by simp[J]);obtain rfl:(f==4)=V:=(by rw[<-L,g5,Bool.false_or]);clear J L;go_wp2_with fail;refine(ae (f==4) W5 y (Nat.le_refl _)).mono ?_;rintro e W6 ⟨rfl,C⟩;replace A:=ua (A.quiet (vK C));clear C;generalize grp (f==4) y=gy at *;go_wp2;go_meet;exact⟨by rw[O.out],A⟩
   ·have f5:((B q).kind==4)=false:=(by simp[e5]);have g0:(f==0)=true:=(by simp[e0]);subst ej;have O:=ua E;clear E e5 e0 ah;go_wp2;go_meet;exact⟨by rw[O.out];rfl,A⟩
   have f5:((B q).kind==4)=false:=(by simp[e5]);obtain⟨y',ab⟩:=nm (if (y.toList == [34,34])=true then (⟨#[]⟩:ByteArray) else y);rw[ab]at E;have a4:y'.size<=y.size:=(by rw[<-ab];split;exact Nat.zero_le _;exact Nat.le_refl _);have az:=M.grp_size (f==5) y';have O:=ua E;have HY':=ua ab;subst ej;have h0:((f==0)=false\/(f==0)=true/\¬kx<4):=(by by_cases e:f=0;exact .inr ⟨by simp[e],by omega⟩;exact .inl (by simp[e]));clear E e5 ah ab e0;rcases h0 with g0|⟨g0,gx⟩;all_goals
    go_upto_if 181 with fail;go_cut [17] (λv wc=>v=.string y'/\wc=W3)
    case first =>
     go_wp2;all_goals rename_i h
     all_goals go_meet
     all_goals exact⟨by rw[<-HY'.out,h];rfl,rfl⟩
    case rest =>
     obtain⟨rfl,hw⟩:=hcut;subst hw;go_wp2_with fail;refine(ub2 t R jy _ A.1).mono ?_;rintro e W4 ⟨rfl,a⟩;replace A:=ua (A.trans a);clear a;generalize gapT (t.v jy)=gp at *;go_wp2_with fail;refine(ae (f==5) W4 y' a4).mono ?_;rintro e W5 ⟨rfl,C⟩;replace A:=ua (A.quiet (vK C));clear C;generalize grp (f==5) y'=gy at *;go_wp2;go_meet;exact⟨by rw[O.out];rfl,A.out⟩
 case rest =>
  obtain⟨rfl,a⟩:=hcut;have D:=ua a;have hs:=HS.out;clear a;by_cases e:d=1
  ·have b1:((d:Int)==1)=true:=(by simp[e]);rw[if_pos e]at aa;clear e;go_wp2;go_ret;exact⟨by rw[<-aa.out];rfl,D⟩
  have b1:((d:Int)==1)=false:=by simp;omega
  rw[if_neg e]at aa;clear e;go_wp2;go_ret;exact⟨by rw[<-aa.out];rfl,D⟩
theorem ugW(A:M.Sound g)(h:∀i,i<N->M.ElemOK g.nr g.nb (B i))(d:N<=2000)(m:Nat):∀lo i (x:Unit),m<=N->M.Fed B m->M.stk (λ_ _ _=>()) B m=(lo,x)::M.stk (λ_ _ _=>()) B lo->∃s j,LoC t g N B lo m i s j:=by
 induction m using Nat.strongRecOn with
 |_ m I =>
  intro lo i x f a k;obtain⟨e,_,_⟩:=M.stk_cons _ B m a lo x _ k;obtain⟨q,rfl⟩:∃q,m=q+1:=⟨m-1,by omega⟩;obtain⟨s0,p,G,D⟩:=usJ A h d q lo (t.n i) x f a k e I;refine⟨if t.v i%14=1 then b1 40++s0++b1 41 else s0,p,?_,λR Q J la L lc b off H y u l o c w E F C r z=>uih y u d h q lo i f s0 p G D l o c w E e F C r z⟩;split
  ·simp only[ByteArray.size_append,b1_size];omega
  omega
end
end Go.Proofs.YtimfigongapdnaaGreat
