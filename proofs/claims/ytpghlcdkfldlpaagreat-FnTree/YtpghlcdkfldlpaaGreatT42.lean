import Derived.Test.YtpghlcdkfldlpaaGreatT41
import Derived.Test.YtpghlcdkfldlpaaGreatT20
set_option linter.unusedVariables false
set_option linter.unusedSimpArgs false
set_option maxHeartbeats 40000000
set_option maxRecDepth 100000
namespace Go.Proofs.YtpghlcdkfldlpaaGreat
open Go.RowKit
open M (OpD ue Gr)
theorem ukn{Q R w w' v d n cs}(h:OwnC Q w v d n cs)(s:0<d)(k:Keep (λx=>x=R) w w')(p:∀b,Q b->b≠R):OwnC Q w' v d n cs:=by
 rcases h with e|⟨b,cap,e,m,g,i,o,l⟩
 ·exact .inl e
 have f:∀j,j<cap*d->w'.heap[b]?=w.heap[b]?:=λj c=>by
  obtain⟨u,r⟩:=Option.isSome_iff_exists.1 (l j c).1;exact k.block b (ub r) (p b m)
 have q:∀j,j<cs.length->j<cap*d:=λj c=>Nat.lt_of_lt_of_le c (by rw[g];exact Nat.mul_le_mul_right _ i)
 refine .inr ⟨b,cap,e,m,g,i,λj c=>(World.cell?_of_block (a:=⟨b,j,none⟩) (f j (q j c))).trans (o j c),λj c=>?_⟩;rw[World.cell?_of_block (a:=⟨b,j,none⟩) (f j c),World.frozen?_of_block (a:=⟨b,j,none⟩) (f j c)];exact l j c
structure BufR(u:Tp)(R j:Nat)(w0:World)(z:List Int)(v:Value)(wr:World):Prop where
 own:OwnC (λb=>w0.heap.size<=b) wr v 1 z.length (z.map (Value.int .u8))
 on:RdOn u R j w0 wr
 lt:R<w0.heap.size
theorem BufR.nil{u R j w0 wr}(h:RdOn u R j w0 wr)(a:R<w0.heap.size):BufR u R j w0 [] (.slice none 0 0) wr:=⟨.inl ⟨rfl,rfl,rfl⟩,h,a⟩
theorem BufR.next{u R j a w0 wr w' z v}(h:BufR u R j w0 z v wr)(k:RdOn u R a wr w'):BufR u R a w0 z v w' :=
 ⟨ukn h.own (by omega) k.2 (λb q=>by have:=h.lt;omega),h.on.trans k,h.lt⟩
theorem BufR.quiet{u R j w0 wr w' z v}(h:BufR u R j w0 z v wr)(k:Keep (λ_=>False) wr w'):BufR u R j w0 z v w' :=
 h.next ⟨h.on.1.keep k (λ_ e=>e.elim),k.mono (λ_ e=>e.elim)⟩
theorem BufR.shape{u R j w0 wr z v}(h:BufR u R j w0 z v wr):∃a c,v=.slice a z.length c:=ul h.own
theorem ubj{Q w z a n c}(h:OwnC Q w (.slice a n c) 1 z.length (z.map (Value.int .u8))):n=z.length/\Ints Q .u8 w a z.length (lf z)/\z.length<=c:=by
 obtain⟨b,d,e⟩:=ul h;injection e with e1 e2 e3;subst e1 e2 e3;exact⟨rfl,xy (by rw[uaj];exact h),yK h⟩
theorem BufR.byt{u R j w0 wr z a n c}(h:BufR u R j w0 z (.slice a n c) wr):ukp z u R j w0 (.returned (.slice a n c)) wr:=by
 obtain⟨rfl,b,d⟩:=ubj h.own;exact⟨a,c,rfl,uak b,d,h.on⟩
theorem BufR.grow{u R j w0 W d z y v f}(a:BufR u R j w0 z v W)(g:OwnC (λb=>w0.heap.size<=b\/W.heap.size<=b) d f 1 (z.length+y.length) (z.map (Value.int .u8)++y.map (Value.int .u8)))(c:Grew (λb=>w0.heap.size<=b) W d):BufR u R j w0 (z++y) f d:=by
 have e:Keep (λb=>w0.heap.size<=b) W d:=⟨c.os,c.tape,c.output,c.size,c.block⟩;refine⟨?_,⟨a.on.1.keep e (λb q=>by have:=a.lt;omega),ubm a.on.2 e (λb q=>.inr q)⟩,a.lt⟩;rw[List.length_append,List.map_append];exact ubC g (λb q=>q.elim id (λq=>Nat.le_trans a.on.2.size q))
theorem urZ{ops:Array Oper}{rest:List Oper}{o:Oper}{a:Act}{f:Exit->Act->World->Prop}{u:Tp}{R j:Nat}{w0 W:World}(k:o.guard=none)(s x:Operand)(l:o.op=.call { callee:=.builtin .append,args:=#[s,x],argTypes:=#[22,22] }){z y:List Int}{v yv:Value}
  (n:a.eval s=v) (p:a.eval x=yv) (g:BufR u R j w0 z v W) (q:Src Tryz.prog 1 22 yv y.length (y.map (Value.int .u8)) W) (r:z.length+y.length<=16000000) (h:∀c d b,Hid (BufR u R j w0 (z++y) (.slice c (z.length+y.length) d) b)->wpList Tryz.prog ops f rest (a.put o.dst (.slice c (z.length+y.length) d)) b) :
  wpList Tryz.prog ops f (o::rest) a W:=by
 refine uaB k s x 22 22 l n p qI g.own q (by omega) ?_;intro w b m i t;have e:=g.grow m i;obtain⟨c,d,rfl⟩:=e.shape;rw[List.length_append]at e ⊢;exact h c d b e
theorem ulH{ops:Array Oper}{rest:List Oper}{o:Oper}{a:Act}{b:Exit->Act->World->Prop}{u:Tp}{R j:Nat}{w0 W:World}(g:o.guard=none)(s x:Operand)(i:o.op=.call { callee:=.builtin .append,args:=#[s,x],argTypes:=#[22,22] }){z:List Int}{v:Value}{y:Int}
  (k:a.eval s=v) (l:a.eval x=.slice (some ⟨W.heap.size,0,none⟩) 1 1) (f:BufR u R j w0 z v W) (m:z.length<=15000000) (h:∀d e c,Hid (BufR u R j w0 (z++[y]) (.slice d (z.length+1) e) c)->wpList Tryz.prog ops b rest (a.put o.dst (.slice d (z.length+1) e)) c) :
  wpList Tryz.prog ops b (o::rest) a (W.alloc (.cells #[.int .u8 y] 5)) :=
 urZ g s x i k l (f.quiet (Keep.alloc _ _ _)) (y:=[y]) (ufS W y) (by simp;omega) h
section
open Go.RowKit
open M (OpD ue Gr TX b1 grp b1_size)
theorem Box.keepR{w w' b R c}(h:Box w b c)(k:Keep (λx=>x=R) w w')(a:b≠R):Box w' b c:=h.blk (k.block b h.x.2.2 a)
theorem uks n S:(negT n S).size<=1200:=M.setT_size (ueF n S)
theorem ugz t{n S}(h:M.Canon n S)i:(qi t n S i).1.size<=1250:=by
 have a:=M.canon_len h;have b:=yr (S 0).toNat (t.v (t.n i));have c:=yr (S 1).toNat (t.v (t.n (t.n i)));have d:=uks n S;have e:=qh t S n (t.n (t.n (t.n i))) ((n-2) / 2);have f:=M.setT_size h;have g:(⟨#[91,94]⟩:ByteArray).size=2:=rfl;unfold qi;generalize negT n S=u at *;split
 ·simp only[ByteArray.size_append,b1_size];omega
 split
 ·simp only[ByteArray.size_append,ByteArray.size_extract];omega
 split
 ·simp only[ByteArray.size_append,b1_size];omega
 show(M.setT n S).size<=_;omega
theorem qj args w:(callFunc 56 args).run Tryz.prog w=.ok (.enter 56 args) w:=by
 simp[callFunc,Tryz.func56,Tryz.f56,go_sem]
structure LM(Q:Nat->Prop)(ra la:Option Addr)(g:Gr)(b off N H:Nat)(B:Nat->OpD)(w:World):Prop where
 ops:∀i,i<N->OpC Q w b (off+i*3) (B i)
 gr:GramA Q w ra la g
 sz:H<=w.heap.size
section
variable (t:Tp) (g:Gr) (N:Nat) (B:Nat->OpD)
def LoC(lo m i:Nat)(s:ByteArray)(j:Nat):Prop :=
 s.size<=1300*(m-lo)/\∀(R:Nat) (Q:Nat->Prop) (a la:Option Addr) (d lc b off H:Nat),Q b->(∀b,Q b->b≠R/\b<H)->∀(l o c:Nat) (w:World),l+lo=m->o=off+lo*3->l<=c->LM Q a la g b off N H B w->RdA t R w i ->
  Calls Tryz.prog 56 #[.agg #[.slice a g.nr d,.slice la g.nb lc],.slice (some ⟨b,o,none⟩) l c,.pointer (some ⟨R,0,none⟩)] w (ugx s t R j w)
def TxC(lo m:Nat)(s:ByteArray):Prop :=
 ∀(Q:Nat->Prop) (a la:Option Addr) (d lc b off H l o c:Nat) (w:World),l+lo=m->o=off+lo*3->l<=c->LM Q a la g b off N H B w ->
  Calls Tryz.prog 46 #[.agg #[.slice a g.nr d,.slice la g.nb lc],.slice (some ⟨b,o,none⟩) l c] w (yf s w)
def urA(lo q s:Nat)(i a b:Nat)(x y:ByteArray):Prop :=
 lo<s/\s<q/\M.dep B s+1=M.dep B q/\(∀j,s<j->j<=q->M.dep B q<=M.dep B j)/\LoC t g N B lo s i x a/\LoC t g N B s q a y b
inductive Kd(q lo i:Nat)(s0:ByteArray)(j0:Nat):Prop
 |set:(B q).kind=1->(s0,j0)=qi t (B q).sl (B q).set i->Kd q lo i s0 j0
 |leaf:(B q).kind≠1->(B q).kind<4->TxC g N B lo (q+1) s0->j0=i->Kd q lo i s0 j0
 |star (s:ByteArray):(B q).kind=6->lo<q->LoC t g N B lo q i s j0->s0=grp (decide (4<=(B (q-1)).kind)) s++b1 42->Kd q lo i s0 j0
 |and (s:ByteArray):(B q).kind=7->lo<q-1->(B (q-1)).kind=7->LoC t g N B lo (q-1) i s j0->s0=b1 38++grp ((B (q-2)).kind==4||(B (q-2)).kind==5) s->Kd q lo i s0 j0
 |not (s:ByteArray):(B q).kind=7->lo<q->(B (q-1)).kind≠7->LoC t g N B lo q i s j0->s0=b1 33++grp ((B (q-1)).kind==4||(B (q-1)).kind==5) s->Kd q lo i s0 j0
 |bin (s jx jy:Nat) (x y:ByteArray):urA t g N B lo q s i jx jy x y ->
   ((B q).kind=4/\s0=grp ((B (s-1)).kind==5) x++gapT (t.v jy)++grp ((B (q-1)).kind==5||(B (q-1)).kind==4) y/\j0=t.n jy) \/
   ((B q).kind=5/\(B (q-1)).kind=0/\(B (s-1)).kind<4/\s0=b1 40++x++⟨#[41,63]⟩/\j0=jy) \/
   ((B q).kind=5/\¬((B (q-1)).kind=0/\(B (s-1)).kind<4)/\s0=x++gapT (t.v jy)++b1 47++grp ((B (q-1)).kind==5) (if (y.toList == [34,34])=true then ⟨#[]⟩ else y)/\j0=t.n jy)->Kd q lo i s0 j0
end
variable {t:Tp} {R:Nat} {Q:Nat->Prop} {ra la:Option Addr} {rc lc:Nat} {g:Gr} {b off N H:Nat} {B:Nat->OpD}
theorem LM.keep{w w':World}(h:LM Q ra la g b off N H B w)(k:Keep (λx=>x=R) w w')(c:Q b)(a:∀b,Q b->b≠R/\b<H):LM Q ra la g b off N H B w':=by
 have st:=k.stay (λb q=>⟨by have:=a b q;have:=h.sz;omega,(a b q).1⟩);exact⟨λi d=>(h.ops i d).on c st,⟨h.gr.rules.on st,h.gr.labs.on st⟩,Nat.le_trans h.sz k.size⟩
theorem urB(J:M.Sound g)(I:∀i,i<N->M.ElemOK g.nr g.nb (B i))(V:N<=2000)(q lo i:Nat)(x:TX)(X:q+1<=N)(n:M.Fed B (q+1))(C:M.stk (uL g) B (q+1)=(lo,x)::M.stk (uL g) B lo)(ac:lo<q+1)
  (A:∀m,m<q+1->∀lo i x,m<=N->M.Fed B m->M.stk (uL g) B m=(lo,x)::M.stk (uL g) B lo->∃s j,LoC t g N B lo m i s j) :
  ∃s j,s.size+2<=1300*(q+1-lo)/\Kd t g N B q lo i s j:=by
 have F:=I q (by omega);have k0:=F.1;have k7:=F.2.1;have un:M.ar (B q).kind=1->lo<q/\∃z,M.stk (uL g) B q=(lo,z)::M.stk (uL g) B lo:=λh=>by
  obtain⟨z,k,a,_⟩:=kH _ B q lo x n h C;exact⟨k,z,a⟩
 have bin:M.ar (B q).kind=2->∃s r f x y,urA t g N B lo q s i r f x y:=λh=>by
  obtain⟨s,y,z,W,Y,aa,ab,hx,S,T⟩:=xJ _ B q lo x n h C;obtain⟨sx,r,k⟩:=A s (by omega) lo i z (by omega) (n.less (by omega)) ab;obtain⟨sy,f,a⟩:=A q (by omega) s r y (by omega) (n.less (by omega)) aa;exact⟨s,r,f,sx,sy,W,Y,S,T,k,a⟩
 rcases(by omega:(B q).kind=1\/((B q).kind≠1/\(B q).kind<4)\/(B q).kind=6\/(B q).kind=7\/(B q).kind=4\/(B q).kind=5) with e|e|e|e|e|e
 ·exact⟨(qi t (B q).sl (B q).set i).1,(qi t (B q).sl (B q).set i).2,by have:=ugz t (F.2.2.1 e) i;omega,.set e rfl⟩
 ·have hf:=M.text_size x (udQ J B (q+1) (λi hi=>I i (by omega)) (lo,x) (by rw[C];simp));have hz:x.sz=1:=by
   rw[xT _ B q lo x (by unfold M.ar;rw[if_neg (by omega),if_neg (by omega)]) C];exact(ucW g (B q) _ _).2.2 (by unfold M.ar;rw[if_neg (by omega),if_neg (by omega)])
  refine⟨x.text,i,by omega,.leaf e.1 e.2 (λQ Z la rc lc b off H l o c w k a d D=>?_) rfl⟩;exact ud6 Q Z la rc lc g J b off N B V I (q+1) lo o c l x w X n C a k d D.ops D.gr
 ·obtain⟨k,z,a⟩:=un (by simp[M.ar,e]);obtain⟨s,j,d⟩:=A q (by omega) lo i z (by omega) (n.less (by omega)) a;refine⟨_,_,?_,.star s e k d rfl⟩;have:=M.grp_size (decide (4<=(B (q-1)).kind)) s;have:=d.1;simp only[ByteArray.size_append,b1_size];omega
 ·obtain⟨k,z,a⟩:=un (by simp[M.ar,e]);by_cases E:(B (q-1)).kind=7
  ·obtain⟨p,rfl⟩:∃p,q=p+1:=⟨q-1,by omega⟩;obtain⟨z2,D,U,_⟩:=kH _ B p lo z (n.less (by omega)) (by simp[M.ar,show(B p).kind=7 from E]) a;obtain⟨s,j,d⟩:=A p (by omega) lo i z2 (by omega) (n.less (by omega)) U;refine⟨_,_,?_,.and s e D E d rfl⟩;have:=M.grp_size ((B (p+1-2)).kind==4||(B (p+1-2)).kind==5) s;have:=d.1;simp only[ByteArray.size_append,b1_size];omega
  obtain⟨s,j,d⟩:=A q (by omega) lo i z (by omega) (n.less (by omega)) a;refine⟨_,_,?_,.not s e k E d rfl⟩;have:=M.grp_size ((B (q-1)).kind==4||(B (q-1)).kind==5) s;have:=d.1;simp only[ByteArray.size_append,b1_size];omega
 ·obtain⟨s,r,f,x,y,u⟩:=bin (by simp[M.ar,e]);refine⟨_,_,?_,.bin s r f x y u (.inl ⟨e,rfl,rfl⟩)⟩;have:=M.grp_size ((B (s-1)).kind==5) x;have:=M.grp_size ((B (q-1)).kind==5||(B (q-1)).kind==4) y;have:=jJ (t.v f);obtain⟨L,O,_,_,⟨P,_⟩,R,_⟩:=u;simp only[ByteArray.size_append];omega
 obtain⟨s,r,f,x,y,u⟩:=bin (by simp[M.ar,e]);by_cases G:(B (q-1)).kind=0/\(B (s-1)).kind<4
 ·refine⟨_,_,?_,.bin s r f x y u (.inr (.inl ⟨e,G.1,G.2,rfl,rfl⟩))⟩;obtain⟨L,O,_,_,⟨P,_⟩,R,_⟩:=u;have:(⟨#[41,63]⟩:ByteArray).size=2:=rfl;simp only[ByteArray.size_append,b1_size];omega
 refine⟨_,_,?_,.bin s r f x y u (.inr (.inr ⟨e,G,rfl,rfl⟩))⟩;have:=M.grp_size ((B (q-1)).kind==5) (if (y.toList == [34,34])=true then ⟨#[]⟩ else y);have:(if (y.toList == [34,34])=true then (⟨#[]⟩:ByteArray) else y).size<=y.size:=by split;exact Nat.zero_le _;exact Nat.le_refl _
 have:=jJ (t.v f);obtain⟨L,O,_,_,⟨P,_⟩,R,_⟩:=u;simp only[ByteArray.size_append,b1_size];omega
theorem uh2(J:Q b)(hQ:∀b,Q b->b≠R/\b<H)(hN:N<=2000)(ao:∀i,i<N->M.ElemOK g.nr g.nb (B i))(q lo i:Nat)(hq:q+1<=N)(s0:ByteArray)(j0:Nat)(ap:s0.size+2<=1300*(q+1-lo))(L:Kd t g N B q lo (t.n i) s0 j0)
  (l o c:Nat) (w:World) (hl:l+lo=q+1) (bc:lo<q+1) (ho:o=off+lo*3) (hc:l<=c) (hM:LM Q ra la g b off N H B w) (hR:RdA t R w i) :
  Calls Tryz.prog 56 #[.agg #[.slice ra g.nr rc,.slice la g.nb lc],.slice (some ⟨b,o,none⟩) l c,.pointer (some ⟨R,0,none⟩)] w (ugx (if t.v i%14=1 then b1 40++s0++b1 41 else s0) t R j0 w):=by
 obtain⟨s1,ai⟩:=nm (if t.v i%14=1 then b1 40++s0++b1 41 else s0);rw[ai];have aa:=ua ai;clear ai;have hv:=t.v_le i;have a6:=hR.lt;obtain⟨n,rfl⟩:∃n,l=n+1:=⟨l-1,by omega⟩;obtain⟨c0,⟨sa,sc,c1,aq⟩,c2⟩:=hM.ops q (by omega);rw[show off+q*3=o+n*3 by omega]at c0 c1 c2;have a7:=ub c0;have x2:((n+1:Nat):Int)-1=(n:Int):=by omega
 have x3:(n:Int)<((n+1:Nat):Int):=by omega
 have be:n<=2000:=by omega
 have F:=ua hM;have HK:=ua L;have aw:=ua ao;have G:=ua hQ;have HS:=ua ap;have r:Hid (n+lo=q/\o=off+lo*3):=⟨by omega,ho⟩;have K0:=ua (((Keep.alloc (λ_=>False) w (.cells #[.slice ra g.nr rc,.slice la g.nb lc] 28))).trans (Keep.alloc _ _ (.cells #[.int .i64 (B q).kind,.slice sa (B q).sl sc,.int .i64 (B q).arg] 123)));have Y:=ua ((uw w #[.slice ra g.nr rc,.slice la g.nb lc] 28).al (.cells #[.int .i64 (B q).kind,.slice sa (B q).sl sc,.int .i64 (B q).arg] 123));have Z:=ua (yo (w.alloc (.cells #[.slice ra g.nr rc,.slice la g.nb lc] 28)) #[.int .i64 (B q).kind,.slice sa (B q).sl sc,.int .i64 (B q).arg] 123 (w.heap.size+1) (by simp));have af:=ua aq;clear hM L ao hQ ap hl ho aq;go_enter Tryz.func56,Tryz.ntmps56;go_upto_region 3 with fail;generalize (w.alloc (.cells #[.slice ra g.nr rc,.slice la g.nb lc] 28)).alloc _=W0 at *;go_wp2_with fail;refine(uu t R i W0 (hR.keep K0 (λ_ e=>e.elim))).mono ?_;rintro e W1 ⟨rfl,a⟩;have A:Hid (RdOn t R (t.n i) w W1):=⟨a.1,(K0.mono (λ_ e=>e.elim)).trans a.2⟩;replace Y:=ua (Y.keepR a.2 (by omega));replace Z:=ua (Z.keepR a.2 (by omega));replace F:=ua (F.keep A.2 J G);replace af:=ua (af.keepR A.2 (λb q=>(G b q).1));clear a K0 c0 c1 c2 hR;obtain⟨z,p,lz⟩:=Y.x;obtain⟨yy,rr,ly⟩:=Z.x;have ac:w.heap.size≠R:=by omega
 have ad:w.heap.size+1≠R:=by omega
 generalize t.v i=k at *;generalize t.n i=i1 at *;obtain⟨d,hd⟩:=nm (k%14);have hd':(k:Int)%14=(d:Int):=by omega
 rw[hd]at aa;go_upto_if 32 with fail;simp only[hd'];clear hd hd' hv;go_cut [10] (λv wc=>v=.string s0/\RdOn t R j0 w wc)
 case first =>
  have hE:=aw q (by omega);have ay:=HK;clear HK;cases ay with
  |set e E =>
   have f1:((B q).kind==1)=true:=(by simp[e]);have T:=ua (hE.2.2.1 e);have P:=ua E;clear hE e E;go_wp2_with fail;refine(udc t R i1 Q sa (B q).sl sc (B q).set T (λb q=>(G b q).1) W1 af A.1).mono ?_;rintro e W2 ⟨rfl,a⟩;have D:=ua (A.trans a);clear a;rw[<-P.out]at D ⊢;go_wp2;go_meet;exact⟨rfl,D⟩
  |leaf h1 h4 hT hj =>
   subst hj;have f1:((B q).kind==1)=false:=(by simp[h1]);have HT:=ua hT;clear hE hT h1;go_wp2_with fail;refine(HT.out Q ra la rc lc b off H (n+1) o c W1 (by have:=r.out;omega) r.out.2 hc F.out).mono ?_;rintro e W2 ⟨rfl,C⟩;have D:=ua (A.quiet (vR C));clear C;go_wp2;go_meet;exact⟨rfl,D⟩
  |star s e an hL E =>
   have f1:((B q).kind==1)=false:=(by simp[e]);have f4:¬(B q).kind<4:=(by omega);have f6:((B q).kind==6)=true:=(by simp[e]);have T:=ua hL;have P:=ua E;have z6:=ux n (by omega);have hcj':n<=c:=(by omega);have ak:n<c:=(by omega);have am:¬c=0:=(by omega);clear hE hL e E;go_wp2_with fail;go_region_law (refine xK qj rfl (.tmp 46) (.tmp 50) (.tmp 51) 28 71 45 rfl (y1:=.agg #[.slice ra g.nr rc,.slice la g.nb lc]) (y2:=.slice (some ⟨b,o,none⟩) n c) (y3:=.pointer (some ⟨R,0,none⟩)) (by simp[Act.eval]) (by simp[Act.eval]) (by simp[Act.eval]) ((T.2 R Q ra la rc lc b off H J G n o c W1.drew r.1 r.2 hcj' (F.keep (Keep.drew _ _) J G) (A.1.keep (Keep.drew (λ_=>False) _) (λ_ e=>e.elim))).mono ?_);rintro e W2 ⟨rfl,a⟩;have D:=ua ((A.quiet (Keep.drew _ _)).trans a);have av:=ua ((F.keep (Keep.drew _ _) J G).keep a.2 J G);clear a;refine⟨_,rfl,?_⟩);have hz:=T.1;have S:=(av.ops (q-1) (by omega)).kind;obtain⟨m,hm⟩:∃m,n=m+1:=⟨n-1,by have:=r.out;omega⟩;rw[show off+(q-1)*3=o+m*3 by have:=r.out;omega]at S;have lb:=ub S;have x5:(n:Int)+1-2=(m:Int):=(by omega);have x6:(m:Int)<(n:Int)+1:=(by omega);have U:=M.grp_size (decide (4<=(B (q-1)).kind)) s;have HG:=ua (uX s (decide (4<=(B (q-1)).kind)) W2 (by omega));clear hm;generalize (B (q-1)).kind=f at *;go_wp2_with fail;refine HG.mono ?_;rintro e W3 ⟨rfl,C⟩;replace D:=ua (D.quiet (vR C));generalize grp (decide (4<=f)) s=u at *;clear C;go_wp2;go_meet;exact⟨by rw[P.out];rfl,D⟩
  |and s e an e7 hL E =>
   have f1:((B q).kind==1)=false:=(by simp[e]);have f4:¬(B q).kind<4:=(by omega);have f6:((B q).kind==6)=false:=(by simp[e]);have f7:((B q).kind==7)=true:=(by simp[e]);have T:=ua hL;have S:=(F.ops (q-1) (by omega)).kind;have d1:=(F.ops (q-2) (by omega)).kind;obtain⟨m,hm⟩:∃m,n=m+2:=⟨n-2,by have:=r.out;omega⟩;obtain⟨V,a1⟩:=nm (m+1);rw[show off+(q-1)*3=o+V*3 by have:=r.out;omega,e7]at S;rw[show off+(q-2)*3=o+m*3 by have:=r.out;omega]at d1;have z6:=ux V (by omega);have hcj':V<=c:=(by omega);have ak:V<c:=(by omega);have am:¬c=0:=(by omega);have lb:=ub S;have x4:(2:Int)<(n:Int)+1:=(by omega);have x5:(n:Int)+1-2=(V:Int):=(by omega);have x6:(V:Int)<(n:Int)+1:=(by omega);have x7:(n:Int)+1-3=(m:Int):=(by omega);have x8:(m:Int)<(n:Int)+1:=(by omega);have hz:=T.1;have HG:Hid (∀(c:Bool) (W:World),Calls Tryz.prog 82 #[.string s,.bool c] W (yf (grp c s) W)):=λc W=>uX s c W (by omega)
   have U:∀c,(grp c s).size<=s.size+2:=λc=>M.grp_size c s
   generalize (B (q-2)).kind=f at *;obtain⟨X,O⟩:=nm (f==4||f==5);rw[O]at E;have P:=ua E;replace r:Hid (V+lo=q-1/\o=off+lo*3):=⟨by have:=r.out;omega,r.out.2⟩;clear hE hL e E e7 hm a1;go_wp2_with fail;go_region_law (refine xK qj rfl (.tmp 83) (.tmp 87) (.tmp 88) 28 71 45 rfl (y1:=.agg #[.slice ra g.nr rc,.slice la g.nb lc]) (y2:=.slice (some ⟨b,o,none⟩) V c) (y3:=.pointer (some ⟨R,0,none⟩)) (by simp[Act.eval]) (by simp[Act.eval]) (by simp[Act.eval]) ((T.out.2 R Q ra la rc lc b off H J G.out V o c W1.drew (by have:=r.out;omega) r.out.2 hcj' (F.out.keep (Keep.drew _ _) J G.out) (A.out.1.keep (Keep.drew (λ_=>False) _) (λ_ e=>e.elim))).mono ?_);rintro e W2 ⟨rfl,a⟩;have D:=ua ((A.out.quiet (Keep.drew _ _)).trans a);clear a;refine⟨_,rfl,?_⟩);by_cases L:f=4
   ·have g4:(f==4)=true:=(by simp[L]);obtain rfl:X=true:=(by rw[<-O,g4];rfl);clear L O;go_wp2_with fail;refine(HG true W2).mono ?_;rintro e W3 ⟨rfl,C⟩;replace D:=ua (D.quiet (vR C));have ag:=U true;generalize grp true s=u at *;clear C U;go_wp2;go_meet;exact⟨by rw[P.out];rfl,D⟩
   have g4:(f==4)=false:=(by simp[L]);obtain rfl:(f==5)=X:=(by rw[<-O,g4];rfl);clear L O;go_wp2_with fail;refine(HG (f==5) W2).mono ?_;rintro e W3 ⟨rfl,C⟩;replace D:=ua (D.quiet (vR C));have ag:=U (f==5);generalize grp (f==5) s=u at *;clear C U;go_wp2;go_meet;exact⟨by rw[P.out];rfl,D⟩
  |not s e an e7 hL E =>
   have f1:((B q).kind==1)=false:=(by simp[e]);have f4:¬(B q).kind<4:=(by omega);have f6:((B q).kind==6)=false:=(by simp[e]);have f7:((B q).kind==7)=true:=(by simp[e]);have T:=ua hL;have z6:=ux n (by omega);have hcj':n<=c:=(by omega);have ak:n<c:=(by omega);have am:¬c=0:=(by omega);have S:=(F.ops (q-1) (by omega)).kind;obtain⟨m,hm⟩:∃m,n=m+1:=⟨n-1,by have:=r.out;omega⟩;rw[show off+(q-1)*3=o+m*3 by have:=r.out;omega]at S;have lb:=ub S;have x5:(n:Int)+1-2=(m:Int):=(by omega);have x6:(m:Int)<(n:Int)+1:=(by omega);have hz:=T.1;have HG:Hid (∀(c:Bool) (W:World),Calls Tryz.prog 82 #[.string s,.bool c] W (yf (grp c s) W)):=λc W=>uX s c W (by omega)
   have U:∀c,(grp c s).size<=s.size+2:=λc=>M.grp_size c s
   generalize (B (q-1)).kind=f at *;have g7:(f==7)=false:=(by simp[e7]);obtain⟨X,O⟩:=nm (f==4||f==5);rw[O]at E;have P:=ua E;clear hE hL e E e7 hm;rcases(by omega:(2:Int)<(n:Int)+1\/¬(2:Int)<(n:Int)+1) with a2|a2;all_goals
    go_wp2_with fail;go_region_law (refine xK qj rfl (.tmp 105) (.tmp 109) (.tmp 110) 28 71 45 rfl (y1:=.agg #[.slice ra g.nr rc,.slice la g.nb lc]) (y2:=.slice (some ⟨b,o,none⟩) n c) (y3:=.pointer (some ⟨R,0,none⟩)) (by simp[Act.eval]) (by simp[Act.eval]) (by simp[Act.eval]) ((T.out.2 R Q ra la rc lc b off H J G.out n o c W1.drew (by have:=r.out;omega) r.out.2 hcj' (F.out.keep (Keep.drew _ _) J G.out) (A.out.1.keep (Keep.drew (λ_=>False) _) (λ_ e=>e.elim))).mono ?_);rintro e W2 ⟨rfl,a⟩;have D:=ua ((A.out.quiet (Keep.drew _ _)).trans a);clear a;refine⟨_,rfl,?_⟩);by_cases L:f=4
    ·have g4:(f==4)=true:=(by simp[L]);obtain rfl:X=true:=(by rw[<-O,g4];rfl);clear L O;go_wp2_with fail;refine(HG true W2).mono ?_;rintro e W3 ⟨rfl,C⟩;replace D:=ua (D.quiet (vR C));have ag:=U true;generalize grp true s=u at *;clear C U;go_wp2;go_meet;exact⟨by rw[P.out];rfl,D⟩
    have g4:(f==4)=false:=(by simp[L]);obtain rfl:(f==5)=X:=(by rw[<-O,g4];rfl);clear L O;go_wp2_with fail;refine(HG (f==5) W2).mono ?_;rintro e W3 ⟨rfl,C⟩;replace D:=ua (D.quiet (vR C));have ag:=U (f==5);generalize grp (f==5) s=u at *;clear C U;go_wp2;go_meet;exact⟨by rw[P.out];rfl,D⟩
  |bin s jx jy x y C hs =>
   have ah:(B q).kind=4\/(B q).kind=5:=(by rcases hs with h|h|h;exact .inl h.1;exact .inr h.1;exact .inr h.1);have f1:((B q).kind==1)=false:=(by simp;omega);have f4:¬(B q).kind<4:=(by omega);have f6:((B q).kind==6)=false:=(by simp;omega);have f7:((B q).kind==7)=false:=(by simp;omega);obtain⟨bd,bi,ax,aj,hX,hY⟩:=C;obtain⟨u,hu⟩:∃u,s=lo+u+1:=⟨s-lo-1,by omega⟩;obtain⟨I,a3⟩:=nm (u+1);have bj:=hX.1;have bk:=hY.1;have HX:=ua hX.2;have HY:=ua hY.2;have S:=(F.ops (q-1) (by omega)).kind;have d1:=(F.ops (s-1) (by omega)).kind;obtain⟨m,hm⟩:∃m,n=m+1:=⟨n-1,by have:=r.out;omega⟩;rw[show off+(q-1)*3=o+m*3 by have:=r.out;omega]at S;rw[show off+(s-1)*3=o+u*3 by have:=r.out;omega]at d1;have HT:=ua (xd b o (n+1) c (λi=>B (lo+i)) W1 Q (λi hi=>by have:=F.out.ops (lo+i) (by have:=r.out;omega);rwa [show off+(lo+i)*3=o+i*3 by have:=r.out;omega]at this) (by omega) n I (by omega) (by have:=r.out;omega)
    (by rw[vy,vy,show lo+I=s by omega,show lo+n=q by have:=r.out;omega];omega) (λj h1 h2=>by rw[vy,vy,show lo+n=q by have:=r.out;omega];have:=aj (lo+j) (by omega) (by have:=r.out;omega);omega))
   have bf:I<n:=(by have:=r.out;omega);have hpn':(I:Int)<(n:Int):=(by omega);have bg:(I:Int)<=(n:Int):=(by omega);have bh:I<=n:=(by omega);have z5:=ux I (by omega);have z6:=ux n (by omega);have a8:I<=c:=(by omega);have a9:n<=c:=(by omega);have ba:¬c=I:=(by omega);have lb:=ub S;have x4:(I:Int)-1=(u:Int):=(by omega);have x5:(n:Int)+1-2=(m:Int):=(by omega);have x6:(m:Int)<(n:Int)+1:=(by omega);have x8:(u:Int)<(n:Int)+1:=(by omega);generalize (B (q-1)).kind=f at *;generalize (B (s-1)).kind=kx at *;have HH:=ua hs;replace r:Hid (n+lo=q/\o=off+lo*3/\s=lo+I):=⟨r.1,r.2,by omega⟩;clear hE hX hY hs hm hu a3 ax aj;go_wp2_with fail;refine HT.mono ?_;rintro e W ⟨rfl,hw⟩;subst hw;go_wp2_with fail;go_region_law (refine xK qj rfl (.tmp 137) (.tmp 140) (.tmp 141) 28 71 45 rfl (y1:=.agg #[.slice ra g.nr rc,.slice la g.nb lc]) (y2:=.slice (some ⟨b,o,none⟩) I c) (y3:=.pointer (some ⟨R,0,none⟩)) (by simp[Act.eval]) (by simp[Act.eval]) (by simp[Act.eval]) ((HX.out R Q ra la rc lc b off H J G.out I o c W1.drew (by have:=r.out;omega) (by have:=r.out;omega) (by omega) (F.out.keep (Keep.drew _ _) J G.out) (A.out.1.keep (Keep.drew (λ_=>False) _) (λ_ e=>e.elim))).mono ?_);rintro e W2 ⟨rfl,a⟩;replace A:=ua ((A.out.quiet (Keep.drew _ _)).trans a);replace F:=ua ((F.out.keep (Keep.drew _ _) J G.out).keep a.2 J G.out);replace Z:=ua ((Z.out.keepR (Keep.drew _ _) ad).keepR a.2 ad);replace Y:=ua ((Y.out.keepR (Keep.drew _ _) ac).keepR a.2 ac);clear a;refine⟨_,rfl,?_⟩);obtain⟨z2,p2,l2⟩:=Y.x;clear z p lz yy rr ly S d1 lb;go_wp2_with fail;go_region_law (refine xK qj rfl (.tmp 143) (.tmp 148) (.tmp 149) 28 71 45 rfl (y1:=.agg #[.slice ra g.nr rc,.slice la g.nb lc]) (y2:=.slice (some ⟨b,o+I*3,none⟩) (n-I) (c-I)) (y3:=.pointer (some ⟨R,0,none⟩)) (by simp[Act.eval]) (by simp[Act.eval]) (by simp[Act.eval]) ((HY.out R Q ra la rc lc b off H J G.out (n-I) (o+I*3) (c-I) W2.drew (by have:=r.out;omega) (by have:=r.out;omega) (by omega) (F.out.keep (Keep.drew _ _) J G.out) (A.out.1.keep (Keep.drew (λ_=>False) _) (λ_ e=>e.elim))).mono ?_);rintro e W3 ⟨rfl,a⟩;replace A:=ua ((A.out.quiet (Keep.drew _ _)).trans a);replace F:=ua ((F.out.keep (Keep.drew _ _) J G.out).keep a.2 J G.out);replace Z:=ua ((Z.out.keepR (Keep.drew _ _) ad).keepR a.2 ad);replace Y:=ua ((Y.out.keepR (Keep.drew _ _) ac).keepR a.2 ac);clear a;refine⟨_,rfl,?_⟩);obtain⟨z3,p3,l3⟩:=Z.x;clear z2 p2 l2;have au:Hid (∀(c:Bool) (W:World),Calls Tryz.prog 82 #[.string x,.bool c] W (yf (grp c x) W)):=λc W=>uX x c W (by omega)
   have ae:Hid (∀(c:Bool) (W:World) (z:ByteArray),z.size<=y.size->Calls Tryz.prog 82 #[.string z,.bool c] W (yf (grp c z) W)):=λc W z h=>uX z c W (by omega)
   have a5:=jJ (t.v jy);have a0:=HH;clear HH;rcases a0 with⟨e4,E,ej⟩|⟨e5,e0,ek,E,ej⟩|⟨e5,e0,E,ej⟩
   ·have f5:((B q).kind==4)=true:=(by simp[e4]);obtain⟨X,O⟩:=nm (f==5||f==4);rw[O]at E;have bb:=M.grp_size (kx==5) x;have az:=M.grp_size X y;have P:=ua E;subst ej;clear E e4 ah;go_wp2_with fail;refine(ubS t R jy W3 A.1).mono ?_;rintro e W4 ⟨rfl,a⟩;replace A:=ua (A.trans a);clear a;generalize gapT (t.v jy)=gp at *;go_wp2_with fail;refine(au (kx==5) W4).mono ?_;rintro e W5 ⟨rfl,C⟩;replace A:=ua (A.quiet (vR C));clear C;generalize grp (kx==5) x=gx at *;by_cases L:f=5
    ·have g5:(f==5)=true:=(by simp[L]);obtain rfl:X=true:=(by rw[<-O,g5,Bool.true_or]);clear L O;go_wp2_with fail;refine(ae true W5 y (Nat.le_refl _)).mono ?_;rintro e W6 ⟨rfl,C⟩;replace A:=ua (A.quiet (vR C));clear C;generalize grp true y=gy at *;go_wp2;go_meet;exact⟨by rw[P.out],A⟩
    have g5:(f==5)=false:=(by simp[L]);obtain rfl:(f==4)=X:=(by rw[<-O,g5,Bool.false_or]);clear L O;go_wp2_with fail;refine(ae (f==4) W5 y (Nat.le_refl _)).mono ?_;rintro e W6 ⟨rfl,C⟩;replace A:=ua (A.quiet (vR C));clear C;generalize grp (f==4) y=gy at *;go_wp2;go_meet;exact⟨by rw[P.out],A⟩
   ·have f5:((B q).kind==4)=false:=(by simp[e5]);have g0:(f==0)=true:=(by simp[e0]);subst ej;have P:=ua E;clear E e5 e0 ah;go_wp2;go_meet;exact⟨by rw[P.out];rfl,A⟩
   have f5:((B q).kind==4)=false:=(by simp[e5]);obtain⟨y',ab⟩:=nm (if (y.toList == [34,34])=true then (⟨#[]⟩:ByteArray) else y);rw[ab]at E;have a4:y'.size<=y.size:=(by rw[<-ab];split;exact Nat.zero_le _;exact Nat.le_refl _);have az:=M.grp_size (f==5) y';have P:=ua E;have HY':=ua ab;subst ej;have h0:((f==0)=false\/(f==0)=true/\¬kx<4):=(by by_cases e:f=0;exact .inr ⟨by simp[e],by omega⟩;exact .inl (by simp[e]));clear E e5 ah ab e0;rcases h0 with g0|⟨g0,gx⟩;all_goals
    go_upto_if 181 with fail;go_cut [17] (λv wc=>v=.string y'/\wc=W3)
    case first =>
     go_wp2;all_goals rename_i h
     all_goals go_meet
     all_goals exact⟨by rw[<-HY'.out,h];rfl,rfl⟩
    case rest =>
     obtain⟨rfl,hw⟩:=hcut;subst hw;go_wp2_with fail;refine(ubS t R jy _ A.1).mono ?_;rintro e W4 ⟨rfl,a⟩;replace A:=ua (A.trans a);clear a;generalize gapT (t.v jy)=gp at *;go_wp2_with fail;refine(ae (f==5) W4 y' a4).mono ?_;rintro e W5 ⟨rfl,C⟩;replace A:=ua (A.quiet (vR C));clear C;generalize grp (f==5) y'=gy at *;go_wp2;go_meet;exact⟨by rw[P.out];rfl,A.out⟩
 case rest =>
  obtain⟨rfl,a⟩:=hcut;have D:=ua a;have hs:=HS.out;clear a;by_cases e:d=1
  ·have b1:((d:Int)==1)=true:=(by simp[e]);rw[if_pos e]at aa;clear e;go_wp2;go_ret;exact⟨by rw[<-aa.out];rfl,D⟩
  have b1:((d:Int)==1)=false:=by simp;omega
  rw[if_neg e]at aa;clear e;go_wp2;go_ret;exact⟨by rw[<-aa.out];rfl,D⟩
theorem ugA(A:M.Sound g)(h:∀i,i<N->M.ElemOK g.nr g.nb (B i))(d:N<=2000)(m:Nat):∀lo i x,m<=N->M.Fed B m->M.stk (uL g) B m=(lo,x)::M.stk (uL g) B lo->∃s j,LoC t g N B lo m i s j:=by
 induction m using Nat.strongRecOn with
 |_ m I =>
  intro lo i x f a k;obtain⟨e,_,_⟩:=M.stk_cons _ B m a lo x _ k;obtain⟨q,rfl⟩:∃q,m=q+1:=⟨m-1,by omega⟩;obtain⟨s0,p,G,D⟩:=urB A h d q lo (t.n i) x f a k e I;refine⟨if t.v i%14=1 then b1 40++s0++b1 41 else s0,p,?_,λR Q J la L lc b off H y u l o c w E F C r z=>uh2 y u d h q lo i f s0 p G D l o c w E e F C r z⟩;split
  ·simp only[ByteArray.size_append,b1_size];omega
  omega
end
end Go.Proofs.YtpghlcdkfldlpaaGreat
