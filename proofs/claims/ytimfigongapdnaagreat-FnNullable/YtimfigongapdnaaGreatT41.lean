import Derived.Test.YtimfigongapdnaaGreatT40
import Derived.Test.YtimfigongapdnaaGreatT17
set_option linter.unusedVariables false
set_option linter.unusedSimpArgs false
set_option maxHeartbeats 40000000
set_option maxRecDepth 100000
namespace Go.Proofs.YtimfigongapdnaaGreat
open Go.RowKit
open M (OpD ug Gr)
theorem uo9 w z c n(b:c=(z.map (Value.int .u8)).toArray)(d:n=z.length)(e:0<n):BufI .u8 w z (.slice (some ⟨w.heap.size,0,none⟩) n n) (ub1 w c):=by
 subst d b;refine⟨.inr ⟨w.heap.size,z.length,rfl,⟨Nat.le_refl _,by rw[ueJ];omega⟩,by rw[xR,Nat.mul_one],Nat.le_refl _,λj a=>?_,λj a=>?_⟩,ukM _ _⟩
 ·rw[ueK,uad];simp
 rw[Nat.mul_one]at a;refine⟨?_,ugS _ _ _ (by simpa using a)⟩;rw[ueK];simp[a]
theorem ufK{ops:Array Oper}{rest o a b W}z{cs n}(g:o.guard=none)x(j:o.op=.convert 22 22 x)(k:a.eval x=.slice (some ⟨W.heap.size,0,none⟩) n n)(f:cs=(z.map (Value.int .u8)).toArray)(i:n=z.length)(d:0<n)(h:∀c,Hid (BufI .u8 W z (.slice (some ⟨W.heap.size,0,none⟩) n n) c)->wpList Tryz.prog ops b rest (a.put o.dst (.slice (some ⟨W.heap.size,0,none⟩) n n)) c):wpList Tryz.prog ops b (o::rest) a (W.alloc (.cells cs 5)) :=
 uq9 g x j k (λw' e=>h w' (e▸uo9 W z cs n f i d))
theorem ujL{z y t R j w w1 w' a n c}(d:RdOn t R j w w1)(b:BufI .u8 w1 z (.slice a n c) w')(e:z=y):ukL y t R j w (.returned (.slice a n c)) w':=by
 subst e;obtain⟨f,g,q⟩:=b.shape;injection q with q1 q2 q3;subst q1 q2 q3;exact ufz d b
def rowsT:Nat->List Int
 |0=>[]
 |k+1=>rowsT k++bL (⟨#[114]⟩++⟨(kI k).toArray⟩++⟨#[61,59]⟩)
theorem umC u:(⟨(kI u).toArray⟩:ByteArray).size<=u+1:=ufD u
theorem ub4:∀j,j<=101->(rowsT j).length<=110*j
 |0,_=>Nat.le_refl _
 |j+1,h=>by
  have a:=ub4 j (by omega);have b:=umC j;have c:(⟨#[114]⟩:ByteArray).size=1:=rfl;have d:(⟨#[61,59]⟩:ByteArray).size=2:=rfl;rw[rowsT,List.length_append,uie];simp only[ByteArray.size_append];omega
def uir(k d:Nat):List Int :=
 if k=0 then [115,32,61,32,46,59,35]++List.replicate (3992+d) 61
 else if k=1 then [115,32,61,32]++List.replicate (998+d) 47++[59]
 else if k=2 then rowsT (99+d)
 else [115,32,61,32,94,110]++List.replicate (30+d) 48++bL ⟨#[32,59]⟩
def tlI(w:World)(z:List Int)(c:Int)(n:Nat)(a:Value)(wr:World):Prop:=∃k:Nat,k<=n/\BufI .u8 w (z++List.replicate k c) a wr
def uqF:Value->Nat
 |.slice _ n _=>n
 |_=>0
theorem udn z(k:Nat)(c:Int):z++List.replicate k c++[c]=z++List.replicate (k+1) c:=by rw[List.replicate_succ',List.append_assoc]
theorem ucL t R i w(h:RdA t R w i):Calls Tryz.prog 47 #[.pointer (some ⟨R,0,none⟩)] w (ukL (uir (t.v i%4) (t.v (t.n i)%3)) t R (t.n (t.n i)) w):=by
 have v1:=t.v_le i;have v2:=t.v_le (t.n i);go_enter Tryz.func47,Tryz.ntmps47;go_wp2_with fail;refine(uw t R i w h).mono ?_;rintro e w1 ⟨rfl,J⟩;go_wp2_with fail;refine(uw t R _ w1 J.1).mono ?_;rintro e u ⟨rfl,V⟩;have G:=ua (J.trans V);clear h J V;generalize t.v i=P at *;generalize t.v (t.n i)=Q at *;obtain⟨k,E⟩:=nm (P%4);have hk':(P:Int)%4=(k:Int):=by omega
 obtain⟨d,D⟩:=nm (Q%3);have hd':(Q:Int)%3=(d:Int):=by omega
 have aa:d<=2:=by omega
 obtain⟨z,g⟩:=nm (uir (P%4) (Q%3));have I:=ua g.symm;rw[E,D]at g;unfold uir at g;by_cases s:k=0
 ·have b0:((k:Int)==0)=true:=by simp[s]
  rw[if_pos s]at g;have q:=ua g;clear g s E D;go_wp2_with (refine ufK [115,32,61,32,46,59,35] rfl _ rfl rfl rfl rfl (by omega) ?_;intro S y);generalize (some ⟨u.heap.size,0,none⟩:Option Addr)=T at *;go_loopw [5] (λm wr=>tlI u [115,32,61,32,46,59,35] 61 (3992+d) m wr) (λm _=>4000+d-uqF m)
  case atStart=>exact⟨0,Nat.zero_le _,y.out⟩
  case round =>
   obtain⟨j,N,b⟩:=hrel;obtain⟨a,c,rfl⟩:=b.shape;have l:([115,32,61,32,46,59,35]++List.replicate j (61:Int)).length=7+j:=(by simp;omega);simp only[l]at b ⊢;have o:=ua b;have f:=ua l;clear l;clear b;by_cases O:j<3992+d
   ·have r:((7+j:Nat):Int)<4000+((d:Int)-1):=(by omega);go_wp2_with (at_builtin;refine ufv rfl _ _ rfl rfl rfl o.out (by rw[f.out];omega) ?_;intro B C A X;rw[f.out,udn]at X;rw[f.out]);go_roundw
    case rel=>exact⟨j+1,by omega,X.out⟩
    case measure=>simp[uqF];omega
   have r:¬((7+j:Nat):Int)<4000+((d:Int)-1):=(by omega);obtain rfl:j=3992+d:=(by omega);go_wp2;go_ret;exact ujL G o (q.trans I)
 have b0:((k:Int)==0)=false:=by simp;omega
 rw[if_neg s]at g;by_cases x:k=1
 ·have b1:((k:Int)==1)=true:=by simp[x]
  rw[if_pos x]at g;have q:=ua g;clear g s x E D;go_wp2_with (refine ufK [115,32,61,32] rfl _ rfl rfl rfl rfl (by omega) ?_;intro S y);generalize (some ⟨u.heap.size,0,none⟩:Option Addr)=T at *;go_loopw [6,7] (λm p wr=>(∃j:Nat,j<=998+d/\p=.int .i64 ((0+j:Nat):Int)/\BufI .u8 u ([115,32,61,32]++List.replicate j 47) m wr)) (λm p _=>998+d+0-(intOf p).toNat)
  case atStart=>exact⟨0,Nat.zero_le _,rfl,y.out⟩
  case round =>
   obtain⟨j,N,rfl,b⟩:=hrel;obtain⟨a,c,rfl⟩:=b.shape;have l:([115,32,61,32]++List.replicate j (47:Int)).length=4+j:=(by simp;omega);simp only[l]at b ⊢;have o:=ua b;have f:=ua l;clear l b;by_cases O:j<998+d
   ·have r:((0+j:Nat):Int)<999+((d:Int)-1):=(by omega);go_wp2_with (at_builtin;refine ufv rfl _ _ rfl rfl rfl o.out (by rw[f.out];omega) ?_;intro B C A X;rw[f.out,udn]at X;rw[f.out]);go_roundw
    case rel=>exact⟨j+1,by omega,by first|rfl|(congr 1;omega),X.out⟩
    case measure=>simp[intOf];omega
   have r:¬((0+j:Nat):Int)<999+((d:Int)-1):=(by omega);obtain rfl:j=998+d:=(by omega);go_wp2_with (at_builtin;refine ufv rfl _ _ rfl rfl rfl o.out (by rw[f.out];omega) ?_;intro B C A X;rw[f.out]at X;rw[f.out]);go_ret;exact ujL G X (q.trans I)
 have b1:((k:Int)==1)=false:=by simp;omega
 rw[if_neg x]at g;by_cases F:k=2
 ·have b2:((k:Int)==2)=true:=by simp[F]
  rw[if_pos F]at g;have q:=ua g;clear g s x F E D;go_wp2;simp only[hd'];clear hd' hk';go_loopw [8,9] (λm p wr=>(∃j:Nat,j<=99+d/\p=.int .i64 (j:Int)/\BufI .u8 u (rowsT j) m wr)) (λm p _=>99+d-(intOf p).toNat)
  case atStart=>exact⟨0,Nat.zero_le _,rfl,BufI.nil (Keep.refl _ _)⟩
  case round =>
   obtain⟨j,N,rfl,b⟩:=hrel;obtain⟨a,c,rfl⟩:=b.shape;have Z:=ua (rowsT.eq_2 j);have l:=ub4 j (by omega);have Y:Hid (∀i,j=i->rowsT j=rowsT i):=λi e=>by rw[e]
   generalize rowsT j=L at *;have o:=ua b;clear b;by_cases O:j<99+d
   ·have r:(j:Int)<100+((d:Int)-1):=(by omega);go_wp2_with fail;refine(uo5 j (by omega) wr).mono ?_;rintro e W ⟨rfl,hW⟩;subst hW;have hs:=umC j;generalize (⟨(kI j).toArray⟩:ByteArray)=U at *;have H:Hid (((⟨#[114]⟩:ByteArray)++U++⟨#[61,59]⟩).size=U.size+3):=(by show _=_;simp only[ByteArray.size_append];show 1+_+2=_;omega);go_wp2_with (at_builtin;refine usH rfl _ _ rfl rfl rfl o (by rw[H.out];omega) (by rw[H.out];omega) ?_;intro B C A X;rw[H.out]at X;rw[H.out]);go_roundw
    case rel=>exact⟨j+1,by omega,by go_num,by rw[Z.out];exact X⟩
    case measure=>simp[intOf];omega
   have r:¬(j:Int)<100+((d:Int)-1):=(by omega);obtain rfl:j=99+d:=(by omega);go_wp2;go_ret;exact ujL G o ((Y _ rfl).trans (q.trans I))
 have b2:((k:Int)==2)=false:=by simp;omega
 rw[if_neg F]at g;have q:=ua g;clear g s x F E D;go_wp2_with (refine ufK [115,32,61,32,94,110] rfl _ rfl rfl rfl rfl (by omega) ?_;intro S y);generalize (some ⟨u.heap.size,0,none⟩:Option Addr)=T at *;go_loopw [10,11] (λm p wr=>(∃j:Nat,j<=30+d/\p=.int .i64 ((1+j:Nat):Int)/\BufI .u8 u ([115,32,61,32,94,110]++List.replicate j 48) m wr)) (λm p _=>30+d+1-(intOf p).toNat)
 case atStart=>exact⟨0,Nat.zero_le _,rfl,y.out⟩
 case round =>
  obtain⟨j,N,rfl,b⟩:=hrel;obtain⟨a,c,rfl⟩:=b.shape;have l:([115,32,61,32,94,110]++List.replicate j (48:Int)).length=6+j:=by simp;omega
  simp only[l]at b ⊢;have o:=ua b;have f:=ua l;clear l b;by_cases O:j<30+d
  ·have r:((1+j:Nat):Int)<32+((d:Int)-1):=(by omega);go_wp2_with (at_builtin;refine ufv rfl _ _ rfl rfl rfl o.out (by rw[f.out];omega) ?_;intro B C A X;rw[f.out,udn]at X;rw[f.out]);go_roundw
   case rel=>exact⟨j+1,by omega,by first|rfl|(congr 1;omega),X.out⟩
   case measure=>simp[intOf];omega
  have r:¬((1+j:Nat):Int)<32+((d:Int)-1):=by omega
  obtain rfl:j=30+d:=by omega
  go_wp2_with (at_builtin;refine usH rfl _ _ rfl rfl rfl o (by decide) (by rw[f.out];show _+2<=_;omega) ?_;intro B C A X;rw[f.out]at X;rw[f.out]);go_ret;exact ujL G X (q.trans I)
theorem uoU{b}k m c(h:0<b.length):0<(uel k m c b).length:=by
 unfold uel;split
 ·simp[uI];omega
 exact h
theorem ueC t n m a:∀(k:Nat) (x:zNL),x∈(uZ t n m a k).1->0<x.bd.length
 |0,x,h=>by cases h
 |k+1,x,h=>by
  rw[uZ]at h;rcases List.mem_append.1 h with q|q
  ·exact ueC t n m a k x q
  obtain rfl:=List.mem_singleton.1 q;exact uoU _ _ _ (uoX _ _ (uoW _ _ _ (uc7 _ _ _ _ _ _ _)))
theorem ugI t i:0<(vy t i).1.1.length/\(vy t i).1.1.length<=4/\(vy t i).1.2.length<=3/\∀x∈(vy t i).1.1,0<x.bd.length/\Lil 300 x.bd:=by
 unfold vy;dsimp only;refine⟨by rw[jI];omega,by rw[jI];omega,by rw[js,jJ];omega,λx a=>⟨ueC _ _ _ _ _ x a,uaN _ _ _ _ _ x a⟩⟩
theorem ujz{t R i w W2 a G e c g f}{p:(List zNL×List zNL)×Nat}(m:RdOn t R i w W2)(r:w.heap.size<W2.heap.size)(l:R<w.heap.size)(h:zGrP W2 G a e c g f)(s:RdA t R a p.2)(k:Keep (λb=>b=R\/W2.heap.size<=b) W2 a)(n:g.map (·.d)=p.1.1)(o:f.map (·.d)=p.1.2) :
  DrG t R p w (.returned (.agg #[e,c])) ((a.setCell ⟨w.heap.size,0,none⟩ e).setCell ⟨w.heap.size,1,none⟩ c):=by
 have j:=h.tag r;have u:=m.2.size;refine⟨e,c,G,g,f,rfl,((h.set j).set j).base (by omega),n,o,RdOn.set (RdOn.set ⟨s,ubm m.2 k (λb q=>?_)⟩ (Nat.le_refl _) l) (Nat.le_refl _) l⟩;rcases q with q|q
 ·exact .inl q
 exact .inr (by omega)
def g4(t:Tp)(i:Nat):(List zNL×List zNL)×Nat :=
 if t.v i%16=0 then ueM t (vy t (t.n i)).2 (vy t (t.n i)).1.1 (vy t (t.n i)).1.2 else vy t (t.n i)
theorem ubl t R i w(h:RdA t R w i)(p:(List zNL×List zNL)×Nat)(l:g4 t i=p):Calls Tryz.prog 17 #[.pointer (some ⟨R,0,none⟩)] w (DrG t R p w):=by
 have hv:=t.v_le i;have ae:=h.lt;unfold g4 at l;go_enter Tryz.func17,Tryz.ntmps17;go_wp2_with fail;refine(uw t R i _ (h.keep (Keep.alloc (λ_=>False) _ _) (λ_ q=>q.elim))).mono ?_;rintro e W2 ⟨rfl,k⟩;have B:Hid (RdOn t R (t.n i) w W2):=⟨k.1,(Keep.alloc _ _ _).trans k.2⟩;have U:=ua ((ucW w).keep k.2 (λe=>by omega));have ah:=ud U.1;generalize t.v i=ki at *;generalize t.n i=i1 at *;obtain⟨f1,f2,f3,V⟩:=ugI t i1;obtain⟨g,X⟩:=nm (vy t i1);rw[X]at l f1 f2 f3 V;have al:=ua V;clear V;go_wp2_with fail;refine(kM t R i1 W2 B.1 g X).mono ?_;rintro e c ⟨rv,lv,G,a,j,rfl,D,F,Z,k⟩;obtain⟨r,s,rfl⟩:=uk D.rules;obtain⟨la,lc,rfl⟩:=uk D.labs;have am:=B.1.lt;have aa:=k.2.size;have HG:=ua (D.later (Keep.alloc (λ_=>False) c (.cells #[.slice r a.length s,.slice la j.length lc] 28)) (λ_ e=>e.elim) 3 aa);have ab:=ua (k.1.keep (Keep.alloc (λ_=>False) c (.cells #[.slice r a.length s,.slice la j.length lc] 28)) (λ_ e=>e.elim));have z:=ua (k.2.trans (Keep.alloc _ c (.cells #[.slice r a.length s,.slice la j.length lc] 28)));have m:=ua (ux c #[.slice r a.length s,.slice la j.length lc] 28);have ad:Hid (vH G c 3 c.heap.size=3):=yY (Nat.le_refl _);have A:Hid (a.map (·.d)=g.1.1/\j.map (·.d)=g.1.2):=⟨F,Z⟩;have ao:a.length=g.1.1.length:=by rw[<-F,List.length_map]
 have an:j.length=g.1.2.length:=by rw[<-Z,List.length_map]
 have ac:Hid (∀x∈a,0<x.d.bd.length/\Lil 300 x.d.bd):=λx H=>al x.d (by rw[<-F];exact List.mem_map.2 ⟨x,H,rfl⟩)
 have T:Hid (0<a.length/\a.length<=4/\j.length<=3):=⟨by omega,by omega,by omega⟩;obtain⟨q,hq⟩:=nm (ki%16);have hq':(ki:Int)%16=(q:Int):=by omega
 rw[hq]at l;have ak:=aa;clear D F Z k ao an X f1 f2 f3 hq aa;go_upto_if 11 with fail;try simp only[hq']
 clear hq';generalize vH G c 3=G4 at *;generalize c.heap.size=f at *;generalize c.alloc _=W4 at *;by_cases y:q=0
 ·rw[if_pos y]at l;have b0:((q:Int)==0)=true:=by simp[y]
  have HC:=ua (uig t R g.2 W2 W4 _ r la s lc a j HG z.size ab am T.1 (by have:=T.2.1;omega) (by have:=T.2.2;omega) (λx H=>⟨(ac x H).1,(ac x H).2.small (by omega)⟩) p (by rw[A.out.1,A.out.2];exact l));obtain⟨z4,p4,l4⟩:=m.x;clear y l;go_wp2_with fail;refine HC.mono ?_;rintro e W5 ⟨ax,av,G5,P,L,rfl,E,aj,af,ai,Y,ag⟩;obtain⟨N,O,rfl⟩:=uk E.rules;obtain⟨I,J,rfl⟩:=uk E.labs;have W:=ag f m.x.2.2 ad;have B5:=ua (m.blk (Y.block f m.x.2.2 (λq=>q.elim (λe=>by omega) (λe=>e.2 ⟨m.x.2.2,ad⟩))));have S:=(z.mono (λb e=>.inl e)).trans (Y.mono (λb e=>e.imp id And.left));obtain⟨s0,s1,ap,aq⟩:=U.keep S (λe=>by omega);obtain⟨z5,p5,l5⟩:=B5.x;have Q:=ua (ujz B ah ae ((E.set (o:=0) (u:=.slice N P.length O) W).set (o:=1) (u:=.slice I L.length J) W) ((ai.keep (Keep.setCell (C:=λb=>b=f) W5 ⟨f,0,none⟩ (.slice N P.length O) rfl) (λb e=>by omega)).keep (Keep.setCell (C:=λb=>b=f) _ ⟨f,1,none⟩ (.slice I L.length J) rfl) (λb e=>by omega)) ((S.trans (Keep.setCell W5 ⟨f,0,none⟩ (.slice N P.length O) (.inr ak))).trans (Keep.setCell _ ⟨f,1,none⟩ (.slice I L.length J) (.inr ak))) aj af);have aw:=ud s0;have au:w.heap.size≠f:=by omega
  clear E aj af ai Y S ag W;go_wp2;refine bodyPost_ret (v:=.agg #[.slice N P.length O,.slice I L.length J]) ?_ rfl ?_
  ·simp[results,Tryz.f17,go_sem, *]
  exact Q
 rw[if_neg y]at l;subst l;have b0:((q:Int)==0)=false:=by simp;omega
 obtain⟨s0,s1,ap,aq⟩:=U.keep z (λe=>by omega);obtain⟨z4,p4,l4⟩:=m.x;have Q:=ua (ujz B ah ae HG ab (z.mono (λb e=>.inl e)) A.1 A.2);clear y;go_wp2;refine bodyPost_ret (v:=.agg #[.slice r a.length s,.slice la j.length lc]) ?_ rfl ?_
 ·simp[results,Tryz.f17,go_sem, *]
 exact Q
theorem yI{a b}(c:0<=a)(d:a<=b)(e:b<=255):M.Canon [a,b].length (lf [a,b]):=by
 refine⟨by simp,λi f=>?_⟩;match i,f with
 |0,_=>exact⟨c,by show a<=255;omega,λq=>absurd q (by omega),λq=>absurd q.1 (by omega)⟩
 |1,_=>exact⟨by show 0<=b;omega,e,λ_=>d,λq=>absurd q.2 (by omega)⟩
theorem uim{a b c d}(e:0<=a)(f:a<=b)(g:b+2<=c)(h:c<=d)(j:d<=255):M.Canon [a,b,c,d].length (lf [a,b,c,d]):=by
 refine⟨by simp,λi k=>?_⟩;match i,k with
 |0,_=>exact⟨e,by show a<=255;omega,λq=>absurd q (by omega),λq=>absurd q.1 (by omega)⟩
 |1,_=>exact⟨by show 0<=b;omega,by show b<=255;omega,λ_=>f,λq=>absurd q.2 (by omega)⟩
 |2,_=>exact⟨by show 0<=c;omega,by show c<=255;omega,λq=>absurd q (by omega),λ_=>g⟩
 |3,_=>exact⟨by show 0<=d;omega,j,λ_=>h,λq=>absurd q.2 (by omega)⟩
theorem qD t i:M.Canon (vY t i).1.length (lf (vY t i).1):=by
 have c:=t.v_le i;have b:∀m,m<16->0<=lf yg m/\lf yg m<=255:=by decide
 unfold vY vz;repeat' split
 all_goals first
  |exact yI (by omega) (by omega) (by omega)
  |exact uim (by omega) (by omega) (by omega) (by omega) (by omega)
  |exact⟨rfl,λi a=>absurd a (Nat.not_lt_zero _)⟩
  |(have:=b (t.v (t.n i)%16) (by omega);exact yI this.1 (Int.le_refl _) this.2)
def jq:List OpD->Int->Option Int
 |[],d=>some d
 |o::r,d=>if M.ar o.kind<=d then jq r (d+(1-M.ar o.kind)) else none
theorem ubp:∀(x y:List OpD) (d:Int),jq (x++y) d=(jq x d).bind (jq y)
 |[],y,d=>rfl
 |o::r,y,d=>by
  rw[List.cons_append,jq,jq];split
  ·exact ubp r y _
  rfl
structure GB(nr nb:Nat)(D:List OpD):Prop where
 post:∀d,0<=d->jq D d=some (d+1)
 el:∀x,x∈D->M.ElemOK nr nb x
theorem ufI{nr a o}(h:M.ar o.kind=0)(c:M.ElemOK nr a o):GB nr a [o] :=
 ⟨λd b=>by rw[jq,h,if_pos b,jq];simp,λx e=>by rw[List.mem_singleton.1 e];exact c⟩
theorem uaR{nr a k}(b:0<=k)(f:k<=7)(c:k≠1)(d:k≠2)(e:k≠3):M.ElemOK nr a (opd k 0) :=
 ⟨b,f,λq=>absurd q c,λ_=>rfl,Int.le_refl _,by show(0:Int)<M.most nr a k;unfold M.most;rw[if_neg e,if_neg d];omega⟩
theorem udk{nr a}:GB nr a (uq 0 0):=ufI rfl (uaR (by omega) (by omega) (by omega) (by omega) (by omega))
theorem uaS{nr a k}(h:k<nr):GB nr a (uq 2 (k:Int)):=ufI rfl ⟨by show(0:Int)<=2;omega,by show(2:Int)<=7;omega,λq=>absurd q (by show ¬(2:Int)=1;omega),λ_=>rfl,by show(0:Int)<=(k:Int);omega,by show(k:Int)<M.most nr a 2;unfold M.most;simp;omega⟩
theorem uin{nr a k}(h:k<a):GB nr a (uq 3 (k:Int)):=ufI rfl ⟨by show(0:Int)<=3;omega,by show(3:Int)<=7;omega,λq=>absurd q (by show ¬(3:Int)=1;omega),λ_=>rfl,by show(0:Int)<=(k:Int);omega,by show(k:Int)<M.most nr a 3;unfold M.most;simp;omega⟩
theorem jO{nr a z}(h:M.Canon z.length (lf z)):GB nr a (uF z):=ufI rfl ⟨by show(0:Int)<=1;omega,by show(1:Int)<=7;omega,λ_=>h,λq=>absurd rfl q,Int.le_refl _,by show(0:Int)<M.most nr a 1;unfold M.most;simp⟩
theorem jr{nr a k D}(h:GB nr a D)(e:k=6\/k=7):GB nr a (unD k D):=by
 have b:M.ar k=1:=by unfold M.ar;rw[if_neg (by omega),if_pos e]
 refine⟨λd c=>?_,λx f=>?_⟩
 ·rw[unD,ubp,h.post d c];show jq [opd k 0] (d+1)=_;rw[jq,show M.ar (opd k 0).kind=1 from b,if_pos (by omega),jq];simp
 rcases List.mem_append.1 f with q|q
 ·exact h.el x q
 rw[List.mem_singleton.1 q];exact uaR (by omega) (by omega) (by omega) (by omega) (by omega)
theorem vR{nr b k D a}(h:GB nr b D)(c:GB nr b a)(g:k=4\/k=5):GB nr b (uI k D a):=by
 have e:M.ar k=2:=by unfold M.ar;rw[if_pos g]
 refine⟨λd f=>?_,λx i=>?_⟩
 ·rw[uI,ubp,ubp,h.post d f];show((jq a (d+1)).bind (jq [opd k 0]))=_;rw[c.post (d+1) (by omega)];show jq [opd k 0] (d+1+1)=_;rw[jq,show M.ar (opd k 0).kind=2 from e,if_pos (by omega),jq];congr 1;omega
 rcases List.mem_append.1 i with q|q
 ·exact(List.mem_append.1 q).elim (h.el x) (c.el x)
 rw[List.mem_singleton.1 q];exact uaR (by omega) (by omega) (by omega) (by omega) (by omega)
theorem GB.body{nr f D}(h:GB nr f D):M.BodyOK nr f D.length (df D):=by
 have l:∀i,i<=D.length->(∀j,j<i->M.ar (df D j).kind<=M.dep (df D) j)/\jq (D.drop i) (M.dep (df D) i)=some 1:=by
  intro i;induction i with
  |zero=>exact λ_=>⟨λj d=>absurd d (by omega),by rw[List.drop_zero];exact h.post 0 (Int.le_refl _)⟩
  |succ i k =>
   intro c;obtain⟨b,a⟩:=k (by omega);rw[List.drop_eq_getElem_cons (by omega),jq]at a;have e:df D i=D[i]:=uco (List.getElem?_eq_getElem (by omega));split at a
   ·rename_i g;refine⟨λj d=>?_,?_⟩
    ·by_cases q:j=i
     ·subst q;rw[e];exact g
     exact b j (by omega)
    rw[M.dep,e];exact a
   cases a
 obtain⟨b,a⟩:=l D.length (Nat.le_refl _);rw[List.drop_of_length_le (Nat.le_refl _),jq]at a;injection a with a;exact⟨λi c=>by rw[uco (List.getElem?_eq_getElem c)];exact h.el _ (List.getElem_mem c),b,a⟩
theorem udl t at_ nr c:∀(d:Nat) (f:Bool) (i:Nat),GB nr c (yh t at_ nr c d f i).1
 |0,_,i=>jO (qD _ _)
 |d+1,f,i=>by
  have b:=udl t at_ nr c d;have a:∀i,GB nr c (uF (vY t i).1):=λi=>jO (qD _ _)
  rw[yh];dsimp only;repeat' split
  all_goals first
   |exact a _
   |exact udk
   |(refine uaS ?_;rename_i e;have:=Nat.mod_lt (t.v (t.n i)) (show 0<nr-_ from Nat.sub_pos_of_lt (Nat.not_le.1 e));omega)
   |(refine vR (a _) (uin ?_) (.inr rfl);rename_i e;exact Nat.mod_lt _ e.2)
   |exact vR (a _) (b _ _) (.inl rfl)
   |exact vR (b _ _) (b _ _) (by omega)
   |exact jr (a _) (.inl rfl)
   |exact jr (vR (a _) (b _ _) (.inl rfl)) (.inl rfl)
   |exact jr (vR (jr (b _ _) (.inr rfl)) (a _) (.inl rfl)) (.inl rfl)
   |exact jr (b _ _) (.inr rfl)
   |exact jr (vR (a _) (vR (a _) (b _ _) (.inl rfl)) (.inr rfl)) (.inl rfl)
   |exact jr (b _ _) (.inl rfl)
def NmK(z:List Int):Prop:=M.NameOK z.length (lf z)
theorem umy{x}(h:97<=x/\x<=122):NmK [x]:=by
 refine⟨by simp,λi a=>?_,by simp,.inl h⟩;obtain rfl:i=0:=by simp at a;omega
 exact .inl (.inl h)
theorem urg k:NmK (uaD k):=by
 unfold uaD;split
 ·refine⟨by decide,λi a=>?_,by decide,.inl (by decide)⟩;match i,a with
  |0,_=>exact .inl (.inl (by decide))
  |1,_=>exact .inr (by show 48<=(49:Int)/\(49:Int)<=57;decide)
 split
 ·refine⟨by decide,λi a=>?_,by decide,.inl (by decide)⟩;match i,a with
  |0,_=>exact .inl (.inl (by decide))
  |1,_=>exact .inl (.inl (by decide))
  |2,_=>exact .inl (.inl (by decide))
 refine⟨by decide,λi a=>?_,by decide,.inl (by decide)⟩;match i,a with
 |0,_=>exact .inl (.inl (by decide))
 |1,_=>exact .inl (.inl (by decide))
 |2,_=>exact .inl (.inl (by decide))
 |3,_=>exact .inl (.inr (.inr rfl))
 |4,_=>exact .inr (by show 48<=(50:Int)/\(50:Int)<=57;decide)
structure GS(b:Nat)(rs ls:List zNL):Prop where
 n0:0<rs.length
 n4:rs.length<=4
 m3:ls.length<=3
 r:∀x,x∈rs->NmK x.nm/\GB rs.length ls.length x.bd/\x.bd.length<=b
 l:∀x,x∈ls->NmK x.nm/\(x.has=true->GB rs.length ls.length x.bd)/\(x.has=false->x.bd = [])/\x.bd.length<=60
theorem ufJ f b:∀n,(∀i,i<n->f i<=b)->M.sum f n<=n*b
 |0,_=>Nat.zero_le _
 |n+1,h=>by
  have:=ufJ f b n (λi a=>h i (by omega));have:=h n (by omega);rw[M.sum,Nat.succ_mul];omega
theorem xv{l:List zNL}{i:Nat}(h:i<l.length):l.getD i default∈l:=by
 rw[List.getD_eq_getElem?_getD,List.getElem?_eq_getElem h];exact List.getElem_mem h
theorem GS.sound{b d c}(h:GS b d c)(f:b<=210):M.Sound (zgram d c):=by
 have j:=h.n4;have g:=h.m3;refine⟨h.n0,by show d.length<=100;omega,by show c.length<=100;omega,λi a=>(h.r _ (xv a)).1,λi a=>(h.l _ (xv a)).1,λi a=>(h.r _ (xv a)).2.1.body,λi a e=>((h.l _ (xv a)).2.1 e).body,λi a e=>?_,?_⟩
 ·show(c.getD i default).bd.length=0;rw[(h.l _ (xv a)).2.2.1 e];rfl
 have k:=ufJ (λi=>(d.getD i default).bd.length) 210 d.length (λi a=>Nat.le_trans (h.r _ (xv a)).2.2 f);have m:=ufJ (λi=>(c.getD i default).bd.length) 60 c.length (λi a=>(h.l _ (xv a)).2.2.2);show M.sum (λi=>(d.getD i default).bd.length) d.length+M.sum (λi=>(c.getD i default).bd.length) c.length<=2000;omega
theorem uio{nr a o}(h:M.ElemOK nr a o):o.sl<=256:=by
 by_cases e:o.kind=1
 ·exact M.canon_len (h.2.2.1 e)
 rw[h.2.2.2.1 e];omega
theorem NmK.byt{z}(h:NmK z):Byt z.length (lf z):=λi a=>by
 rcases h.2.1 i a with (q|q|q)|q
 ·omega
 ·omega
 ·omega
 obtain⟨b,c⟩:=q;omega
theorem GS.small{b e a}(h:GS b e a)(t:b<=210):vF (zgram e a):=by
 have s:=h.n4;have q:=h.m3;have m:∀{nr o:Nat} {D:List OpD},GB nr o D->∀i,i<D.length->(df D i).sl<=1048576:=λh i d=>Nat.le_trans (uio (h.body.1 i d)) (by omega)
 refine⟨by show e.length<=_;omega,by show a.length<=_;omega,λi d=>?_,λi d=>?_⟩
 ·obtain⟨c,f,g⟩:=h.r _ (xv d);exact⟨Nat.le_trans c.1 (by omega),c.byt,by show(e.getD i default).bd.length<=_;omega,m f⟩
 obtain⟨c,f,g,p⟩:=h.l _ (xv d);refine⟨Nat.le_trans c.1 (by omega),c.byt,by show(a.getD i default).bd.length<=_;omega,?_⟩;cases k:(a.getD i default).has with
 |true=>exact m (f k)
 |false =>
  show ∀j,j<(a.getD i default).bd.length->_;rw[g k];exact λj n=>absurd n (Nat.not_lt_zero _)
theorem ucV t i:GS 196 (vy t i).1.1 (vy t i).1.2:=by
 have J:∀n m d k,k<=n->∀x,x∈(uZ t n m d k).1->NmK x.nm/\GB n m x.bd/\x.bd.length<=196:=by
  intro n m d k;induction k with
  |zero=>intro _ x a;cases a
  |succ k u =>
   intro N x a;rw[uZ]at a;rcases List.mem_append.1 a with q|q
   ·exact u (by omega) x q
   obtain rfl:=List.mem_singleton.1 q;refine⟨umy (by omega),?_,((ugN k m _ (ugM k _ (ugL k n _ (xS t k n m 5 false _)))).1)⟩;have r:=udl t k n m 5 false (uZ t n m d k).2;dsimp only;generalize yh t k n m 5 false (uZ t n m d k).2=b at r;have z:GB n m (ucJ k n (t.v b.2) b.1):=by
    unfold ucJ;split
    ·rename_i s;exact vR r (uaS (k:=1) s.2.2) (.inl rfl)
    exact r
   have A:GB n m (uc9 k (t.v b.2) (ucJ k n (t.v b.2) b.1)):=by
    unfold uc9;split
    ·exact vR z (jr (jO (yI (by omega) (by omega) (by omega))) (.inr rfl)) (.inl rfl)
    exact z
   unfold uel;split
   ·rename_i s;exact vR (vR (jO (yI (by omega) (by omega) (by omega))) (uin (k:=0) s.2.2) (.inr rfl)) A (.inl rfl)
   exact A
 have G:∀n m g k,∀x,x∈(vb t n g k).1->NmK x.nm/\(x.has=true->GB n m x.bd)/\(x.has=false->x.bd = [])/\x.bd.length<=43:=by
  intro n m g k;induction k with
  |zero=>intro x a;cases a
  |succ k u =>
   intro x a;rw[vb]at a;rcases List.mem_append.1 a with q|q
   ·exact u x q
   obtain rfl:=List.mem_singleton.1 q;refine⟨urg k,?_⟩;have L:∀{D:List OpD},GB n 0 D->GB n m D:=λh=>⟨h.post,λx a=>by
    obtain⟨c,e,f,w,C,o⟩:=h.el x a;refine⟨c,e,f,w,C,?_⟩;unfold M.most at o ⊢;split at o
    ·omega
    rename_i E;rw[if_neg E];exact o⟩
   dsimp only;unfold qz;repeat' split
   ·exact⟨λ_=>jr (vR (jr (jO (qD _ _)) (.inr rfl)) (jO (yI (by omega) (by omega) (by omega))) (.inl rfl)) (.inl rfl),(λq=>by cases q),by simp[unD,uI,uF]⟩
   ·exact⟨λ_=>udk,(λq=>by cases q),by simp[uq]⟩
   ·exact⟨λ_=>jO (yI (by omega) (by omega) (by omega)),(λq=>by cases q),by simp[uF]⟩
   ·exact⟨λ_=>L (udl t n n 0 3 false _),(λq=>by cases q),(xS t n n 0 3 false _).1⟩
   exact⟨(λq=>by cases q),λ_=>rfl,Nat.zero_le _⟩
 unfold vy;dsimp only;have l:∀n m d,(uZ t n m d n).1.length=n:=λn m d=>jI t n m d n
 have p:∀n g m (B:List zNL),(vD B (vb t n g m).1 m).length=m:=λn g m B=>by rw[js,jJ]
 have H:t.v (t.n i)%4<=3:=by omega
 have I:1+t.v i%4<=4:=by omega
 refine⟨by rw[l];omega,by rw[l];exact I,by rw[p];exact H,λx a=>?_,λx a=>?_⟩
 ·rw[l,p];obtain⟨c,e,f⟩:=J _ _ _ _ (Nat.le_refl _) x a;exact⟨c,e,f⟩
 rw[l,p];unfold vD at a;obtain⟨j,F,rfl⟩:=List.mem_mapIdx.1 a;obtain⟨c,e,f,w⟩:=G (1+t.v i%4) (t.v (t.n i)%4) _ _ _ (List.getElem_mem F);generalize (vb t (1+t.v i%4) (uZ t (1+t.v i%4) (t.v (t.n i)%4) (t.n (t.n i)) (1+t.v i%4)).2 (t.v (t.n i)%4)).1[j]=y at *;split
 ·unfold ueH;split
  ·exact⟨c,e,f,by omega⟩
  split
  ·exact⟨c,(λq=>by cases q),λ_=>rfl,Nat.zero_le _⟩
  exact⟨c,λ_=>udk,(λq=>by cases q),by simp[uq]⟩
 exact⟨c,e,f,by omega⟩
theorem umz{l i}(h:i<l.length):ugU l i∈l:=xv h
theorem udm{b d}(h:GS 196 b d){a}(j:a<b.length){D}(i:GB b.length d.length D)(k:D.length<=210):GS 210 (qg b a D) d:=by
 have e:(qg b a D).length=b.length:=by unfold qg;rw[List.length_set]
 refine⟨by rw[e];exact h.n0,by rw[e];exact h.n4,h.m3,λx c=>?_,λx c=>by rw[e];exact h.l x c⟩;rw[e];rcases List.mem_or_eq_of_mem_set c with q|rfl
 ·obtain⟨f,g,m⟩:=h.r x q;exact⟨f,g,by omega⟩
 exact⟨(h.r _ (umz j)).1,i,k⟩
theorem uo8 t i{c g}(h:GS 196 c g):GS 210 (ueM t i c g).1.1 (ueM t i c g).1.2:=by
 have f:t.v (t.n i)%c.length<c.length:=Nat.mod_lt _ h.n0;have j:t.v (t.n (t.n i))%c.length<c.length:=Nat.mod_lt _ h.n0;unfold ueM;dsimp only;generalize t.v (t.n i)%c.length=a at *;generalize t.v (t.n (t.n i))%c.length=b at *;obtain⟨_,d,w⟩:=h.r _ (umz f);repeat' split
 ·exact udm h f (vR d (uaS j) (.inr rfl)) (by simp[uI,uq];omega)
 ·exact udm h f (vR (jr (uaS j) (.inr rfl)) d (.inl rfl)) (by simp[uI,unD,uq];omega)
 ·exact udm h f (jr d (.inl rfl)) (by simp[unD];omega)
 ·rename_i u;have m:b%g.length<g.length:=Nat.mod_lt _ u.2;obtain⟨o,p,s,g4,k⟩:=udm h f (vR d (uin m) (.inr rfl)) (by simp[uI,uq];omega);have e:(qg c a (uI 5 (ugU c a).bd (uq 3 ((b%g.length:Nat):Int)))).length=c.length:=by unfold qg;rw[List.length_set]
  rw[e]at g4 k;refine⟨o,p,by rw[List.length_set];exact s,λx d=>?_,λx d=>?_⟩
  ·rw[List.length_set,e];exact g4 x d
  rw[List.length_set,e];rcases List.mem_or_eq_of_mem_set d with q|rfl
  ·exact k x q
  exact⟨(h.l _ (umz m)).1,λ_=>vR udk (uaS f) (.inl rfl),(λq=>by cases q),by simp[uI,uq]⟩
 exact udm h f (vR (jr (jO (yI (by omega) (by omega) (by omega))) (.inl rfl)) (uaS j) (.inl rfl)) (by simp[uI,unD,uF,uq])
theorem urh t i:GS 210 (g4 t i).1.1 (g4 t i).1.2:=by
 unfold g4;split
 ·exact uo8 t _ (ucV t _)
 obtain⟨c,d,e,a,f⟩:=ucV t (t.n i);exact⟨c,d,e,λx b=>⟨(a x b).1,(a x b).2.1,by have:=(a x b).2.2;omega⟩,f⟩
def Tp.rest(t:Tp)(i:Nat):Tp:=⟨t.m-i,λk=>t.T (i+k),by have:=t.le;omega,λk=>t.byte _⟩
def urf(t:Tp)(R i:Nat)(w:World)(e:Ending)(w':World):Prop :=
 ∃a c,e=.returned (.slice a (t.m-i) c)/\Ints (λb=>b<R) .u8 w' a (t.m-i) (λk=>((t.rest i).T k:Int))/\t.m-i<=c/\RdOn t R i w w'
theorem uik t R i w(h:RdA t R w i):Calls Tryz.prog 16 #[.pointer (some ⟨R,0,none⟩)] w (urf t R i w):=by
 have g:=ua h;obtain⟨a,cap,h⟩:=h;have p:=h.c0;have r:=h.c1;have v:=h.le;have y:=t.le;have f:=ua h.txt;have s:=h.cp;have hle':(i:Int)<=(t.m:Int):=by omega
 have c:Hid (∀q,RdOn t R i w (w.drewN q)):=λq=>⟨g.keep (ucm w q) (λ_ e=>e.elim),(ucm w q).mono (λ_ e=>e.elim)⟩
 cases a with
 |none =>
  have d:t.m=0:=by
   rcases f.out with e|⟨b,o,e,_⟩
   ·exact e
   cases e
  go_enter Tryz.func16,Tryz.ntmps16;go_wp2;go_quiet (fail);go_wp2;all_goals go_ret
  all_goals exact⟨none,cap-i,by rw[show t.m-i=0 by omega];rfl,.inl (by omega),by omega,c _⟩
 |some x =>
  have j:Hid (∀q,Ints (λb=>b<R) .u8 (w.drewN q) (some (x.add i)) (t.m-i) (λk=>((t.rest i).T k:Int))):=λq=>by
   rcases f.out with e|⟨b,o,e,l,n⟩
   ·exact .inl (by omega)
   injection e with e;subst e;refine .inr ⟨b,o+i,?_,l,λk u=>?_⟩
   ·by_cases d:i=0
    ·subst d;simp[Addr.add]
    simp[Addr.add,d]
   rw[Nat.add_assoc];exact n (i+k) (by omega)
  go_enter Tryz.func16,Tryz.ntmps16;go_wp2;go_quiet (fail);go_wp2;all_goals go_ret
  ·exact⟨_,_,rfl,.inl (by omega),by omega,c _⟩
  exact⟨_,_,rfl,j _,by omega,c _⟩
theorem ukQ(t:Tp)(i R:Nat)(a:Option Addr)(c:Nat)(w:World)(h:Ints (λb=>b<R) .u8 w a (t.m-i) (λk=>((t.rest i).T k:Int)))(r:t.m-i<=c) :
  Calls Tryz.prog 10 #[.slice a (t.m-i) c] w λe w'=>e=.returned (.pointer (some ⟨w.heap.size,0,none⟩))/\RdA (t.rest i) w.heap.size w' 0/\Keep (λ_=>False) w w':=by
 have y:=t.le;obtain⟨n,f⟩:=nm (t.m-i);rw[f]at h r ⊢;have l:Hid (RdA (t.rest i) w.heap.size (w.alloc (.cells #[.slice a n c,.int .i64 0] 98)) 0):=by
  obtain⟨g,q,u⟩:=(ux w #[.slice a n c,.int .i64 0] 98).x;refine⟨a,c,by rw[g];show some (Value.slice a n c)=some (Value.slice a (t.m-i) c);rw[f],by rw[g];rfl,q 1,Nat.zero_le _,by show t.m-i<=c;omega,?_⟩;show Ints _ .u8 _ a (t.m-i) _;rw[f];rcases h with e|⟨b,o,e,v,j⟩
  ·exact .inl e
  by_cases p:n=0
  ·exact .inl p
  exact .inr ⟨b,o,e,ud (j 0 (by omega)),λk s=>ue (j k s) (ui w _)⟩
 have d:decide ((500:Int)<n)=false:=by simp;omega
 go_enter Tryz.func10,Tryz.ntmps10;go_wp2;go_ret;exact⟨rfl,l,Keep.alloc _ _ _⟩
end Go.Proofs.YtimfigongapdnaaGreat
