import Derived.Test.YtoihadcablknpaaGreatDoorT05
import Derived.Test.YtoihadcablknpaaGreatDoorT11
import Derived.Deep.WholeRow
set_option linter.unusedVariables false
set_option linter.unusedSimpArgs false
set_option linter.defProp false
set_option maxHeartbeats 40000000
set_option maxRecDepth 100000
namespace Go.Proofs.YtoihadcablknpaaGreatDoor
open Go.RowKit
open Go.Proofs.Tryz
open M (OpD uh Gr)
def Ve(W:Wl)(a:Oa)(o:OpD)(l:List (Nat×Ee)):Prop :=
 (M.ar o.e=1->∃g b s x r,l=(s,x)::r/\a=some (Ad g b)/\Dr W g b x) /\
 (M.ar o.e=2->∃g b d y c x r,l=(d,y)::(c,x)::r/\a=some (Ad g b)/\Dr W g b x/\Dr W g (b+6) y)
def Z0 args w:(callFunc 137 args).run prog w=.ok (.enter 137 args) w:=by
 simp[callFunc,func137,f137,go_sem]
def NO:(prog.info? 195).map (λi=>(i.zero,i.size,i.bytes))=some (some (.agg #[Bf,Uv 0,Uv 0,Uv 0,Uv 0,Bf]),6,48):=rR
def Z1:vA 251 195 6 48:=⟨underlying251,⟨_,NO,rfl⟩,oM⟩
def NP(w:Wl)(nr n:Nat)(mk:NS)(B:Nat->OpD)(v i:Vl)(wr:Wl):Prop :=
 ∃k g cap:Nat,k<=n/\i=Iv (k:Int)/\v=Sl (Sm g 0) ((M.stk (uC nr mk) B k).length+1) cap /\
  wC (λb=>w.heap.size<b) wr v 6 ((M.stk (uC nr mk) B k).length+1) (kQ (M.stk (uC nr mk) B k))/\Eb wr w.heap.size oz/\Bw w wr/\∀p,p∈M.stk (uC nr mk) B k->p.2.f.OK
def Z2{w g x}(h:Eb w g x):Src prog 6 251 (Sl (Sm g 0) 1 1) 1 (Fo x) w:=by
 obtain⟨b,d,e,f,i,k⟩:=h.c;refine Gj (P:=prog) w underlying251 (Ad g 0) 1 1 (Fo x) rfl (λj u a=>?_) (λu a=>?_)
 ·match j,a with
  |0,a=>simp[Fo]at a;subst a;simpa[Addr.add] using b
  |1,a=>simp[Fo]at a;subst a;simpa[Addr.add] using d
  |2,a=>simp[Fo]at a;subst a;simpa[Addr.add] using e
  |3,a=>simp[Fo]at a;subst a;simpa[Addr.add] using f
  |4,a=>simp[Fo]at a;subst a;simpa[Addr.add] using i
  |5,a=>simp[Fo]at a;subst a;simpa[Addr.add] using k
  |j+6,a=>simp[Fo]at a
 simp[Fo]at a;rcases a with rfl|rfl|rfl|rfl|rfl|rfl<;>rfl
def Eb.a{w w' b x}(h:Eb w b x)(k:w'.heap[b]?=w.heap[b]?):Eb w' b x:=k.trans h
def Z3{l a}(h:a<=l.length):∃post,kQ l=kQ (l.drop a)++post/\(l.drop a).length+a=l.length:=by
 induction a generalizing l with
 |zero=>exact⟨[],sM,sM⟩
 |succ a d =>
  match l with
  |[]=>simp at h
  |(s,x)::r =>
   obtain⟨post,b,c⟩:=d (l:=r) (by simpa using h);exact⟨post++Fo x,by rw[kQ,b,List.drop_succ_cons,zU],by simp;simp at c;omega⟩
def Z4{Q w g cap o l}(h:wC Q w (Sl (Sm g 0) (l.length+1) cap) 6 (l.length+1) (kQ l))(a:M.ar o.e<=(l.length:Int))d(b:0<M.ar o.e->d=some (Ad g ((l.length+1-(M.ar o.e).toNat)*6))):Ve w d o l:=by
 rcases h with⟨q,_⟩|⟨j,i,q,k,m,n,c,p⟩
 ·cases q
 cases q;constructor
 ·intro e;rw[e]at a b;match l with
  |[]=>simp at a
  |(s,x)::r =>
   refine⟨g,_,s,x,r,rfl,b oM,?_⟩;have:=Wn (pre:=kQ r) (post:=[]) (x:=x) c (by simp[kQ]);rw[jw]at this;simpa using this
 intro e;rw[e]at a b;match l with
 |[]=>simp at a
 |[_]=>simp at a
 |(s2,y)::(s1,x)::r =>
  refine⟨g,_,s2,y,s1,x,r,rfl,b oM,?_,?_⟩
  ·have:=Wn (pre:=kQ r) (post:=Fo y) (x:=x) c (by simp[kQ,zU]);rw[jw]at this;simpa using this
  have:=Wn (pre:=kQ r++Fo x) (post:=[]) (x:=y) c (by simp[kQ]);rw[wK,jw,Sj]at this;have f:(r.length+1)*6+6=(r.length+1+1+1-(2:Int).toNat)*6+6:=sM;rw[f]at this;exact this
def Z5 w:(Instr.makeSlice 251 (Iv 1) (Iv 1)).run prog w=.ok (Sl (Sm w.heap.size 0) 1 1) (w.alloc (qd oz)):=by
 obtain⟨i,c,hi2⟩:=Gu.1 NO;simp only[Kt]at hi2;obtain⟨f,d,b⟩:=hi2;have a:=run_make (P:=prog) w 251 195 i _ underlying251 c f .i64 .i64 1 1 oM (Eg _) (by rw[b];omega) oM;rw[d]at a;have e:madeCells (Value.agg #[Bf,Uv 0,Uv 0,Uv 0,Uv 0,Bf]).cells (Int.toNat 1*6)=#[Bf,Uv 0,Uv 0,Uv 0,Uv 0,Bf]:=rR;rw[e]at a;exact a
def Z6(w:Wl):wC (λb=>b=w.heap.size) (w.alloc (qd oz)) (Sl (Sm w.heap.size 0) 1 1) 6 1 (kQ []):=by
 have h:=Eb.e w oz;obtain⟨d,f,g,i,k,l⟩:=h.c;obtain⟨s0,m,n,o,p,q⟩:=h.s;refine .inr ⟨w.heap.size,1,rfl,rfl,rfl,wF,λj a=>?_,λj a=>?_⟩
 ·match j,a with
  |0,_=>exact d
  |1,_=>exact f
  |2,_=>exact g
  |3,_=>exact i
  |4,_=>exact k
  |5,_=>exact l
  |j+6,a =>
   rw[jw]at a;simp at a;omega
 match j,a with
 |0,_=>exact⟨by rw[d];rfl,s0⟩
 |1,_=>exact⟨by rw[f];rfl,m⟩
 |2,_=>exact⟨by rw[g];rfl,n⟩
 |3,_=>exact⟨by rw[i];rfl,o⟩
 |4,_=>exact⟨by rw[k];rfl,p⟩
 |5,_=>exact⟨by rw[l];rfl,q⟩
 |j+6,a=>omega
def Vf{Q Q' w v a n cs}(h:wC Q w v a n cs)(k:∀b,Q b->Q' b):wC Q' w v a n cs:=by
 rcases h with h|⟨g,cap,e,d,c⟩
 ·exact .inl h
 exact .inr ⟨g,cap,e,k g d,c⟩
def yx{Q w w' v d n cs}(h:wC Q w v d n cs)(s:0<d)(k:Bw w w'):wC Q w' v d n cs:=by
 rcases h with h|⟨g,cap,e,l,c,f,m,i⟩
 ·exact .inl h
 by_cases o:cap=0
 ·subst o;have:n=0:=oM;subst this;exact .inr ⟨g,0,e,l,c,f,λj b=>aB b (by rw[c];omega),λj b=>oM⟩
 have p:g<w.heap.size:=by
  obtain⟨u,r⟩:=Dt.1 (i 0 (Nat.mul_pos oM s)).1;exact ud r
 have e':=k.block g p;exact .inr ⟨g,cap,e,l,c,f,λj b=>by rw[zI (a:=(Ad g j)) e'];exact m j b,i.q e'⟩
def Z7{w wr W1 W4 nr n k b st mk B l v j}(F:k<n)(r:Eb wr w.heap.size oz)(s:Bw w wr)(t:∀p,p∈l->p.2.f.OK)(y:M.stk (uC nr mk) B (k+1)=M.stp (uC nr mk) (B k) k l)(z:M.stp (uC nr mk) (B k) k l=(st,ye nr mk (B k) l)::l.drop (M.ar (B k).e).toNat)(m:ye nr mk (B k) l=v)(E:(l.drop (M.ar (B k).e).toNat).length+1=b)(o:Bw wr W1)(A:wC (λx=>w.heap.size<x\/(W1.alloc (qd v)).heap.size<=x) W4 j 6 (b+1) (kQ (l.drop (M.ar (B k).e).toNat)++Fo v))(c:wS (λx=>w.heap.size<x) (W1.alloc (qd v)) W4):NP w nr n mk B j (Iv ((k+1:Nat):Int)) W4:=by
 have e:M.stk (uC nr mk) B (k+1)=(st,v)::l.drop (M.ar (B k).e).toNat:=by rw[y,z,m]
 have H:=r.lt;have I:=o.size;have hb':Bw wr (W1.alloc (qd v)):=uf o (wG W1);have q:wC (λx=>w.heap.size<x) W4 j 6 (b+1) (kQ (M.stk (uC nr mk) B (k+1))):=by
  rw[e];exact Vf A (λx q=>by
   rcases q with q|q
   ·exact q
   rw[zV]at q;omega)
 rcases q with⟨_,q,_⟩|⟨g,cap,rfl,C,D⟩
 ·omega
 have u:(M.stk (uC nr mk) B (k+1)).length+1=b+1:=by rw[e,zQ];omega
 refine⟨k+1,g,cap,oM,rfl,by rw[u],?_,(r.q hb').a (c.d _ (by rw[zV];omega) (λq=>Jc _ q)),?_,?_⟩
 ·rw[u];exact .inr ⟨g,cap,rfl,C,D⟩
 ·refine(s.trans (hb'.mono s.size)).trans ⟨c.os,c.g,c.f,c.h,λx G=>c.d x (by rw[zV];omega) (λq=>oM)⟩
 intro p i;rw[e]at i;rcases Bx.1 i with rfl|i
 ·rw[<-m];exact upa nr mk (B k) l t
 exact t p (List.mem_of_mem_drop i)
def Z8 l:∃pre,kQ l=pre++Fo (M.top l)/\pre.length=l.length*6:=by
 match l with
 |[]=>exact⟨[],rfl,rfl⟩
 |(s,v)::r=>exact⟨kQ r,rfl,by rw[jw];simp⟩
def Z9(m:Nat)(h:m<=1048576):IntKind.i64.wrap (m:Int)=(m:Int):=by
 simp[IntKind.wrap,IntKind.bits,IntKind.signed];omega
def xa Q a n c nr A B mk p1 p2 w(u:wT Q w a n B)(af:n=0\/M.bF nr A n B)(hn:n<=1048576)(hV:∀(o:OpD) (l:List (Nat×Ee)) (W:Wl) (sa m:Oa) (sc V:Nat),M.bE nr A o->Bw w W->(∀p,p∈l->p.2.f.OK)->M.ar o.e<=(l.length:Int)->Ve W m o l ->
   Cs 137 #[.agg #[Iv o.e,Sl sa o.sl sc,Iv o.f],Sl m (M.ar o.e).toNat V,p1,p2] W (qw (ye nr mk o l) W)) :
  Cs 136 #[Sl a n c,.func (.func 137) #[] #[p1,p2]] w (qw (M.top (M.stk (uC nr mk) B n)) w):=by
 have HB:Hid (wT Q w a n B):=u;have Z:Hid (n=0\/M.bF nr A n B):=af;have HV:Hid (∀(o:OpD) (l:List (Nat×Ee)) (W:Wl) (sa m:Oa) (sc V:Nat),M.bE nr A o->Bw w W->(∀p,p∈l->p.2.f.OK)->M.ar o.e<=(l.length:Int)->Ve W m o l ->
   Cs 137 #[.agg #[Iv o.e,Sl sa o.sl sc,Iv o.f],Sl m (M.ar o.e).toNat V,p1,p2] W (qw (ye nr mk o l) W)):=hV
 clear u af hV;have bg:=Z5;go_enter func136,ntmps136;go_wp2;go_loopw [5,12] (λv i wr=>NP w nr n mk B v i wr) (λv i _=>n-(intOf i).toNat)
 ·refine⟨0,w.heap.size+1,1,wP,rfl,by simp[M.stk],?_,?_,Bn w,by simp[M.stk]⟩
  ·have:=Z6 (w.alloc (qd oz));rw[zV]at this;exact Vf this (λb q=>oM)
  exact(Eb.e w oz).q (wG _)
 obtain⟨k,g,cap,hk,rfl,rfl,U,S,ac,ab⟩:=hrel;have E:Hid (wC (λb=>w.heap.size<b) wr (Sl (Sm g 0) ((M.stk (uC nr mk) B k).length+1) cap) 6 ((M.stk (uC nr mk) B k).length+1) (kQ (M.stk (uC nr mk) B k))):=U;have P:Hid (Eb wr w.heap.size oz):=S;have D:Hid (Bw w wr):=ac;have O:Hid (∀p,p∈M.stk (uC nr mk) B k->p.2.f.OK):=ab;have ad:=NW U;have bi:=S.lt;clear U S ac ab;by_cases J:k<n
 ·have F:M.bF nr A n B:=by
   rcases Z.o with q|q
   ·omega
   exact q
  have hF:M.Fed B k:=λj hj=>F.2.1 j oM
  have hE:Hid (M.bE nr A (B k)):=F.1 k J;have a5:=M.bR (uC nr mk) B k hF;have az:=F.2.1 k J;have a9:=M.cP (B k).e;have ax:Hid (M.stk (uC nr mk) B (k+1)=M.stp (uC nr mk) (B k) k (M.stk (uC nr mk) B k)):=rfl;have a1:=M.fX B n k oM (λj hj=>F.2.1 j oM);clear hF F;generalize M.stk (uC nr mk) B k=l at *;have R:M.ar (B k).e<=(l.length:Int):=oM;obtain⟨r,hr⟩:∃r:Nat,(M.ar (B k).e)=(r:Int):=⟨(M.ar (B k).e).toNat,oM⟩;obtain⟨t,I⟩:∃t,l.length+1=t:=⟨_,rfl⟩;obtain⟨b,hb⟩:∃b,t-r=b:=⟨_,rfl⟩;have T:1<=b:=oM;have a0:b<=t:=oM;have ba:(t:Int)-M.ar (B k).e=(b:Int):=oM;have bc:t<=cap:=oM;have bd:b<=cap:=oM;have be:t<=2097152:=oM;have z:Hid (M.ar (B k).e=(r:Int)):=hr;have G:Hid (l.length+1=t):=I;have C:Hid (t-r=b):=hb;have N:Hid (M.ar (B k).e<=(l.length:Int)):=R;obtain⟨st,am⟩:=utT nr mk (B k) k l R;have ay:Hid (M.stp (uC nr mk) (B k) k l=(st,ye nr mk (B k) l)::l.drop (M.ar (B k).e).toNat):=am;rw[I]at E;rw[I];have u:=HB.o.q D.o;rcases u with h0|⟨bb,off,rfl,L,u⟩
  ·omega
  obtain⟨c0,⟨sa,sc,c1,a6⟩,c2⟩:=u k J;have bf:bb<wr.heap.size:=ud c0;clear u a6 a5 az a1 R am hr I hb ad;have x0:(wr.alloc (Oc #[Iv (B k).e,Sl sa (B k).sl sc,Iv (B k).f] 128)).cell? (Ad wr.heap.size 0)=some (Iv (B k).e):=cN wr.heap.size rfl rfl;have x1:(wr.alloc (Oc #[Iv (B k).e,Sl sa (B k).sl sc,Iv (B k).f] 128)).cell? (Ad wr.heap.size 1)=some (Sl sa (B k).sl sc):=cN wr.heap.size rfl rfl;have x2:(wr.alloc (Oc #[Iv (B k).e,Sl sa (B k).sl sc,Iv (B k).f] 128)).cell? (Ad wr.heap.size 2)=some (Iv (B k).f):=cN wr.heap.size rfl rfl;have bX:Hid (Bw wr (wr.alloc (Oc #[Iv (B k).e,Sl sa (B k).sl sc,Iv (B k).f] 128))):=wG wr;go_wp2_with (go_at_call 170;refine(yT).mono ?_;rintro e W' ⟨rfl,hw⟩;subst W');generalize wr.alloc (Oc #[Iv (B k).e,Sl sa (B k).sl sc,Iv (B k).f] 128)=X at *;obtain⟨v,hv⟩:∃v,ye nr mk (B k) l=v:=⟨_,rfl⟩;have aa:Hid (ye nr mk (B k) l=v):=hv;clear hv;have bh:¬cap=0:=oM;have a3:Hid (t-b=(M.ar (B k).e).toNat):=by show _=_;have:=z.o;have:=C.o;omega
  have an:∀m:Option Addr,(0<M.ar (B k).e->m=some (Ad g (b*6)))->∀W,Bw wr W->Cs 137 #[.agg #[Iv (B k).e,Sl sa (B k).sl sc,Iv (B k).f],Sl m (t-b) (cap-b),p1,p2] W (λe W'=>e=Rt (.agg #[.bool v.e,Uv v.f.a,Uv v.f.b,Uv v.f.c,Uv v.f.d,.bool v.loop])/\Bw W W'):=λm a4 W H=>by
   have h:=HV.o (B k) l W sa m sc (cap-b) hE.o (D.o.trans (H.mono D.o.size)) O.o N.o (Z4 (yx (by rw[G.o];exact E.o) oM H) N.o m (λq=>by rw[a4 q];have:=G.o;have:=C.o;have:=z.o;congr 2;omega));rw[aa.o,<-a3.o]at h;exact h
  have av:Hid (∀m:Option Addr,(0<M.ar (B k).e->m=some (Ad g (b*6)))->∀W,Bw wr W->Cs 137 #[.agg #[Iv (B k).e,Sl sa (B k).sl sc,Iv (B k).f],Sl m (t-b) (cap-b),p1,p2] W (λe W'=>e=Rt (.agg #[.bool v.e,Uv v.f.a,Uv v.f.b,Uv v.f.c,Uv v.f.d,.bool v.loop])/\Bw W W')):=an;clear an;obtain⟨post,ai,a2⟩:=Z3 (l:=l) (a:=(M.ar (B k).e).toNat) (oG N.o z.o);have ao:Hid (∀W,Bw wr W->wC (λb=>w.heap.size<b) W (Sl (Sm g 0) b cap) 6 b (kQ (l.drop (M.ar (B k).e).toNat))):=λW H=>yx (url E.o ai (by rw[jw];have:=G.o;have:=C.o;have:=z.o;congr 1;omega) a0 oM) oM H
  have ap:Hid ((l.drop (M.ar (B k).e).toNat).length+1=b):=by show _=_;have:=G.o;have:=C.o;have:=z.o;omega
  clear ai a2;have au:Hid (cap=b->¬0<M.ar (B k).e):=λe q=>oG z.o C.o
  go_region_law (first
   |(refine urk Z0 rfl (.tmp 25) (.tmp 26) (.tmp 29) 128 251 rfl (p1:=p1) (p2:=p2) (y1:=.agg #[Iv (B k).e,Sl sa (B k).sl sc,Iv (B k).f]) (y2:=Sl (if cap=b then some (Ad g 0) else some (Ad g (b*6))) (t-b) (cap-b)) (by simp[Act.eval,Act.put]) (by simp[Act.eval,Act.put]) (by simp[Act.eval,Act.put]) ((av.o (if cap=b then some (Ad g 0) else some (Ad g (b*6))) (λq=>Zn (λe=>au.o e q)) X.drew bX.o.drew).mono ?_);rintro e W1 ⟨rfl,T⟩;have Y:Hid (Bw wr W1):=uf bX.o ((wI X).drew.trans T);clear T;refine⟨_,rfl,?_⟩)
   |(refine Qp rfl (.tmp 24) (.tmp 31) 251 251 rfl (v:=Sl (Sm g 0) b cap) (y:=Sl (Sm W1.heap.size 0) 1 1) (by simp[Act.eval,Act.put]) (by simp[Act.eval,Act.put]) Z1 (ao.o (W1.alloc (qd v)) (uf Y.o (wG W1))) (Z2 (Eb.e W1 v)) oM (λ_=>Nat.one_pos) ?_;intro v' W4 ag ae a7;have aw:Hid (wC (λx=>w.heap.size<x\/(W1.alloc (qd v)).heap.size<=x) W4 v' 6 (b+1) (kQ (l.drop (M.ar (B k).e).toNat)++Fo v)):=ag;have aq:Hid (wS (λx=>w.heap.size<x) (W1.alloc (qd v)) W4):=ae;clear ag ae a7))
  all_goals go_goals
  all_goals go_wp2
  all_goals go_roundw
  all_goals first
   |exact Z7 J P.o D.o O.o ax.o ay.o aa.o ap.o Y.o aw.o aq.o
   |(simp[intOf];omega)
 obtain rfl:k=n:=oM;obtain⟨pre,aj,ah⟩:=Z8 (M.stk (uC nr mk) B k);have ak:Dr wr g ((M.stk (uC nr mk) B k).length*6) (M.top (M.stk (uC nr mk) B k)):=by
  rcases E.o with⟨q,_⟩|⟨g',a8,q,h2,h3,h4,h5,h6⟩
  ·cases q
  cases q;have:=Wn (pre:=pre) (post:=[]) h5 (by rw[aj,Ca]);rw[ah]at this;exact this
 have al:(M.stk (uC nr mk) B k).length<=1048576:=by
  rcases Z.o with q|q
  ·subst q;simp[M.stk]
  have:=M.bR (uC nr mk) B k q.2.1;rw[q.2.2]at this;omega
 clear aj ah O E HV ad;generalize M.stk (uC nr mk) B k=l at *;obtain⟨q,L⟩:∃q,l.length=q:=⟨_,rfl⟩;rw[L]at ak al;rw[L];clear L;have x1:((q+1:Nat):Int)-1=(q:Int):=oM;obtain⟨t0,t1,t2,t3,t4,t5⟩:=ak;obtain⟨r0,r1,r2,r3,r4,r5⟩:=P.o.c;obtain⟨s0,s1,s2,s3,s4,s5⟩:=P.o.s;simp only[oz,nz]at r0 r1 r2 r3 r4 r5;generalize M.top l=v at *;have x2:=Z9 q al;go_wp2;refine wL (v:=It v) (by simp[results,f136,go_sem,It, *]) rfl ?_;exact⟨rfl,BH D.o w.heap.size v wF⟩
open M (uw)
def O1:(prog.info? 334).map (λi=>(i.zero,i.size,i.bytes))=some (some .nilIface,1,16):=rR
def O2:vA 206 334 1 16:=⟨underlying206,⟨_,O1,rfl⟩,oM⟩
def O3{Y:Wl}(v:Vl)(y:Nat)(c:y=Y.heap.size)(b:v.oneCell'=true):Src prog 1 206 (Sl (Sm y 0) 1 1) 1 [v] (Y.alloc (Oc #[v] 334)):=by
 subst c;refine Gj (P:=prog) _ underlying206 (Ad Y.heap.size 0) 1 1 [v] rfl (λj u a=>?_) (λu a=>?_)
 ·match j,a with
  |0,a=>simpa[Addr.add] using (cN Y.heap.size rfl a:(Y.alloc (.cells #[v] 334)).cell? (Ad Y.heap.size 0)=some u)
  |j+1,a=>simp at a
 simp at a;subst a;exact b
def O4{K L b s v il ic mO R S la lc w Y W f m o}(i:wO K L w b s v il ic mO R S la lc)(r:Bw w Y)(p:wS (λx=>K x) Y W)(F:wC (λx=>K x\/Y.heap.size<=x) W (Sl m (s.st.length+1) o) 1 (s.st.length+1) (uZ false s.st++[Hn f (s.l||f.e==1)]))(O:¬(s.st.length:Int) ≥ mO)(I:s.e=false) :
  wE (s.n f mO) K L b v il ic mO w (Rt (Iv (-1))) (W.setCell (Ad b 4) (Sl m (s.st.length+1) o)):=by
 have E:s.n f mO={ s with st:=s.st++[f] }:=by unfold wD.n;rw[Zn O]
 have H:=i.bl;have U:=r.size;have T:=p.h;have Fi:∀x,x<w.heap.size->¬K x->W.heap[x]?=w.heap[x]?:=λx k t=>(p.d x oM t).trans (r.block x k)
 have G:=Fi b H i.kb;rw[E];refine⟨by unfold jl;simp[I],s.f,s.st++[f],m,o,la,lc,λx=>(K x\/Y.heap.size<=x)/\x<W.heap.size,L,λ_=>⟨rfl,rfl⟩,⟨?_,?_,?_,?_,?_,?_,i.lb⟩,?_,λx k=>.inl k,?_⟩
 ·show wY _ b _ v il ic mO m (s.st++[f]).length o la s.a.length lc;rw[wK,Bs];have h:=(i.c.on G).c m (s.st.length+1) o;exact⟨h.c0,h.c1,h.c2,h.c3,h.c4,h.c5,h.c6,h.ex,h.c8,h.c9,h.a,h.fz⟩
 ·show wC _ _ (Sl m (s.st++[f]).length o) 1 (s.st++[f]).length (uZ false (s.st++[f]));rw[LD,wK,Bs,Bool.false_or];rcases F with⟨e,_⟩|⟨g,cap,e,A,B,C,D,y⟩
  ·injection e with _ e2;exact aB e2 oM
  have N:g<W.heap.size:=by
   obtain⟨u,Q⟩:=Dt.1 (y 0 oM).1;exact ud Q
  have P:g≠b:=λe=>by
   subst e;rcases A with q|q
   ·exact i.kb q
   omega
  have t:(W.setCell (Ad b 4) (Sl m (s.st.length+1) o)).heap[g]?=W.heap[g]?:=zJ _ P;exact .inr ⟨g,cap,e,⟨A,N⟩,B,C,λj J=>(zI (a:=(Ad g j)) t).trans (D j J),y.q t⟩
 ·exact i.a.on (λx k=>(zJ _ (λe=>i.lb (by simp at e;exact e▸k))).trans (Fi x (i.lt x (.inr k)) (λq=>i.kl x q k)))
 ·intro x k;rw[uj];rcases k with q|q
  ·exact q.2
  have:=i.lt x (.inr q);omega
 ·rintro x ⟨q|q,_⟩ h
  ·exact i.kl x q h
  have:=i.lt x (.inr h);omega
 ·rintro⟨q|q,_⟩
  ·exact i.kb q
  omega
 ·rintro x ⟨q|q,h⟩
  ·exact .inl q
  exact .inr ⟨oM,by rw[uj];exact h⟩
 refine⟨p.os.trans r.os,p.g.trans r.tape,p.f.trans r.output,by rw[uj];omega,λx k z=>(zJ _ (λe=>z (.inr (.inr e)))).trans (Fi x k (λq=>z (.inl q)))⟩
def O5{K L b s g il ic mO i j la lc w W f}(k:wO K L w b s g il ic mO i j la lc)(e:Bw w W)(m:(s.st.length:Int) ≥ mO) :
  wE (s.n f mO) K L b g il ic mO w (Rt (Iv 3)) W:=by
 have l:s.n f mO=s.t 3:=by unfold wD.n;rw[Zp m]
 rw[l];have h:=k.q e;exact⟨rfl,s.f,s.st,i,j,la,lc,K,L,(λq=>by cases q),⟨⟨h.c.c0,h.c.c1,h.c.c2,h.c.c3,h.c.c4,h.c.c5,h.c.c6,h.c.ex,h.c.c8,h.c.c9,h.c.a,h.c.fz⟩,h.st,h.a,h.lt,h.kl,h.kb,h.lb⟩,λx d=>.inl d,λx d=>.inl d,Kept.of e⟩
def Um K L b s f i j A il ic mO q r la lc w(p:wO K L w b s A il ic mO q r la lc)(Q:s.st.length<=1000)(P:(s.st.length:Int)<=mO)(O:s.e=false)(C : .iface i j=Hn f (s.l||f.e==1)) :
  Cs 207 #[.pointer (Sm b 0),.iface i j] w (wE (s.n f mO) K L b A il ic mO w):=by
 have k:Hid (wO K L w b s A il ic mO q r la lc):=p;have T:(Value.iface i j).oneCell'=true:=rfl;have H:=ua C;obtain⟨n,y⟩:=nm s.st.length;have o:Hid (s.st.length=n):=y;have J:=p.c.c1;have u:=p.c.c4;have lb:=p.bl;rw[y]at u Q P;clear p C y;by_cases m:(n:Int)=mO
 ·have R:((n:Int)==mO)=true:=by simp[m]
  have t:=ua m;clear m;go_enter func207,ntmps207;go_wp2;go_quiet (fail);have g:Bw w (w.drewN nq):=zB (wI _) nq;generalize w.drewN nq=Y at *;go_wp2;go_ret;exact O5 k g (by rw[o.o,t.o];exact Eg _)
 have R:((n:Int)==mO)=false:=by simp[m]
 have t:Hid (¬(n:Int)=mO):=m;clear m;go_enter func207,ntmps207;go_wp2;go_quiet (fail);have g:Bw w (w.drewN nq):=zB (wI _) nq;generalize w.drewN nq=Y at *;have Z:=ue u g;have aa:=wX lb g.size;have I:Hid (Bw w Y):=g;have G:Hid (wC K (Y.alloc (Oc #[.iface i j] 334)) (Sl q n r) 1 n (uZ false s.st)):=by
  have h:=k.st;rw[o.o]at h;exact h.on (λx U=>(uf g (wG Y)).block x (k.lt x (.inl U)))
 have D:Hid (∀W,wS (λx=>K x) (Y.alloc (Oc #[.iface i j] 334)) W->W.cell? (Ad b 4)=some (Sl q n r)/\W.frozen? (Ad b 4)=false):=λW N=>by
  have e:W.heap[b]?=w.heap[b]?:=(N.d b sO k.kb).trans ((uf g (wG Y)).block b lb);exact⟨(zI (a:=(Ad b 4)) e).trans (by have:=k.c.c4;rw[o.o]at this;exact this),(Ec (a:=(Ad b 4)) e).trans (k.c.fz 4)⟩
 clear g J u;go_wp2_with (at_builtin;refine Qo rfl _ _ 206 206 rfl rfl rfl O2 G (O3 (.iface i j) Y.heap.size rfl T) oM (λ_=>Nat.one_pos) ?_;intro v' W4 z v S;obtain⟨V,X,rfl⟩:=uq z;have F:Hid _:=z;have E:Hid _:=v;obtain⟨k4,k5⟩:=D W4 v;clear z v S);go_ret;have e:uZ false s.st++[Hn f (s.l||f.e==1)]=uZ false s.st++[.iface i j]:=by rw[H.o]
 have B:=F;rw[<-o.o]at B ⊢;exact O4 (Y:=Y.alloc (Oc #[.iface i j] 334)) k.o (uf I.o (wG Y)) E.o (by rw[e];exact B) (by rw[o.o];have:=t.o;omega) O
structure LF(b:Nat)(s:wD)(ia:Oa)(il ic:Nat)(mO:Int)(ka:Oa)(kn kc:Nat)(la:Oa)(ln lc:Nat)(w:Wl)(e:Ending)(w':Wl):Prop where
 k:e=Rt (Iv (-1))
 c:wY w' b s ia il ic mO ka kn kc la ln lc
 l:Kept (λx=>x=b) w w'
def vG{w W b}(h:Kept (λx=>x=b) w W)j{v}:Kept (λx=>x=b) w (W.setCell (Ad b j) v) :=
 ⟨h.os,h.g,h.f,by rw[uj];exact h.h,λx c a=>(zJ _ a).trans (h.d x c a)⟩
def vS{P w W}(h:Kept P w W){o}:Kept P w (W.alloc o) :=
 ⟨h.os,h.g,h.f,by rw[zV];exact Nat.le_succ_of_le h.h,λx a b=>(Hj (wX a h.h)).trans (h.d x a b)⟩
def xW{P} w:Kept P w w:=⟨rfl,rfl,rfl,wF,λ_ _ _=>rfl⟩
def Zs{P w W}(h:Kept P w W){n}:Kept P w (W.drewN n):=⟨h.os,h.g,h.f,h.h,h.d⟩
def LG{P w W}(h:Kept P w W):Kept P w W.drew:=⟨h.os,h.g,h.f,h.h,h.d⟩
def O6(b:Nat)s i(il ic:Nat)(mO:Int)j(l k:Nat)la(ln lc:Nat)(h:Int)(pos g:Nat)w(a:wY w b s i il ic mO j l k la ln lc)(t:g<=lc) :
  Cs 230 #[.pointer (Sm b 0),Iv h,.agg #[Iv (pos:Int),Iv (g:Int)]] w (LF b { s with f:=h,c:=pos } i il ic mO j l k la g lc w):=by
 have m:=ua a;have lb:=ud a.c0;have n:=a.c2;have c3:=a.c3;have o:=a.c5;have p:=a.fz 2;have q:=a.fz 3;have r:=a.fz 5;have u:(0:Int)<=(g:Int):=oM;have v:(g:Int)<=(lc:Int):=oM;go_enter func230,ntmps230;go_wp2;go_region;all_goals
  go_wp2;go_ret;refine⟨rfl,?_,LG (vS (vG (vG (vG (xW w) 2) 3) 5))⟩;exact(((m.d h).f pos).e la g lc).on (Hj (by rw[uj,uj,uj];exact lb))
def Zt w:(zeroValue 331).run prog w=.ok (.agg #[Iv 0,Bf,Iv 0,Iv 0]) w:=(zero_of_info (P:=prog) (t:=331) (v:=.agg #[Iv 0,Bf,Iv 0,Iv 0]) (n:=4) rR).1 w
def Zu w:(zeroValue 336).run prog w=.ok (.agg #[Iv 0,Bf,Iv 0,Iv 0]) w:=(zero_of_info (P:=prog) (t:=336) (v:=.agg #[Iv 0,Bf,Iv 0,Iv 0]) (n:=4) rR).1 w
def Zv w:(zeroValue 339).run prog w=.ok (.agg #[Iv 0,Bf]) w:=(zero_of_info (P:=prog) (t:=339) (v:=.agg #[Iv 0,Bf]) (n:=2) rR).1 w
def uj8 w:(Instr.typeAssert .nilIface 334 331 true).run prog w=.ok (.tuple #[.agg #[Iv 0,Bf,Iv 0,Iv 0],Bf]) w:=by simp[Instr.typeAssert,run_underlying underlying331,Zt]
def unA v w:(Instr.typeAssert (.iface 331 v) 334 331 true).run prog w=.ok (.tuple #[v,Bt]) w:=by simp[Instr.typeAssert,run_underlying underlying331]
def unB v w:(Instr.typeAssert (.iface 336 v) 334 331 true).run prog w=.ok (.tuple #[.agg #[Iv 0,Bf,Iv 0,Iv 0],Bf]) w:=by simp[Instr.typeAssert,run_underlying underlying331,Zt]
def unC v w:(Instr.typeAssert (.iface 339 v) 334 331 true).run prog w=.ok (.tuple #[.agg #[Iv 0,Bf,Iv 0,Iv 0],Bf]) w:=by simp[Instr.typeAssert,run_underlying underlying331,Zt]
def uj9 w:(Instr.typeAssert .nilIface 334 336 true).run prog w=.ok (.tuple #[.agg #[Iv 0,Bf,Iv 0,Iv 0],Bf]) w:=by simp[Instr.typeAssert,run_underlying underlying336,Zu]
def unE v w:(Instr.typeAssert (.iface 331 v) 334 336 true).run prog w=.ok (.tuple #[.agg #[Iv 0,Bf,Iv 0,Iv 0],Bf]) w:=by simp[Instr.typeAssert,run_underlying underlying336,Zu]
def unF v w:(Instr.typeAssert (.iface 336 v) 334 336 true).run prog w=.ok (.tuple #[v,Bt]) w:=by simp[Instr.typeAssert,run_underlying underlying336]
def unG v w:(Instr.typeAssert (.iface 339 v) 334 336 true).run prog w=.ok (.tuple #[.agg #[Iv 0,Bf,Iv 0,Iv 0],Bf]) w:=by simp[Instr.typeAssert,run_underlying underlying336,Zu]
def uka w:(Instr.typeAssert .nilIface 334 339 true).run prog w=.ok (.tuple #[.agg #[Iv 0,Bf],Bf]) w:=by simp[Instr.typeAssert,run_underlying underlying339,Zv]
def unH v w:(Instr.typeAssert (.iface 331 v) 334 339 true).run prog w=.ok (.tuple #[.agg #[Iv 0,Bf],Bf]) w:=by simp[Instr.typeAssert,run_underlying underlying339,Zv]
def unI v w:(Instr.typeAssert (.iface 336 v) 334 339 true).run prog w=.ok (.tuple #[.agg #[Iv 0,Bf],Bf]) w:=by simp[Instr.typeAssert,run_underlying underlying339,Zv]
def unJ v w:(Instr.typeAssert (.iface 339 v) 334 339 true).run prog w=.ok (.tuple #[v,Bt]) w:=by simp[Instr.typeAssert,run_underlying underlying339]
attribute [local go_sem] uj8 unA unB unC uj9 unE unF unG uka unH unI unJ
def Zw(wr:World)(b:Nat):Nat:=match wr.cell? (Ad b 4) with|some (.slice _ n _)=>n|_=>0
def LH{wr b n c a}(h:wr.cell? (Ad b 4)=some (Sl a n c)):Zw wr b=n:=by unfold Zw;rw[h]
structure Zx(w:Wl)(b:Nat)(s:wD)(ia:Oa)(il ic:Nat)(mO:Int)(ka:Oa)(kc:Nat)(la:Oa)(ln lc k:Nat)(wr:Wl):Prop where
 le:k<=s.st.length
 un:vg s.st.reverse=vg (s.st.take k).reverse
 c:wY wr b s ia il ic mO ka k kc la ln lc
 a:Bk (λx=>x=b) w wr
def O7(w:Wl)(b:Nat)(s:wD)(a:Oa)(il ic:Nat)(mO:Int)(c:Oa)(d:Nat)(la:Oa)(ln lc:Nat)(wr:Wl):Prop:=∃k,Zx w b s a il ic mO c d la ln lc k wr
def wY.re{w b s t e il ic mO g k i la ln lc}(h:wY w b s e il ic mO g k i la ln lc)(l:t.f=s.f)(m:t.c=s.c)(n:t.h=s.h)(o:t.j=s.j)(p:t.b=s.b)(q:t.d=s.d)(r:t.label=s.label):wY w b t e il ic mO g k i la ln lc :=
 ⟨h.c0,h.c1,by rw[l];exact h.c2,by rw[m];exact h.c3,h.c4,h.c5,by rw[n];exact h.c6,by rw[o];exact h.ex,by rw[p];exact h.c8,by rw[q];exact h.c9,by rw[r];exact h.a,h.fz⟩
def O8{K L:Np}{b:Nat}{s:wD}{f:Cp}{t:Oa}{il ic:Nat}{mO:Int}{p:Oa}{q:Nat}{la:Oa}{lc j:Nat}{w wr W:Wl}{e:Ending}(m:wO K L w b s t il ic mO p q la lc)(A:s.e=false)(u:s.st[j]?=some f)(B:f.e≠2)(C:f.a<=s.a.length)
  (E:vg s.st.reverse=vg (s.st.take (j+1)).reverse) (o:Kept (λx=>x=b) w wr) (n:LF b { s with f:=f.to,c:=f.c } t il ic mO p j q la f.a lc wr e W):wE s.fail K L b t il ic mO w e W:=by
 have H:=(zT.1 u).1;have D:vg s.st.reverse=some (f,(s.st.take j).reverse):=by
  rw[E,qA u,List.reverse_append];show vg (f::(s.st.take j).reverse)=_;rw[vg,Zn B]
 have z:s.fail={ s with st:=s.st.take j,c:=f.c,a:=s.a.take f.a,f:=f.to }:=by
  unfold wD.fail;rw[D];simp only[List.reverse_reverse]
 have v:(s.st.take j).length=j:=by rw[Fy];omega
 have y:(s.a.take f.a).length=f.a:=by rw[Fy];omega
 have kk:∀x,x<w.heap.size->x≠b->W.heap[x]?=w.heap[x]?:=λx i r=>(n.l.d x (wX i o.h) r).trans (o.d x i r)
 rw[z];refine⟨by rw[n.k];unfold jl;simp[A],f.to,s.st.take j,p,q,la,lc,K,L,λ_=>⟨rfl,rfl⟩,⟨?_,?_,?_,?_,m.kl,m.kb,m.lb⟩,λx i=>.inl i,λx i=>.inl i,?_⟩
 ·show wY W b _ t il ic mO p (s.st.take j).length q la (s.a.take f.a).length lc;rw[v,y];exact n.c.re rfl rfl rfl rfl rfl rfl rfl
 ·show wC K W (Sl p (s.st.take j).length q) 1 (s.st.take j).length (uZ false (s.st.take j));rw[v,qr];have h:=Vi m.st (j:=j) oM;rw[Mb]at h;exact h.on (λx i=>kk x (m.lt x (.inl i)) (λe=>m.kb (e▸i)))
 ·show wC L W (Sl la (s.a.take f.a).length lc) 3 (s.a.take f.a).length (uS (s.a.take f.a));rw[y,uhP];exact(Vi m.a (j:=f.a) C).on (λx i=>kk x (m.lt x (.inr i)) (λe=>m.lb (e▸i)))
 ·intro x i;have F:=n.l.h;have G:=o.h;have:=m.lt x i;omega
 exact⟨n.l.os.trans o.os,n.l.g.trans o.g,n.l.f.trans o.f,wN o.h n.l.h,λx i r=>kk x i (λe=>r (.inr (.inr e)))⟩
def O9{K L b s n il ic mO o p la lc w wr}(k:wO K L w b s n il ic mO o p la lc)(m:Zx w b s n il ic mO o p la s.a.length lc 0 wr):wE s.fail K L b n il ic mO w (Rt (Iv 1)) wr:=by
 have r:s.fail=s.t 1:=by
  unfold wD.fail;rw[m.un];rfl
 rw[r];have l:=m.a;refine⟨rfl,s.f,[],o,p,la,lc,K,L,(λq=>by cases q),⟨m.c.re rfl rfl rfl rfl rfl rfl rfl,?_,?_,?_,k.kl,k.kb,k.lb⟩,λx i=>.inl i,λx i=>.inl i,⟨l.os,l.g,l.f,by rw[l.h];exact wF,λx i u=>l.d x (λe=>u (.inr (.inr e)))⟩⟩
 ·have h:=Vi k.st (j:=0) oM;exact h.on (λx i=>l.d x (λe=>k.kb (e▸i)))
 ·exact k.a.on (λx i=>l.d x (λe=>k.lb (e▸i)))
 intro x i;rw[l.h];exact k.lt x i
def jo K L b s q il ic mO v i la lc{w}(B:wO K L w b s q il ic mO v i la lc)(E:s.st.length<=1000)(hd:s.e=false)(ad:∀f,f∈s.st->f.e≠2->f.a<=s.a.length)(ac:∀f,f∈s.st->f.e=0\/f.e=1\/f.e=2) :
  Cs 206 #[.pointer (Sm b 0)] w (wE s.fail K L b q il ic mO w):=by
 have r:=ua B;have Z:=ua ad;have Y:=ua ac;have HN:=ua E;obtain⟨ln,R⟩:=nm s.a.length;have y:=ua R;have X:=ua hd;have lb:=B.bl;have h0:Zx w b s q il ic mO v i la ln lc s.st.length w:=⟨wF,by rw[Jo (wF)],by have:=B.c;rw[R]at this;exact this,Bk.e _ _⟩;have T:=ua h0;go_enter func206,ntmps206;go_wp2;go_loopw [7] (λ_ wr=>O7 w b s q il ic mO v i la ln lc wr) (λ_ wr=>Zw wr b)
 ·exact⟨_,T⟩
 obtain⟨k,p⟩:=hrel;have o:=ua p;have ag:b<wr.heap.size:=by rw[p.a.h];exact lb
 have A:=p.c.c4;have I:=p.c.fz 4;rcases Nat.eq_zero_or_pos k with S|S
 ·subst S;go_wp2_with (go_at_call 210;refine(MB b v i _ A).mono ?_;rintro e W ⟨rfl,N⟩;subst W);go_ret;have h:=o;rw[<-y.o]at h;exact O9 r h
 obtain⟨j,rfl⟩:∃j,k=j+1:=⟨k-1,oM⟩;have Q:=p.le;have C:=zG Q;have D:=Gb Q;generalize s.st[j]=n at C D;have t:=Z n D;rw[y.o]at t;have l:=Y n D;have G:=ua C;have H:=ua p.un;obtain⟨g,rfl,hg,af,m⟩:∃g,v=some (Ad g 0)/\K g/\s.st.length<=i/\w.cell? (Ad g j)=some (Hn n ((s.st.take (j+1)).any (λf=>f.e==1))):=by
  rcases r.st with⟨_,e,_⟩|⟨g,cap,e,hq,h3,h4,h5,h6⟩
  ·omega
  injection e with e1 e2 e3;exact⟨g,e1,hq,oM,by rw[h5 j (by rw[Zq];omega),Zr s.st false j n C,Bool.false_or]⟩
 have O:j<=1000:=oH HN;have P:j+1<=i:=oM;have ab:g≠b:=λe=>r.kb (e▸hg)
 replace m:=(zI (a:=(Ad g j)) (p.a.d g ab)).trans m;generalize (s.st.take (j+1)).any (λf=>f.e==1)=nn at m;have lg:=ud m;unfold Hn at m;rcases l with l|l|l
 rotate_right
 ·rw[Zn (by rw[l];decide),Zn (by rw[l];decide)]at m;have z:=ua l;go_wp2_with (go_at_call 210;refine(AH b g j i _ A I m O P).mono ?_;rintro e W ⟨rfl,N⟩;subst W);go_roundw
  ·refine⟨j,?_,?_,o.c.c _ _ _,o.a.set b 4 _ rfl⟩
   ·have:=o.le;omega
   rw[H.o,qA G.o,uhQ _ _ z.o]
  rw[LH (o.o.c.c (Sm g 0) j i).c4,LH o.o.c.c4];omega
 all_goals
  first|rw[Zp l]at m|rw[Zn (by rw[l];decide),Zp l]at m
  have z:Hid (n.e≠2):=by show n.e≠2;rw[l];decide
  rw[l]at t;replace t:=t dC;go_wp2_with fail;refine(AH b g j i _ A I m O P).mono ?_;rintro e W ⟨rfl,N⟩;subst W;have aa:Hid (Bk (λx=>x=b) w (wr.setCell (Ad b 4) (Sl (Sm g 0) j i))):=o.o.a.set b 4 _ rfl;have F:Hid (wY (wr.setCell (Ad b 4) (Sl (Sm g 0) j i)) b s q il ic mO (Sm g 0) j i la ln lc):=o.o.c.c _ _ _;generalize wr.setCell (Ad b 4) (Sl (Sm g 0) j i)=V at *;have ae:=ud F.c0;go_wp2_with fail;refine(O6 b s q il ic mO (Sm g 0) j i la ln lc n.to n.c n.a _ (F.on (Hj ae)) (by have:=NW r.a;rw[y.o]at this;omega)).mono ?_;rintro e W J;obtain rfl:=J.k;have U:=ua J;go_wp2;go_ret;refine O8 r X G z (by rw[y.o];exact t) H ?_ U;have u:=aa;exact vS ⟨u.os,u.g,u.f,by rw[u.h];exact wF,λx hx E=>u.d x E⟩
end Go.Proofs.YtoihadcablknpaaGreatDoor
