import Derived.Test.YtimfigongapdnaaGreatT07
import Derived.Lib.SmallJoins
set_option linter.unusedVariables false
set_option linter.unusedSimpArgs false
set_option maxHeartbeats 40000000
set_option maxRecDepth 100000
namespace Go.Proofs.YtimfigongapdnaaGreat
open Go.RowKit
open M (OpD ug Gr)
structure Rd(t:Tp)(R:Nat)(w:World)(a:Option Addr)(cap i:Nat):Prop where
 c0:w.cell? ⟨R,0,none⟩=some (.slice a t.m cap)
 c1:w.cell? ⟨R,1,none⟩=some (.int .i64 (i:Int))
 f1:w.frozen? ⟨R,1,none⟩=false
 le:i<=t.m
 cp:t.m<=cap
 txt:Ints (λb=>b<R) .u8 w a t.m (λk=>(t.T k:Int))
def RdA(t:Tp)(R:Nat)(w:World)(i:Nat):Prop:=∃a cap,Rd t R w a cap i
theorem RdA.lt{t R w i}(h:RdA t R w i):R<w.heap.size:=by
 obtain⟨a,c,h⟩:=h;exact ud h.c0
theorem RdA.le{t R w i}(h:RdA t R w i):i<=t.m:=by
 obtain⟨a,c,h⟩:=h;exact h.le
theorem RdA.keep{t R w w' i C}(h:RdA t R w i)(k:Keep C w w')(e:∀b,C b->R<b):RdA t R w' i:=by
 have f:=h.lt;obtain⟨a,c,h⟩:=h;have d:∀b,b<=R->w'.heap[b]?=w.heap[b]?:=λb d=>k.block b (by omega) (λq=>by have:=e b q;omega)
 exact⟨a,c,(World.cell?_of_block (a:=⟨R,0,none⟩) (d R (Nat.le_refl _))).trans h.c0,(World.cell?_of_block (a:=⟨R,1,none⟩) (d R (Nat.le_refl _))).trans h.c1,(World.frozen?_of_block (a:=⟨R,1,none⟩) (d R (Nat.le_refl _))).trans h.f1,h.le,h.cp,h.txt.on (λb q=>d b (by omega))⟩
theorem Rd.set{t R w a cap i j}(h:Rd t R w a cap i)(c:j<=t.m):Rd t R (w.setCell ⟨R,1,none⟩ (.int .i64 (j:Int))) a cap j:=by
 have d:(⟨R,1,none⟩:Addr)≠⟨R,0,none⟩:=by simp
 refine⟨(World.cell?_setCell_other _ _ _ _ d).trans h.c0,World.cell?_setCell_same' _ _ _ (by rw[h.c1];rfl),by rw[World.frozen?_setCell];exact h.f1,c,h.cp,h.txt.on (λb e=>Below.heap_setCell _ _ _ _ (by show b≠R;omega))⟩
def RdOn(t:Tp)(R i:Nat)(w w':World):Prop:=RdA t R w' i/\Keep (λk=>k=R) w w'
theorem uw t R i w(h:RdA t R w i) :
  Calls Tryz.prog 11 #[.pointer (some ⟨R,0,none⟩)] w λe w'=>e=.returned (.int .i64 (t.v i:Int))/\RdOn t R (t.n i) w w':=by
 obtain⟨a,cap,h⟩:=h;have u:=h.c0;have x:=h.c1;have A:=h.f1;have C:=h.le;have D:=t.le;have H:=ua h;by_cases d:i<t.m
 ·have g:t.v i=t.T i:=if_pos d;have f:t.n i=i+1:=if_pos d;rw[g,f];obtain⟨b,off,rfl,B,l⟩:∃b off,a=some ⟨b,off,none⟩/\b<R/\∀k,k<t.m->w.cell? ⟨b,off+k,none⟩=some (.int .u8 (t.T k:Int)):=by
   rcases H.txt with e|e
   ·omega
   exact e
  have z:=l i d;have F:=t.byte i;have p:decide ((t.m:Int)<=i)=false:=by simp;omega
  have hlt':(i:Int)<t.m:=by omega
  have o:Hid (∀q,RdOn t R (i+1) w ((w.drewN q).setCell ⟨R,1,none⟩ (.int .i64 ((i:Int)+1)))):=λq=>by
   have c:Keep (λ_=>False) w (w.drewN q):=Keep.of_below (below_drewN (Below.refl w.heap.size w) q) (λk c _=>c);obtain⟨s,y,r⟩:=RdA.keep ⟨_,_,H.out⟩ c (λb q=>q.elim);have:=r.set (j:=i+1) (by omega);rw[Int.natCast_add]at this;exact⟨⟨_,_,this⟩,(c.mono (λ_ q=>q.elim)).trans (Keep.setCell _ _ _ rfl)⟩
  clear l;generalize t.T i=E at *;go_enter Tryz.func11,Tryz.ntmps11;go_wp2;go_quiet (fail);go_wp2;go_quiet (fail);go_wp2;go_ret;exact⟨rfl,o _⟩
 have g:t.v i=0:=if_neg d;have f:t.n i=i:=if_neg d;rw[g,f];have p:decide ((t.m:Int)<=i)=true:=by simp;omega
 have hlt':(t.m:Int)<=i:=by omega
 go_enter Tryz.func11,Tryz.ntmps11;go_wp2;go_quiet (fail);go_wp2;go_ret;have c:∀q,Keep (λ_=>False) w (w.drewN q):=λq=>Keep.of_below (below_drewN (Below.refl w.heap.size w) q) (λk c _=>c)
 exact⟨rfl,RdA.keep ⟨_,_,H⟩ (c _) (λb q=>q.elim),(c _).mono (λ_ q=>q.elim)⟩
theorem ugY t R i w(h:RdA t R w i) :
  Calls Tryz.prog 48 #[.pointer (some ⟨R,0,none⟩)] w λe w'=>e=.returned (.int .i64 ((t.m:Int)-i))/\RdOn t R i w w':=by
 obtain⟨a,cap,h⟩:=h;have d:=h.c0;have f:=h.c1;have g:=h.le;have j:=t.le;have H:=ua h;go_enter Tryz.func48,Tryz.ntmps48;go_wp2;go_quiet (fail);go_wp2;go_ret;have c:∀q,Keep (λ_=>False) w (w.drewN q):=λq=>Keep.of_below (below_drewN (Below.refl w.heap.size w) q) (λk c _=>c)
 exact⟨rfl,RdA.keep ⟨_,_,H⟩ (c _) (λb q=>q.elim),(c _).mono (λ_ q=>q.elim)⟩
theorem RdOn.trans{t R i j w w' a}(h:RdOn t R i w w')(k:RdOn t R j w' a):RdOn t R j w a:=⟨k.1,h.2.trans k.2⟩
theorem RdOn.refl{t R i w}(h:RdA t R w i):RdOn t R i w w:=⟨h,Keep.refl _ _⟩
theorem RdOn.quiet{t R i w w' a}(h:RdOn t R i w w')(k:Keep (λ_=>False) w' a):RdOn t R i w a :=
 ⟨h.1.keep k (λ_ q=>q.elim),h.2.trans (k.mono (λ_ q=>q.elim))⟩
theorem RdOn.le{t R i w w'}(h:RdOn t R i w w'):w.heap.size<=w'.heap.size:=h.2.size
theorem uae{Q k w a n S}(h:Ints Q k w a n S):Ints (λb=>Q b/\b<w.heap.size) k w a n S:=by
 by_cases c:n=0
 ·exact .inl c
 rcases h with h|⟨b,off,e,d,h⟩
 ·exact absurd h c
 exact .inr ⟨b,off,e,⟨d,ud (h 0 (by omega))⟩,h⟩
theorem Ints.kept{Q C k w w' a n S}(h:Ints Q k w a n S)(t:Keep C w w')(d:∀b,Q b->¬C b):Ints Q k w' a n S :=
 ((uae h).on (λb c=>t.block b c.2 (d b c.1))).wide (λb c=>c.1)
theorem OpC.kept{Q C w w' b o d}(h:OpC Q w b o d)(l:Q b)(t:Keep C w w')(g:∀b,Q b->¬C b):OpC Q w' b o d:=by
 obtain⟨f,⟨a,c,i,j⟩,k⟩:=h;have e:=t.block b (ud f) (g b l);exact⟨(World.cell?_of_block (a:=⟨b,o,none⟩) e).trans f,⟨a,c,(World.cell?_of_block (a:=⟨b,o+1,none⟩) e).trans i,j.kept t g⟩,(World.cell?_of_block (a:=⟨b,o+2,none⟩) e).trans k⟩
theorem OpsA.kept{Q C w w' a n B}(h:OpsA Q w a n B)(t:Keep C w w')(d:∀b,Q b->¬C b):OpsA Q w' a n B:=by
 rcases h with h|⟨b,off,e,c,h⟩
 ·exact .inl h
 exact .inr ⟨b,off,e,c,λi f=>(h i f).kept c t d⟩
def DrS(t:Tp)(R:Nat)(s:List Int×Nat)(w:World)(e:Ending)(w':World):Prop :=
 ∃a c,e=.returned (.slice a s.1.length c)/\Ints (λb=>b≠R) .i64 w' a s.1.length (lf s.1)/\RdOn t R s.2 w w'
theorem uaf{t R i w W bs}(h:RdOn t R i w W){ty}:DrS t R (bs,i) w (.returned (.slice (some ⟨W.heap.size,0,none⟩) bs.length bs.length)) (W.alloc (.cells (bs.map (λx=>Value.int .i64 x)).toArray ty)):=by
 refine⟨_,_,rfl,.inr ⟨W.heap.size,0,rfl,λe=>?_,λk b=>?_⟩,h.quiet (Keep.alloc _ _ _)⟩
 ·have:=h.1.lt;omega
 have a:=World.alloc_heap_new W (.cells (bs.map (λx=>Value.int .i64 x)).toArray ty);simp only[World.cell?,a];have hk':=b;simp[lf,hk']
theorem vI{t R i w W}x y(e:x=y)(h:RdOn t R i w W){ty}:DrS t R (vz y,i) w (.returned (.slice (some ⟨W.heap.size,0,none⟩) 2 2)) (W.alloc (.cells #[.int .i64 x,.int .i64 x] ty)):=by
 subst e;exact uaf (bs:=vz x) h
theorem uep t R i w(h:RdA t R w i)(s:List Int×Nat)(a:vY t i=s) :
  Calls Tryz.prog 90 #[.pointer (some ⟨R,0,none⟩)] w (DrS t R s w):=by
 have C:=t.v_le i;go_enter Tryz.func90,Tryz.ntmps90;go_wp2_with fail;refine(uw t R i w h).mono ?_;rintro e w1 ⟨rfl,m⟩;have f:=ua m;unfold vY at a;generalize t.v i=k at *;obtain⟨q,x⟩:=nm (k%12);have hq':(k:Int)%12=(q:Int):=by omega
 have A:q<12:=by omega
 rw[x]at a;by_cases o:q<7
 ·rw[if_pos o]at a;subst a;have c1':(q:Int)<7:=by omega
  go_wp2_with fail;refine(uJ _ _).mono ?_;rintro e z ⟨rfl,rfl⟩;go_wp2;go_ret;have u:97+(k:Int) / 12%4=((97+k / 12%4:Nat):Int):=by omega
  rw[u];exact uaf (bs:=vz ((97+k / 12%4:Nat):Int)) (ty:=3) f
 rw[if_neg o]at a;have c1':¬(q:Int)<7:=by omega
 by_cases g:q=7
 ·rw[if_pos g]at a;subst a g;go_wp2;go_ret;exact uaf (bs:=[97,98]) f
 rw[if_neg g]at a;by_cases c3:q=8
 ·rw[if_pos c3]at a;subst a c3;go_wp2;go_ret;exact uaf (bs:=[0,255]) f
 rw[if_neg c3]at a;by_cases j:q=9
 ·rw[if_pos j]at a;subst a j;go_wp2;go_ret;exact uaf (bs:=[48,57,97,99]) f
 rw[if_neg j]at a;by_cases l:q=10
 ·rw[if_pos l]at a;subst l;by_cases p:200<k
  ·rw[if_pos p]at a;subst a;have c6':(200:Int)<(k:Int):=(by omega);go_wp2;go_ret;exact⟨none,0,rfl,.inl rfl,f⟩
  rw[if_neg p]at a;subst a;have c6':¬(200:Int)<(k:Int):=by omega
  go_wp2;go_ret;exact uaf (bs:=[0,96,99,255]) f
 rw[if_neg l]at a;obtain rfl:q=11:=by omega
 go_wp2_with fail;refine(uw t R (t.n i) w1 f.1).mono ?_;rintro e z ⟨rfl,m⟩;have c:=ua (f.trans m);have D:=t.v_le (t.n i);generalize t.v (t.n i)=r at *;obtain⟨b,y⟩:=nm (r%16);have hq2':(r:Int)%16=(b:Int):=by omega
 have B:b<16:=by omega
 rw[y]at a;subst a;rcases(show b=0\/b=1\/b=2\/b=3\/b=4\/b=5\/b=6\/b=7\/b=8\/b=9\/b=10\/b=11\/b=12\/b=13\/b=14\/b=15 by omega) with rfl|rfl|rfl|rfl|rfl|rfl|rfl|rfl|rfl|rfl|rfl|rfl|rfl|rfl|rfl|rfl
 ·go_wp2_with fail;refine(uJ _ _).mono ?_;rintro e d ⟨rfl,rfl⟩;go_wp2;go_ret;exact vI _ (lf yg 0) (by show wrap64 ((#[10,9,13,92,34,91,93,45,94,32,35,59,0,127,128,255]:Array UInt8)[0].toNat:Int)=_;simp[wrap64,lf,yg]) c
 ·go_wp2_with fail;refine(uJ _ _).mono ?_;rintro e d ⟨rfl,rfl⟩;go_wp2;go_ret;exact vI _ (lf yg 1) (by show wrap64 ((#[10,9,13,92,34,91,93,45,94,32,35,59,0,127,128,255]:Array UInt8)[1].toNat:Int)=_;simp[wrap64,lf,yg]) c
 ·go_wp2_with fail;refine(uJ _ _).mono ?_;rintro e d ⟨rfl,rfl⟩;go_wp2;go_ret;exact vI _ (lf yg 2) (by show wrap64 ((#[10,9,13,92,34,91,93,45,94,32,35,59,0,127,128,255]:Array UInt8)[2].toNat:Int)=_;simp[wrap64,lf,yg]) c
 ·go_wp2_with fail;refine(uJ _ _).mono ?_;rintro e d ⟨rfl,rfl⟩;go_wp2;go_ret;exact vI _ (lf yg 3) (by show wrap64 ((#[10,9,13,92,34,91,93,45,94,32,35,59,0,127,128,255]:Array UInt8)[3].toNat:Int)=_;simp[wrap64,lf,yg]) c
 ·go_wp2_with fail;refine(uJ _ _).mono ?_;rintro e d ⟨rfl,rfl⟩;go_wp2;go_ret;exact vI _ (lf yg 4) (by show wrap64 ((#[10,9,13,92,34,91,93,45,94,32,35,59,0,127,128,255]:Array UInt8)[4].toNat:Int)=_;simp[wrap64,lf,yg]) c
 ·go_wp2_with fail;refine(uJ _ _).mono ?_;rintro e d ⟨rfl,rfl⟩;go_wp2;go_ret;exact vI _ (lf yg 5) (by show wrap64 ((#[10,9,13,92,34,91,93,45,94,32,35,59,0,127,128,255]:Array UInt8)[5].toNat:Int)=_;simp[wrap64,lf,yg]) c
 ·go_wp2_with fail;refine(uJ _ _).mono ?_;rintro e d ⟨rfl,rfl⟩;go_wp2;go_ret;exact vI _ (lf yg 6) (by show wrap64 ((#[10,9,13,92,34,91,93,45,94,32,35,59,0,127,128,255]:Array UInt8)[6].toNat:Int)=_;simp[wrap64,lf,yg]) c
 ·go_wp2_with fail;refine(uJ _ _).mono ?_;rintro e d ⟨rfl,rfl⟩;go_wp2;go_ret;exact vI _ (lf yg 7) (by show wrap64 ((#[10,9,13,92,34,91,93,45,94,32,35,59,0,127,128,255]:Array UInt8)[7].toNat:Int)=_;simp[wrap64,lf,yg]) c
 ·go_wp2_with fail;refine(uJ _ _).mono ?_;rintro e d ⟨rfl,rfl⟩;go_wp2;go_ret;exact vI _ (lf yg 8) (by show wrap64 ((#[10,9,13,92,34,91,93,45,94,32,35,59,0,127,128,255]:Array UInt8)[8].toNat:Int)=_;simp[wrap64,lf,yg]) c
 ·go_wp2_with fail;refine(uJ _ _).mono ?_;rintro e d ⟨rfl,rfl⟩;go_wp2;go_ret;exact vI _ (lf yg 9) (by show wrap64 ((#[10,9,13,92,34,91,93,45,94,32,35,59,0,127,128,255]:Array UInt8)[9].toNat:Int)=_;simp[wrap64,lf,yg]) c
 ·go_wp2_with fail;refine(uJ _ _).mono ?_;rintro e d ⟨rfl,rfl⟩;go_wp2;go_ret;exact vI _ (lf yg 10) (by show wrap64 ((#[10,9,13,92,34,91,93,45,94,32,35,59,0,127,128,255]:Array UInt8)[10].toNat:Int)=_;simp[wrap64,lf,yg]) c
 ·go_wp2_with fail;refine(uJ _ _).mono ?_;rintro e d ⟨rfl,rfl⟩;go_wp2;go_ret;exact vI _ (lf yg 11) (by show wrap64 ((#[10,9,13,92,34,91,93,45,94,32,35,59,0,127,128,255]:Array UInt8)[11].toNat:Int)=_;simp[wrap64,lf,yg]) c
 ·go_wp2_with fail;refine(uJ _ _).mono ?_;rintro e d ⟨rfl,rfl⟩;go_wp2;go_ret;exact vI _ (lf yg 12) (by show wrap64 ((#[10,9,13,92,34,91,93,45,94,32,35,59,0,127,128,255]:Array UInt8)[12].toNat:Int)=_;simp[wrap64,lf,yg]) c
 ·go_wp2_with fail;refine(uJ _ _).mono ?_;rintro e d ⟨rfl,rfl⟩;go_wp2;go_ret;exact vI _ (lf yg 13) (by show wrap64 ((#[10,9,13,92,34,91,93,45,94,32,35,59,0,127,128,255]:Array UInt8)[13].toNat:Int)=_;simp[wrap64,lf,yg]) c
 ·go_wp2_with fail;refine(uJ _ _).mono ?_;rintro e d ⟨rfl,rfl⟩;go_wp2;go_ret;exact vI _ (lf yg 14) (by show wrap64 ((#[10,9,13,92,34,91,93,45,94,32,35,59,0,127,128,255]:Array UInt8)[14].toNat:Int)=_;simp[wrap64,lf,yg]) c
 go_wp2_with fail;refine(uJ _ _).mono ?_;rintro e d ⟨rfl,rfl⟩;go_wp2;go_ret;exact vI _ (lf yg 15) (by show wrap64 ((#[10,9,13,92,34,91,93,45,94,32,35,59,0,127,128,255]:Array UInt8)[15].toNat:Int)=_;simp[wrap64,lf,yg]) c
structure zNL where
 nm:List Int
 has:Bool
 bd:List OpD
instance:Inhabited zNL:=⟨⟨[],false,[]⟩⟩
structure zNC where
 d:zNL
 na:Option Addr
 nc:Nat
 ba:Option Addr
 bc:Nat
def yX(x:zNC):List Value:=[.slice x.na x.d.nm.length x.nc,.slice x.ba x.d.bd.length x.bc]
def yw(x:zNC):List Value:=[.slice x.na x.d.nm.length x.nc,.bool x.d.has,.slice x.ba x.d.bd.length x.bc]
theorem qy(x:zNC):(yX x).length=2:=rfl
theorem jl(x:zNC):(yw x).length=3:=rfl
theorem ume(l:List zNC):∀u∈l.flatMap yX,u.oneCell'=true:=λu a=>by
 obtain⟨x,_,h⟩:=List.mem_flatMap.1 a;simp[yX]at h;rcases h with rfl|rfl<;>rfl
theorem umf(l:List zNC):∀u∈l.flatMap yw,u.oneCell'=true:=λu a=>by
 obtain⟨x,_,h⟩:=List.mem_flatMap.1 a;simp[yw]at h;rcases h with rfl|rfl|rfl<;>rfl
def zTg(G:Nat->Nat)(w:World)(t:Nat):Nat->Prop:=λb=>b<w.heap.size/\G b=t
structure zGrP(w0:World)(G:Nat->Nat)(w:World)(rv lv:Value)(rs ls:List zNC):Prop where
 rules:OwnC (zTg G w 0) w rv 2 rs.length (rs.flatMap yX)
 labs:OwnC (zTg G w 1) w lv 3 ls.length (ls.flatMap yw)
 rn:∀x∈rs,Ints (zTg G w 2) .u8 w x.na x.d.nm.length (lf x.d.nm)
 ln:∀x∈ls,Ints (zTg G w 2) .u8 w x.na x.d.nm.length (lf x.d.nm)
 rb:∀i x,rs[i]?=some x->BodP (zTg G w (4+2*i)) w (.slice x.ba x.d.bd.length x.bc) x.d.bd
 lb:∀i x,ls[i]?=some x->BodP (zTg G w (5+2*i)) w (.slice x.ba x.d.bd.length x.bc) x.d.bd
 new:∀b,G b≠3->w0.heap.size<=b
theorem jn{G w w'}(c:∀b,b<w.heap.size->G b≠3->w'.heap[b]?=w.heap[b]?){t}(d:t≠3):Stay (zTg G w t) w w':=λb a=>c b a.1 (by rw[a.2];exact d)
theorem yz{G c w w'}(e:w.heap.size<=w'.heap.size)(d:∀b,b<w.heap.size->c b=G b)t:∀b,zTg G w t b->zTg c w' t b:=λb a=>⟨by have:=a.1;omega,(d b a.1).trans a.2⟩
theorem zGrP.on{w0 w w' G f l j k g}(h:zGrP w0 G w l j k g)(e:w.heap.size<=w'.heap.size)(d:∀b,b<w.heap.size->G b≠3->w'.heap[b]?=w.heap[b]?)(c:∀b,b<w.heap.size->f b=G b)(m:∀b,f b≠3->w0.heap.size<=b):zGrP w0 f w' l j k g :=
 ⟨uC (h.rules.on (jn d (by omega))) (yz e c 0),uC (h.labs.on (jn d (by omega))) (yz e c 1),
  λx a=>((h.rn x a).on (jn d (by omega))).wide (yz e c 2),λx a=>((h.ln x a).on (jn d (by omega))).wide (yz e c 2),
  λi x a=>((h.rb i x a).on (jn d (by omega))).wide (yz e c _),λi x a=>((h.lb i x a).on (jn d (by omega))).wide (yz e c _),m⟩
def vH(G:Nat->Nat)(w:World)(t:Nat):Nat->Nat:=λb=>if b<w.heap.size then G b else t
theorem uR{G w t b}(h:b<w.heap.size):vH G w t b=G b:=if_pos h
theorem yY{G w t b}(h:w.heap.size<=b):vH G w t b=t:=if_neg (by omega)
theorem zGrP.later{w0 w w' G g d f c C}(h:zGrP w0 G w g d f c)(k:Keep C w w')(i:∀b,C b->G b=3)t(l:w0.heap.size<=w.heap.size):zGrP w0 (vH G w t) w' g d f c :=
 h.on k.size (λb a j=>k.block b a (λq=>j (i b q))) (λb a=>uR a) (λb a=>by
  by_cases e:b<w.heap.size
  ·rw[uR e]at a;exact h.new b a
  omega)
theorem ufu{G w w' t b}(h:New w w' b):zTg (vH G w t) w' t b:=⟨h.2,yY h.1⟩
theorem zGrP.addRule{w0 W2 W4 G C v4 o c n}{x:zNC}(h:zGrP w0 G W2 C o c n)(E:w0.heap.size<=W2.heap.size)(z:Ints (zTg G W2 2) .u8 W2 x.na x.d.nm.length (lf x.d.nm))(f:BodP (zTg G W2 (4+2*c.length)) W2 (.slice x.ba x.d.bd.length x.bc) x.d.bd)(own:OwnC (λb=>zTg G W2 0 b\/W2.heap.size<=b) W4 v4 2 (c.length+1) (c.flatMap yX++yX x))(g4:Grew (zTg G W2 0) W2 W4):zGrP w0 (vH G W2 0) W4 v4 o (c++[x]) n:=by
 have D:=g4.size;have st:∀{t:Nat},t≠0->Stay (zTg G W2 t) W2 W4:=λ{t} B b f=>g4.block b f.1 (λq=>B (f.2.symm.trans q.2))
 have j:∀t b,zTg G W2 t b->zTg (vH G W2 0) W4 t b:=yz D (λb f=>uR f);refine⟨?_,uC (h.labs.on (st (by omega))) (j 1),λy a=>?_,λy a=>((h.ln y a).on (st (by omega))).wide (j 2),λi y a=>?_,λi y a=>((h.lb i y a).on (st (by omega))).wide (j _),λb f=>?_⟩
 ·have p:(c++[x]).length=c.length+1:=by simp
  have r:(c++[x]).flatMap yX=c.flatMap yX++yX x:=by simp
  rw[p,r];rcases own with⟨_,q,_⟩|⟨g,cap,e,A,k,s,l,u⟩
  ·omega
  refine .inr ⟨g,cap,e,?_,k,s,l,u⟩;have v:g<W4.heap.size:=by
   have m:0<(c.flatMap yX++yX x).length:=(by rw[k];omega);have h:=l 0 m;rw[List.getElem?_eq_getElem m]at h;exact ud h
  rcases A with q|q
  ·exact j 0 g q
  exact⟨v,yY q⟩
 ·rcases List.mem_append.1 a with q|q
  ·exact((h.rn y q).on (st (by omega))).wide (j 2)
  obtain rfl:=List.mem_singleton.1 q;exact(z.on (st (by omega))).wide (j 2)
 ·by_cases e:i<c.length
  ·rw[List.getElem?_append_left e]at a;exact((h.rb i y a).on (st (by omega))).wide (j _)
  rw[List.getElem?_append_right (by omega)]at a;have w:i=c.length:=by
   have:=(List.getElem?_eq_some_iff.1 a).1;simp at this;omega
  subst w;simp at a;subst a;exact(f.on (st (by omega))).wide (j _)
 by_cases e:b<W2.heap.size
 ·rw[uR e]at f;exact h.new b f
 omega
theorem zGrP.addLabel{w0 W2 W4 G o v4 C n c}{x:zNC}(h:zGrP w0 G W2 o C n c)(E:w0.heap.size<=W2.heap.size)(z:Ints (zTg G W2 2) .u8 W2 x.na x.d.nm.length (lf x.d.nm))(f:BodP (zTg G W2 (5+2*c.length)) W2 (.slice x.ba x.d.bd.length x.bc) x.d.bd)(own:OwnC (λb=>zTg G W2 1 b\/W2.heap.size<=b) W4 v4 3 (c.length+1) (c.flatMap yw++yw x))(g4:Grew (zTg G W2 1) W2 W4):zGrP w0 (vH G W2 1) W4 o v4 n (c++[x]):=by
 have D:=g4.size;have st:∀{t:Nat},t≠1->Stay (zTg G W2 t) W2 W4:=λ{t} B b f=>g4.block b f.1 (λq=>B (f.2.symm.trans q.2))
 have j:∀t b,zTg G W2 t b->zTg (vH G W2 1) W4 t b:=yz D (λb f=>uR f);refine⟨uC (h.rules.on (st (by omega))) (j 0),?_,λy a=>((h.rn y a).on (st (by omega))).wide (j 2),λy a=>?_,λi y a=>((h.rb i y a).on (st (by omega))).wide (j _),λi y a=>?_,λb f=>?_⟩
 ·have p:(c++[x]).length=c.length+1:=by simp
  have r:(c++[x]).flatMap yw=c.flatMap yw++yw x:=by simp
  rw[p,r];rcases own with⟨_,q,_⟩|⟨g,cap,e,A,k,s,l,u⟩
  ·omega
  refine .inr ⟨g,cap,e,?_,k,s,l,u⟩;have v:g<W4.heap.size:=by
   have m:0<(c.flatMap yw++yw x).length:=(by rw[k];omega);have h:=l 0 m;rw[List.getElem?_eq_getElem m]at h;exact ud h
  rcases A with q|q
  ·exact j 1 g q
  exact⟨v,yY q⟩
 ·rcases List.mem_append.1 a with q|q
  ·exact((h.ln y q).on (st (by omega))).wide (j 2)
  obtain rfl:=List.mem_singleton.1 q;exact(z.on (st (by omega))).wide (j 2)
 ·by_cases e:i<c.length
  ·rw[List.getElem?_append_left e]at a;exact((h.lb i y a).on (st (by omega))).wide (j _)
  rw[List.getElem?_append_right (by omega)]at a;have w:i=c.length:=by
   have:=(List.getElem?_eq_some_iff.1 a).1;simp at this;omega
  subst w;simp at a;subst a;exact(f.on (st (by omega))).wide (j _)
 by_cases e:b<W2.heap.size
 ·rw[uR e]at f;exact h.new b f
 omega
theorem zgetElem?_set'{α:Type}{l:List α}{i j:Nat}{x y z:α}(b:l[i]?=some x)(h:(l.set i y)[j]?=some z):(j=i/\z=y)\/(j≠i/\l[j]?=some z):=by
 have a:=(List.getElem?_eq_some_iff.1 b).1;by_cases e:j=i
 ·subst e;rw[List.getElem?_set_self a]at h;exact .inl ⟨rfl,(Option.some.inj h).symm⟩
 rw[List.getElem?_set_ne (by omega)]at h;exact .inr ⟨e,h⟩
theorem ueD{α:Type}{l:List α}{i:Nat}{y z:α}(h:z∈l.set i y):z=y\/z∈l:=(List.mem_or_eq_of_mem_set h).symm
theorem zGrP.putR{w0 w G s l r g n c i j}{x y:zNC}{u}(h:zGrP w0 G w (.slice (some ⟨g,0,none⟩) n c) s l r)(o:l[i]?=some x)(A:j<2)(E:yX y=(yX x).set j u)(v:zTg G w 0 g)(B:Ints (zTg G w 2) .u8 w y.na y.d.nm.length (lf y.d.nm))(m:BodP (zTg G w (4+2*i)) w (.slice y.ba y.d.bd.length y.bc) y.d.bd) :
  zGrP w0 G (w.setCell ⟨g,i*2+j,none⟩ u) (.slice (some ⟨g,0,none⟩) n c) s (l.set i y) r:=by
 have H:=(List.getElem?_eq_some_iff.1 o).1;have st:∀{t:Nat},t≠0->Stay (zTg G w t) w (w.setCell ⟨g,i*2+j,none⟩ u):=λ{t} D b m=>Below.heap_setCell _ _ _ _ (λe=>D (by rw[<-m.2,e];exact v.2))
 have a:∀t b,zTg G w t b->zTg G (w.setCell ⟨g,i*2+j,none⟩ u) t b:=yz (by rw[uj];exact Nat.le_refl _) (λb m=>rfl);have C:n=l.length:=by
  rcases h.rules with⟨e,_⟩|⟨F,cap,e,_⟩
  ·cases e
  injection e
 refine⟨?_,uC (h.labs.on (st (by omega))) (a 1),λz f=>?_,λz f=>((h.ln z f).on (st (by omega))).wide (a 2),λk z f=>?_,λk z f=>((h.lb k z f).on (st (by omega))).wide (a _),h.new⟩
 ·have p:=h.rules;rw[C]at p ⊢;have:=uC (OwnC.put p (j:=i*2+j) (by rw[yi yX 2 qy];omega) u) (a 0);rw[ubo yX 2 qy l i j x y u o A E]at this;rw[List.length_set];exact this
 ·rcases ueD f with rfl|q
  ·exact(B.on (st (by omega))).wide (a 2)
  exact((h.rn z q).on (st (by omega))).wide (a 2)
 rcases zgetElem?_set' o f with⟨rfl,rfl⟩|⟨_,q⟩
 ·exact(m.on (st (by omega))).wide (a _)
 exact((h.rb k z q).on (st (by omega))).wide (a _)
theorem zGrP.putL{w0 w G s r l g n c i j}{x y:zNC}{u}(h:zGrP w0 G w s (.slice (some ⟨g,0,none⟩) n c) r l)(o:l[i]?=some x)(A:j<3)(E:yw y=(yw x).set j u)(v:zTg G w 1 g)(B:Ints (zTg G w 2) .u8 w y.na y.d.nm.length (lf y.d.nm))(m:BodP (zTg G w (5+2*i)) w (.slice y.ba y.d.bd.length y.bc) y.d.bd) :
  zGrP w0 G (w.setCell ⟨g,i*3+j,none⟩ u) s (.slice (some ⟨g,0,none⟩) n c) r (l.set i y):=by
 have H:=(List.getElem?_eq_some_iff.1 o).1;have st:∀{t:Nat},t≠1->Stay (zTg G w t) w (w.setCell ⟨g,i*3+j,none⟩ u):=λ{t} D b m=>Below.heap_setCell _ _ _ _ (λe=>D (by rw[<-m.2,e];exact v.2))
 have a:∀t b,zTg G w t b->zTg G (w.setCell ⟨g,i*3+j,none⟩ u) t b:=yz (by rw[uj];exact Nat.le_refl _) (λb m=>rfl);have C:n=l.length:=by
  rcases h.labs with⟨e,_⟩|⟨F,cap,e,_⟩
  ·cases e
  injection e
 refine⟨uC (h.rules.on (st (by omega))) (a 0),?_,λz f=>((h.rn z f).on (st (by omega))).wide (a 2),λz f=>?_,λk z f=>((h.rb k z f).on (st (by omega))).wide (a _),λk z f=>?_,h.new⟩
 ·have p:=h.labs;rw[C]at p ⊢;have:=uC (OwnC.put p (j:=i*3+j) (by rw[yi yw 3 jl];omega) u) (a 1);rw[ubo yw 3 jl l i j x y u o A E]at this;rw[List.length_set];exact this
 ·rcases ueD f with rfl|q
  ·exact(B.on (st (by omega))).wide (a 2)
  exact((h.ln z q).on (st (by omega))).wide (a 2)
 rcases zgetElem?_set' o f with⟨rfl,rfl⟩|⟨_,q⟩
 ·exact(m.on (st (by omega))).wide (a _)
 exact((h.lb k z q).on (st (by omega))).wide (a _)
theorem zGrP.ruleAt{w0 w G l r a q}(h:zGrP w0 G w l r a q){i}{x:zNC}(f:a[i]?=some x):∃g c,l=.slice (some ⟨g,0,none⟩) a.length c/\zTg G w 0 g/\a.length<=c/\w.cell? ⟨g,i*2,none⟩=some (.slice x.na x.d.nm.length x.nc)/\w.cell? ⟨g,i*2+1,none⟩=some (.slice x.ba x.d.bd.length x.bc)/\w.frozen? ⟨g,i*2,none⟩=false/\w.frozen? ⟨g,i*2+1,none⟩=false:=by
 have s:=(List.getElem?_eq_some_iff.1 f).1;obtain⟨g,c,e,p,o,b⟩:=h.rules.at_ (by omega);rw[yi yX 2 qy]at b;have j:=b (i*2) (by omega);have k:=b (i*2+1) (by omega);have m:=vw yX 2 qy a i 0 x f (by omega);have n:=vw yX 2 qy a i 1 x f (by omega);exact⟨g,c,e,p,o,j.1.trans m,k.1.trans n,j.2,k.2⟩
theorem zGrP.labelAt{w0 w G t l s a}(h:zGrP w0 G w t l s a){i}{x:zNC}(f:a[i]?=some x):∃g c,l=.slice (some ⟨g,0,none⟩) a.length c/\zTg G w 1 g/\a.length<=c/\w.cell? ⟨g,i*3,none⟩=some (.slice x.na x.d.nm.length x.nc)/\w.cell? ⟨g,i*3+1,none⟩=some (.bool x.d.has)/\w.cell? ⟨g,i*3+2,none⟩=some (.slice x.ba x.d.bd.length x.bc)/\w.frozen? ⟨g,i*3+1,none⟩=false/\w.frozen? ⟨g,i*3+2,none⟩=false:=by
 have u:=(List.getElem?_eq_some_iff.1 f).1;obtain⟨g,c,e,r,q,b⟩:=h.labs.at_ (by omega);rw[yi yw 3 jl]at b;have p:=b (i*3) (by omega);have j:=b (i*3+1) (by omega);have k:=b (i*3+2) (by omega);have m:=vw yw 3 jl a i 0 x f (by omega);have n:=vw yw 3 jl a i 1 x f (by omega);have o:=vw yw 3 jl a i 2 x f (by omega);exact⟨g,c,e,r,q,p.1.trans m,j.1.trans n,k.1.trans o,j.2,k.2⟩
def ueE(x:zNL):ug:=⟨x.nm.length,lf x.nm,x.has,x.bd.length,df x.bd⟩
def zgram(b a:List zNL):Gr:=⟨b.length,λi=>ueE (b.getD i default),a.length,λi=>ueE (a.getD i default)⟩
theorem ueF{l:List zNC}{i:Nat}{x:zNC}(h:l[i]?=some x):(l.map (·.d)).getD i default=x.d:=by rw[List.getD_eq_getElem?_getD,List.getElem?_map,h];rfl
theorem zGrP.zgram{w0 w G E C f a}(h:zGrP w0 G w E C f a):∃o B la lc,E=.slice o f.length B/\C=.slice la a.length lc/\GramX (New w0 w) w o la (zgram (f.map (·.d)) (a.map (·.d))):=by
 have m:∀{t:Nat},t≠3->∀b,zTg G w t b->New w0 w b:=λ{t} L b j=>⟨h.new b (by rw[j.2];exact L),j.1⟩
 obtain⟨o,B,s⟩:=uk h.rules;obtain⟨la,lc,q⟩:=uk h.labs;refine⟨o,B,la,lc,s,q,⟨?_,?_⟩⟩
 ·by_cases v:f.length=0
  ·exact .inl (by show(f.map (·.d)).length=0;rw[List.length_map];exact v)
  obtain⟨g,c,e,z,I,J⟩:=h.rules.at_ (by omega);rw[s]at e;obtain rfl:o=some ⟨g,0,none⟩:=by injection e
  refine .inr ⟨g,0,rfl,m (by omega) g z,λi y=>?_⟩;have hi':i<f.length:=by
   have:i<(f.map (·.d)).length:=y;rwa [List.length_map]at this
  have l:f[i]?=some f[i]:=List.getElem?_eq_getElem hi';have r:(Go.Proofs.YtimfigongapdnaaGreat.zgram (f.map (·.d)) (a.map (·.d))).rule i=ueE f[i].d:=by show ueE _=_;rw[ueF l]
  rw[r];obtain⟨u,F,n,_,_,A,p,_,_⟩:=h.ruleAt l;rw[s]at n;obtain rfl:u=g:=by injection n with e1;injection e1 with e1;injection e1 with e1;exact e1.symm
  have j:=h.rb i _ l;obtain⟨_,H,k,x⟩:=j.shape;injection k with _ _ k;rw[Nat.zero_add];exact⟨⟨⟨_,_,A,(h.rn _ (List.getElem_mem hi')).wide (m (by omega))⟩,⟨_,_,p,j.ops.wide (m (by omega))⟩⟩,⟨_,_,p,by rw[k];exact x⟩⟩
 by_cases v:a.length=0
 ·exact .inl (by show(a.map (·.d)).length=0;rw[List.length_map];exact v)
 obtain⟨g,c,e,z,I,J⟩:=h.labs.at_ (by omega);rw[q]at e;obtain rfl:la=some ⟨g,0,none⟩:=by injection e
 refine .inr ⟨g,0,rfl,m (by omega) g z,λi y=>?_⟩;have hi':i<a.length:=by
  have:i<(a.map (·.d)).length:=y;rwa [List.length_map]at this
 have l:a[i]?=some a[i]:=List.getElem?_eq_getElem hi';have r:(Go.Proofs.YtimfigongapdnaaGreat.zgram (f.map (·.d)) (a.map (·.d))).lab i=ueE a[i].d:=by show ueE _=_;rw[ueF l]
 rw[r];obtain⟨u,F,n,_,_,A,p,D,_,_⟩:=h.labelAt l;rw[q]at n;obtain rfl:u=g:=by injection n with e1;injection e1 with e1;injection e1 with e1;exact e1.symm
 have j:=h.lb i _ l;obtain⟨_,H,k,x⟩:=j.shape;injection k with _ _ k;rw[Nat.zero_add];exact⟨⟨⟨_,_,A,(h.ln _ (List.getElem_mem hi')).wide (m (by omega))⟩,p,⟨_,_,D,j.ops.wide (m (by omega))⟩⟩,⟨_,_,D,by rw[k];exact x⟩⟩
theorem zGrP.nil w0:zGrP w0 (λ_=>3) w0 (.slice none 0 0) (.slice none 0 0) [] [] :=
 ⟨.inl ⟨rfl,rfl,rfl⟩,.inl ⟨rfl,rfl,rfl⟩,λx a=>(by cases a),λx a=>(by cases a),λi x a=>(by simp at a),λi x a=>(by simp at a),λb c=>absurd rfl c⟩
def bytesOf(s:ByteArray):List Int:=s.data.toList.map λb=>(b.toNat:Int)
theorem ucn s:(bytesOf s).length=s.size:=by unfold bytesOf;rw[List.length_map,Array.length_toList];rfl
def usK(z:List Int)(w w':World)(v:Value):Prop:=∃a b,v=.slice a z.length b/\Ints (New w w') .u8 w' a z.length (lf z)/\Keep (λ_=>False) w w'
theorem uii w s:(convert 9 22 (.string s)).run Tryz.prog w=.ok (.slice (some ⟨w.heap.size,0,none⟩) s.size (grownCap w s.size 0 5)) (Lib.bytesWorld w 5 s) :=
 Lib.run_convert_string_bytes (P:=Tryz.prog) w 9 22 5 s Tryz.underlying9 Tryz.underlying22 Tryz.underlying5
theorem uo4 w s:usK (bytesOf s) w (Lib.bytesWorld w 5 s) (.slice (some ⟨w.heap.size,0,none⟩) s.size (grownCap w s.size 0 5)):=by
 have c:=Lib.bytesWorld_size w 5 s;refine⟨_,_,by rw[ucn],.inr ⟨w.heap.size,0,rfl,⟨Nat.le_refl _,by omega⟩,λj a=>?_⟩,⟨rfl,rfl,rfl,by omega,λk b _=>Lib.bytesWorld_at_old w 5 s k b⟩⟩;rw[ucn]at a;rw[Nat.zero_add,Lib.bytesWorld_cell w 5 s j a];have hj':j<s.data.toList.length:=by rw[Array.length_toList];exact a
 simp only[lf,bytesOf,List.getD_eq_getElem?_getD,List.getElem?_map];rw[List.getElem?_eq_getElem hj'];rfl
theorem ujH{ops:Array Oper}{rest o a d w}(k:o.guard=none)x(l:o.op=.convert 9 22 x){s}(m:a.eval x=.string s)(h:∀b c w',Ints (New w w') .u8 w' b (bytesOf s).length (lf (bytesOf s))->Keep (λ_=>False) w w'->wpList Tryz.prog ops d rest (a.put o.dst (.slice b (bytesOf s).length c)) w'):wpList Tryz.prog ops d (o::rest) a w:=by
 refine wpList_plain k λK j=>?_
 obtain⟨b,c,e,g,i⟩:=uo4 w s;have f:=uii w s;rw[e]at f;unfold Oper.wp execOp;simp only[l,Sem.run_bind,Sem.run_pure,Result.andThen_ok,m,f];exact j _ _ (h b c _ g i)
def kI(u:Nat):List UInt8:=if h:u<10 then [UInt8.ofNat (48+u)] else kI (u / 10)++[UInt8.ofNat (48+u%10)]
termination_by u
decreasing_by omega
theorem udf{u}(h:u<10):kI u = [UInt8.ofNat (48+u)]:=by rw[kI,dif_pos h]
theorem ueP(u:Nat)(h:u<10)w:Calls Tryz.prog 86 #[.int .i64 u] w λe w'=>e=.returned (.string ⟨(kI u).toArray⟩)/\w'=w:=by
 rw[udf h];have a:(u:Int)<10:=by omega
 go_enter Tryz.func86,Tryz.ntmps86;obtain rfl|rfl|rfl|rfl|rfl|rfl|rfl|rfl|rfl|rfl:u=0\/u=1\/u=2\/u=3\/u=4\/u=5\/u=6\/u=7\/u=8\/u=9:=by omega
 all_goals
  go_wp2;go_ret;exact⟨rfl,rfl⟩
theorem ukP(a b:List UInt8):(⟨a.toArray⟩:ByteArray)++(⟨b.toArray⟩:ByteArray)=⟨(a++b).toArray⟩:=by
 apply ByteArray.ext;simp
theorem ufD u:(kI u).length<=u+1:=by
 induction u using Nat.strongRecOn with
 |_ u a =>
  by_cases h:u<10
  ·rw[udf h];simp
  have:=a (u / 10) (by omega);rw[kI,dif_neg h];simp;omega
theorem uo5(u:Nat)(m:u<=8388608)w:Calls Tryz.prog 86 #[.int .i64 u] w λe w'=>e=.returned (.string ⟨(kI u).toArray⟩)/\w'=w:=by
 induction u using Nat.strongRecOn generalizing w with
 |_ u c =>
  by_cases h:u<10
  ·exact ueP u h w
  have j:Int.tdiv (u:Int) 10=((u / 10:Nat):Int):=by rw[Int.tdiv_eq_ediv_of_nonneg (by omega)];omega
  have k:Int.tmod (u:Int) 10=((u%10:Nat):Int):=by rw[Int.tmod_eq_emod_of_nonneg (by omega)];omega
  have i:¬((u:Int)<10):=by omega
  have d:=c (u / 10) (by omega) (by omega);have f:=ueP (u%10) (by omega);have b:kI u=kI (u / 10)++kI (u%10):=by
   rw[udf (show u%10<10 by omega)]
   conv=>lhs;rw[kI,dif_neg h]
  have a:=ukP (kI (u / 10)) (kI (u%10));rw[b,<-a];have g:=ufD (u / 10);have l2:=ufD (u%10);have l:¬(9223372036854775807<(⟨(kI (u / 10)).toArray⟩:ByteArray).size+(⟨(kI (u%10)).toArray⟩:ByteArray).size):=by
   show ¬(9223372036854775807<(kI (u / 10)).length+(kI (u%10)).length);omega
  clear a b c g l2;generalize n:(⟨(kI (u / 10)).toArray⟩:ByteArray)=x at *;generalize o:(⟨(kI (u%10)).toArray⟩:ByteArray)=y at *;go_enter Tryz.func86,Tryz.ntmps86;go_wp2_with fail;refine(d _).mono ?_;rintro e w1 ⟨rfl,rfl⟩;go_wp2_with fail;refine(f _).mono ?_;rintro e p ⟨rfl,rfl⟩;go_wp2;go_ret;exact⟨rfl,rfl⟩
theorem udg(i:Nat)(j:i<=1048576)w:Calls Tryz.prog 89 #[.int .i64 (i:Int)] w λe w'=>∃v,e=.returned v/\usK [((115+i%8:Nat):Int)] w w' v:=by
 obtain⟨q,g⟩:=nm (i%8);have hq':(i:Int)%8=(q:Int):=by omega
 have k:q<8:=by omega
 rw[g];go_enter Tryz.func89,Tryz.ntmps89;rcases(show q=0\/q=1\/q=2\/q=3\/q=4\/q=5\/q=6\/q=7 by omega) with rfl|rfl|rfl|rfl|rfl|rfl|rfl|rfl;all_goals
  go_wp2_with (refine ujH rfl _ rfl rfl ?_;intro c h w' a b;have d:Hid (Ints (New w w') .u8 w' c 1 (lf _)):=a;have f:Hid (Keep (λ_=>False) w w'):=b;clear a b);go_ret;exact⟨_,rfl,c,h,rfl,d,f⟩
end Go.Proofs.YtimfigongapdnaaGreat
