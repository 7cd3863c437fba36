import Derived.Test.YtcbnnfnlilbjeaaGreatT43
import Derived.Lib.SmallJoins
import Derived.Lib.ConvBytes
import Derived.Lib.BytesEntry
set_option linter.unusedVariables false
set_option linter.unusedSimpArgs false
namespace Go.Proofs.YtcbnnfnlilbjeaaGreat
section
open Go.RowKit
open M (OpD NodeD Gr)
structure Rd(t:Tp)(R:Nat)(w:World)(a:Option Addr)(cap i:Nat):Prop where
 c0:w.cell? ⟨R,0,none⟩=some (.slice a t.m cap)
 c1:w.cell? ⟨R,1,none⟩=some (.int .i64 (i:Int))
 f1:w.frozen? ⟨R,1,none⟩=false
 le:i≤t.m
 txt:Ints (fun b=>b<R) .u8 w a t.m (fun k=>(t.T k:Int))
def RdA(t:Tp)(R:Nat)(w:World)(i:Nat):Prop:=∃a cap,Rd t R w a cap i
theorem RdA.lt{t:Tp}{R:Nat}{w:World}{i:Nat}(h:RdA t R w i):R<w.heap.size:=by
 obtain⟨a,c,h⟩:=h;exact lt_of_cell h.c0
theorem RdA.le{t:Tp}{R:Nat}{w:World}{i:Nat}(h:RdA t R w i):i≤t.m:=by
 obtain⟨a,c,h⟩:=h;exact h.le
theorem RdA.keep{t:Tp}{R:Nat}{w w':World}{i:Nat}{C:Nat→Prop}(h:RdA t R w i)(k:Keep C w w')(hC:∀b,C b→R<b):RdA t R w' i:=by
 have hlt:=h.lt;obtain⟨a,c,h⟩:=h;have hb:∀b,b≤R→w'.heap[b]? = w.heap[b]?:=fun b hb=>k.block b (by omega) (fun q=>by have:=hC b q;omega)
 exact⟨a,c,(World.cell?_of_block (a:=⟨R,0,none⟩) (hb R (Nat.le_refl _))).trans h.c0,(World.cell?_of_block (a:=⟨R,1,none⟩) (hb R (Nat.le_refl _))).trans h.c1,(World.frozen?_of_block (a:=⟨R,1,none⟩) (hb R (Nat.le_refl _))).trans h.f1,h.le,h.txt.on (fun b q=>hb b (by omega))⟩
theorem Rd.set{t:Tp}{R:Nat}{w:World}{a:Option Addr}{cap i j:Nat}(h:Rd t R w a cap i)(hj:j≤t.m):Rd t R (w.setCell ⟨R,1,none⟩ (.int .i64 (j:Int))) a cap j:=by
 have other:(⟨R,1,none⟩:Addr)≠⟨R,0,none⟩:=by simp
 refine⟨(World.cell?_setCell_other _ _ _ _ other).trans h.c0,World.cell?_setCell_same' _ _ _ (by rw[h.c1];rfl),by rw[World.frozen?_setCell];exact h.f1,hj,h.txt.on (fun b hb=>Below.heap_setCell _ _ _ _ (by show b≠R;omega))⟩
def RdOn(t:Tp)(R i:Nat)(w w':World):Prop:=RdA t R w' i∧Keep (fun k=>k=R) w w'
set_option maxHeartbeats 1000000 in
theorem next_any(t:Tp)(R i:Nat)(w:World)(h:RdA t R w i) :
  Calls Tryz.prog 29 #[.pointer (some ⟨R,0,none⟩)] w fun e w'=>e=.returned (.int .i64 (t.v i:Int))∧RdOn t R (t.n i) w w':=by
 obtain⟨a,cap,h⟩:=h;have c0:=h.c0;have c1:=h.c1;have f1:=h.f1;have hle:=h.le;have hsm:=t.le;have H:Hid (Rd t R w a cap i):=h;clear h;by_cases hlt:i<t.m
 ·have ev:t.v i=t.T i:=if_pos hlt
  have en:t.n i=i+1:=if_pos hlt;rw[ev,en];obtain⟨b,off,rfl,hb,ht⟩:∃b off,a=some ⟨b,off,none⟩∧b<R∧∀k,k<t.m→w.cell? ⟨b,off+k,none⟩=some (.int .u8 (t.T k:Int)):=by
   rcases H.out.txt with e | e
   ·omega
   ·exact e
  have ct:=ht i hlt;have x1:=t.byte i;have d1:decide ((t.m:Int)≤i)=false:=by simp;omega
  have hlt':(i:Int)<t.m:=by omega
  have HS:Hid (∀q,RdOn t R (i+1) w ((w.drewN q).setCell ⟨R,1,none⟩ (.int .i64 ((i:Int)+1)))):=fun q=>by
   have hk:Keep (fun _=>False) w (w.drewN q):=Keep.of_below (below_drewN (Below.refl w.heap.size w) q) (fun k hk _=>hk)
   obtain⟨a',cap',h'⟩:=RdA.keep ⟨_,_,H.out⟩ hk (fun b q=>q.elim)
   have:=h'.set (j:=i+1) (by omega)
   rw[Int.natCast_add]at this;exact⟨⟨_,_,this⟩,(hk.mono (fun _ q=>q.elim)).trans (Keep.setCell _ _ _ rfl)⟩
  clear ht;generalize t.T i=tv at *;go_enter Tryz.func29,Tryz.ntmps29;go_wp2;go_quiet (fail);go_wp2;go_quiet (fail);go_wp2;go_ret;exact⟨rfl,HS.out _⟩
 ·have ev:t.v i=0:=if_neg hlt
  have en:t.n i=i:=if_neg hlt;rw[ev,en];have d1:decide ((t.m:Int)≤i)=true:=by simp;omega
  have hlt':(t.m:Int)≤i:=by omega
  go_enter Tryz.func29,Tryz.ntmps29;go_wp2;go_quiet (fail);go_wp2;go_ret;have hk:∀q,Keep (fun _=>False) w (w.drewN q):=fun q=>Keep.of_below (below_drewN (Below.refl w.heap.size w) q) (fun k hk _=>hk)
  exact⟨rfl,RdA.keep ⟨_,_,H.out⟩ (hk _) (fun b q=>q.elim),(hk _).mono (fun _ q=>q.elim)⟩
set_option maxHeartbeats 1000000 in
theorem left_any(t:Tp)(R i:Nat)(w:World)(h:RdA t R w i) :
  Calls Tryz.prog 93 #[.pointer (some ⟨R,0,none⟩)] w fun e w'=>e=.returned (.int .i64 ((t.m:Int)-i))∧RdOn t R i w w':=by
 obtain⟨a,cap,h⟩:=h;have c0:=h.c0;have c1:=h.c1;have hle:=h.le;have hsm:=t.le;have H:Hid (Rd t R w a cap i):=h;clear h;go_enter Tryz.func93,Tryz.ntmps93;go_wp2;go_quiet (fail);go_wp2;go_ret;have hk:∀q,Keep (fun _=>False) w (w.drewN q):=fun q=>Keep.of_below (below_drewN (Below.refl w.heap.size w) q) (fun k hk _=>hk)
 exact⟨rfl,RdA.keep ⟨_,_,H.out⟩ (hk _) (fun b q=>q.elim),(hk _).mono (fun _ q=>q.elim)⟩
end
section
open Go.RowKit
open M (OpD NodeD Gr)
theorem RdOn.trans{t:Tp}{R i j:Nat}{w w' w'':World}(h:RdOn t R i w w')(k:RdOn t R j w' w''):RdOn t R j w w'':=⟨k.1,h.2.trans k.2⟩
theorem RdOn.refl{t:Tp}{R i:Nat}{w:World}(h:RdA t R w i):RdOn t R i w w:=⟨h,Keep.refl _ _⟩
theorem RdOn.quiet{t:Tp}{R i:Nat}{w w' w'':World}(h:RdOn t R i w w')(k:Keep (fun _=>False) w' w''):RdOn t R i w w'' :=
 ⟨h.1.keep k (fun _ q=>q.elim),h.2.trans (k.mono (fun _ q=>q.elim))⟩
theorem RdOn.le{t:Tp}{R i:Nat}{w w':World}(h:RdOn t R i w w'):w.heap.size≤w'.heap.size:=h.2.size
theorem ints_in{Q:Nat→Prop}{k:IntKind}{w:World}{a:Option Addr}{n:Nat}{S:Nat→Int}(h:Ints Q k w a n S):Ints (fun b=>Q b∧b<w.heap.size) k w a n S:=by
 by_cases h0:n=0
 ·exact .inl h0
 ·rcases h with h | ⟨b,off,e,hq,h⟩
  ·exact absurd h h0
  ·exact .inr ⟨b,off,e,⟨hq,lt_of_cell (h 0 (by omega))⟩,h⟩
theorem Ints.kept{Q C:Nat→Prop}{k:IntKind}{w w':World}{a:Option Addr}{n:Nat}{S:Nat→Int}(h:Ints Q k w a n S)(t:Keep C w w')(hC:∀b,Q b→¬C b):Ints Q k w' a n S :=
 ((ints_in h).on (fun b hb=>t.block b hb.2 (hC b hb.1))).wide (fun b hb=>hb.1)
theorem OpC.kept{Q C:Nat→Prop}{w w':World}{b o:Nat}{d:OpD}(h:OpC Q w b o d)(hq:Q b)(t:Keep C w w')(hC:∀b,Q b→¬C b):OpC Q w' b o d:=by
 obtain⟨h1,⟨a,c,h2,h3⟩,h4⟩:=h;have hb:=t.block b (lt_of_cell h1) (hC b hq);exact⟨(World.cell?_of_block (a:=⟨b,o,none⟩) hb).trans h1,⟨a,c,(World.cell?_of_block (a:=⟨b,o+1,none⟩) hb).trans h2,h3.kept t hC⟩,(World.cell?_of_block (a:=⟨b,o+2,none⟩) hb).trans h4⟩
theorem OpsA.kept{Q C:Nat→Prop}{w w':World}{a:Option Addr}{n:Nat}{B:Nat→OpD}(h:OpsA Q w a n B)(t:Keep C w w')(hC:∀b,Q b→¬C b):OpsA Q w' a n B:=by
 rcases h with h | ⟨b,off,e,hq,h⟩
 ·exact .inl h
 ·exact .inr ⟨b,off,e,hq,fun i hi=>(h i hi).kept hq t hC⟩
def DrS(t:Tp)(R:Nat)(s:List Int×Nat)(w:World)(e:Ending)(w':World):Prop :=
 ∃a c,e=.returned (.slice a s.1.length c)∧Ints (fun b=>b≠R) .i64 w' a s.1.length (lf s.1)∧RdOn t R s.2 w w'
theorem drs_new{t:Tp}{R i:Nat}{w W:World}{bs:List Int}(h:RdOn t R i w W){ty:TypeId}:DrS t R (bs,i) w (.returned (.slice (some ⟨W.heap.size,0,none⟩) bs.length bs.length)) (W.alloc (.cells (bs.map (fun x=>Value.int .i64 x)).toArray ty)):=by
 refine⟨_,_,rfl,.inr ⟨W.heap.size,0,rfl,fun e=>?_,fun k hk=>?_⟩,h.quiet (Keep.alloc _ _ _)⟩
 ·have:=h.1.lt
  omega
 ·have hb:=World.alloc_heap_new W (.cells (bs.map (fun x=>Value.int .i64 x)).toArray ty)
  simp only[World.cell?,hb];have hk':k<bs.length:=hk;simp[lf,hk']
theorem drs_one{t:Tp}{R i:Nat}{w W:World}(x y:Int)(e:x=y)(h:RdOn t R i w W){ty:TypeId}:DrS t R (oneD y,i) w (.returned (.slice (some ⟨W.heap.size,0,none⟩) 2 2)) (W.alloc (.cells #[.int .i64 x,.int .i64 x] ty)):=by
 subst e;exact drs_new (bs:=oneD x) h
set_option maxHeartbeats 4000000 in
theorem l2drawSet_any(t:Tp)(R i:Nat)(w:World)(h:RdA t R w i)(s:List Int×Nat)(hs:drawS t i=s) :
  Calls Tryz.prog 63 #[.pointer (some ⟨R,0,none⟩)] w (DrS t R s w):=by
 have hv:=t.v_le i;go_enter Tryz.func63,Tryz.ntmps63;go_wp2_with fail;refine (next_any t R i w h).mono ?_;rintro e w1 ⟨rfl,hon⟩;have HR:Hid (RdOn t R (t.n i) w w1):=hon;clear hon h;unfold drawS at hs;generalize t.v i=k at *;obtain⟨q,hq⟩:∃q:Nat,k%12=q:=⟨_,rfl⟩;have hq':(k:Int)%12=(q:Int):=by omega
 have hql:q<12:=by omega
 rw[hq]at hs;by_cases c1:q<7
 ·rw[if_pos c1]at hs
  subst hs;have c1':(q:Int)<7:=by omega
  go_wp2_with fail;refine (l2one_any _ _).mono ?_;rintro e w2 ⟨rfl,rfl⟩;go_wp2;go_ret;have e1:97+(k:Int) / 12%4=((97+k / 12%4:Nat):Int):=by omega
  rw[e1];exact drs_new (bs:=oneD ((97+k / 12%4:Nat):Int)) (ty:=3) HR.out
 ·rw[if_neg c1]at hs
  have c1':¬(q:Int)<7:=by omega
  by_cases c2:q=7
  ·rw[if_pos c2]at hs
   subst hs c2;go_wp2;go_ret;exact drs_new (bs:=[97,98]) HR.out
  rw[if_neg c2]at hs;by_cases c3:q=8
  ·rw[if_pos c3]at hs
   subst hs c3;go_wp2;go_ret;exact drs_new (bs:=[0,255]) HR.out
  rw[if_neg c3]at hs;by_cases c4:q=9
  ·rw[if_pos c4]at hs
   subst hs c4;go_wp2;go_ret;exact drs_new (bs:=[48,57,97,99]) HR.out
  rw[if_neg c4]at hs;by_cases c5:q=10
  ·rw[if_pos c5]at hs
   subst c5;by_cases c6:200<k
   ·rw[if_pos c6]at hs
    subst hs;have c6':(200:Int)<(k:Int):=by omega
    go_wp2;go_ret;exact⟨none,0,rfl,.inl rfl,HR.out⟩
   ·rw[if_neg c6]at hs
    subst hs;have c6':¬(200:Int)<(k:Int):=by omega
    go_wp2;go_ret;exact drs_new (bs:=[0,96,99,255]) HR.out
  rw[if_neg c5]at hs;obtain rfl:q=11:=by omega
  go_wp2_with fail;refine (next_any t R (t.n i) w1 HR.out.1).mono ?_;rintro e w2 ⟨rfl,hon⟩;have HR2:Hid (RdOn t R (t.n (t.n i)) w w2):=HR.out.trans hon;have hv2:=t.v_le (t.n i);clear hon;generalize t.v (t.n i)=k2 at *;obtain⟨q2,hq2⟩:∃q2:Nat,k2%16=q2:=⟨_,rfl⟩;have hq2':(k2:Int)%16=(q2:Int):=by omega
  have hql2:q2<16:=by omega
  rw[hq2]at hs;subst hs;clear hq2;rcases (show q2=0∨q2=1∨q2=2∨q2=3∨q2=4∨q2=5∨q2=6∨q2=7∨q2=8∨q2=9∨q2=10∨q2=11∨q2=12∨q2=13∨q2=14∨q2=15 by omega) with rfl | rfl | rfl | rfl | rfl | rfl | rfl | rfl | rfl | rfl | rfl | rfl | rfl | rfl | rfl | rfl
  ·go_wp2_with fail
   refine (l2one_any _ _).mono ?_;rintro e w3 ⟨rfl,rfl⟩;go_wp2;go_ret;exact drs_one _ (lf soup 0) (by show wrap64 ((#[10,9,13,92,34,91,93,45,94,32,35,59,0,127,128,255]:Array UInt8)[0].toNat:Int)=_;simp[wrap64,lf,soup]) HR2.out
  ·go_wp2_with fail
   refine (l2one_any _ _).mono ?_;rintro e w3 ⟨rfl,rfl⟩;go_wp2;go_ret;exact drs_one _ (lf soup 1) (by show wrap64 ((#[10,9,13,92,34,91,93,45,94,32,35,59,0,127,128,255]:Array UInt8)[1].toNat:Int)=_;simp[wrap64,lf,soup]) HR2.out
  ·go_wp2_with fail
   refine (l2one_any _ _).mono ?_;rintro e w3 ⟨rfl,rfl⟩;go_wp2;go_ret;exact drs_one _ (lf soup 2) (by show wrap64 ((#[10,9,13,92,34,91,93,45,94,32,35,59,0,127,128,255]:Array UInt8)[2].toNat:Int)=_;simp[wrap64,lf,soup]) HR2.out
  ·go_wp2_with fail
   refine (l2one_any _ _).mono ?_;rintro e w3 ⟨rfl,rfl⟩;go_wp2;go_ret;exact drs_one _ (lf soup 3) (by show wrap64 ((#[10,9,13,92,34,91,93,45,94,32,35,59,0,127,128,255]:Array UInt8)[3].toNat:Int)=_;simp[wrap64,lf,soup]) HR2.out
  ·go_wp2_with fail
   refine (l2one_any _ _).mono ?_;rintro e w3 ⟨rfl,rfl⟩;go_wp2;go_ret;exact drs_one _ (lf soup 4) (by show wrap64 ((#[10,9,13,92,34,91,93,45,94,32,35,59,0,127,128,255]:Array UInt8)[4].toNat:Int)=_;simp[wrap64,lf,soup]) HR2.out
  ·go_wp2_with fail
   refine (l2one_any _ _).mono ?_;rintro e w3 ⟨rfl,rfl⟩;go_wp2;go_ret;exact drs_one _ (lf soup 5) (by show wrap64 ((#[10,9,13,92,34,91,93,45,94,32,35,59,0,127,128,255]:Array UInt8)[5].toNat:Int)=_;simp[wrap64,lf,soup]) HR2.out
  ·go_wp2_with fail
   refine (l2one_any _ _).mono ?_;rintro e w3 ⟨rfl,rfl⟩;go_wp2;go_ret;exact drs_one _ (lf soup 6) (by show wrap64 ((#[10,9,13,92,34,91,93,45,94,32,35,59,0,127,128,255]:Array UInt8)[6].toNat:Int)=_;simp[wrap64,lf,soup]) HR2.out
  ·go_wp2_with fail
   refine (l2one_any _ _).mono ?_;rintro e w3 ⟨rfl,rfl⟩;go_wp2;go_ret;exact drs_one _ (lf soup 7) (by show wrap64 ((#[10,9,13,92,34,91,93,45,94,32,35,59,0,127,128,255]:Array UInt8)[7].toNat:Int)=_;simp[wrap64,lf,soup]) HR2.out
  ·go_wp2_with fail
   refine (l2one_any _ _).mono ?_;rintro e w3 ⟨rfl,rfl⟩;go_wp2;go_ret;exact drs_one _ (lf soup 8) (by show wrap64 ((#[10,9,13,92,34,91,93,45,94,32,35,59,0,127,128,255]:Array UInt8)[8].toNat:Int)=_;simp[wrap64,lf,soup]) HR2.out
  ·go_wp2_with fail
   refine (l2one_any _ _).mono ?_;rintro e w3 ⟨rfl,rfl⟩;go_wp2;go_ret;exact drs_one _ (lf soup 9) (by show wrap64 ((#[10,9,13,92,34,91,93,45,94,32,35,59,0,127,128,255]:Array UInt8)[9].toNat:Int)=_;simp[wrap64,lf,soup]) HR2.out
  ·go_wp2_with fail
   refine (l2one_any _ _).mono ?_;rintro e w3 ⟨rfl,rfl⟩;go_wp2;go_ret;exact drs_one _ (lf soup 10) (by show wrap64 ((#[10,9,13,92,34,91,93,45,94,32,35,59,0,127,128,255]:Array UInt8)[10].toNat:Int)=_;simp[wrap64,lf,soup]) HR2.out
  ·go_wp2_with fail
   refine (l2one_any _ _).mono ?_;rintro e w3 ⟨rfl,rfl⟩;go_wp2;go_ret;exact drs_one _ (lf soup 11) (by show wrap64 ((#[10,9,13,92,34,91,93,45,94,32,35,59,0,127,128,255]:Array UInt8)[11].toNat:Int)=_;simp[wrap64,lf,soup]) HR2.out
  ·go_wp2_with fail
   refine (l2one_any _ _).mono ?_;rintro e w3 ⟨rfl,rfl⟩;go_wp2;go_ret;exact drs_one _ (lf soup 12) (by show wrap64 ((#[10,9,13,92,34,91,93,45,94,32,35,59,0,127,128,255]:Array UInt8)[12].toNat:Int)=_;simp[wrap64,lf,soup]) HR2.out
  ·go_wp2_with fail
   refine (l2one_any _ _).mono ?_;rintro e w3 ⟨rfl,rfl⟩;go_wp2;go_ret;exact drs_one _ (lf soup 13) (by show wrap64 ((#[10,9,13,92,34,91,93,45,94,32,35,59,0,127,128,255]:Array UInt8)[13].toNat:Int)=_;simp[wrap64,lf,soup]) HR2.out
  ·go_wp2_with fail
   refine (l2one_any _ _).mono ?_;rintro e w3 ⟨rfl,rfl⟩;go_wp2;go_ret;exact drs_one _ (lf soup 14) (by show wrap64 ((#[10,9,13,92,34,91,93,45,94,32,35,59,0,127,128,255]:Array UInt8)[14].toNat:Int)=_;simp[wrap64,lf,soup]) HR2.out
  ·go_wp2_with fail
   refine (l2one_any _ _).mono ?_;rintro e w3 ⟨rfl,rfl⟩;go_wp2;go_ret;exact drs_one _ (lf soup 15) (by show wrap64 ((#[10,9,13,92,34,91,93,45,94,32,35,59,0,127,128,255]:Array UInt8)[15].toNat:Int)=_;simp[wrap64,lf,soup]) HR2.out
end
section
open Go.RowKit
open M (OpD NodeD Gr)
structure NL where
 nm:List Int
 has:Bool
 bd:List OpD
instance:Inhabited NL:=⟨⟨[],false,[]⟩⟩
structure NC where
 d:NL
 na:Option Addr
 nc:Nat
 ba:Option Addr
 bc:Nat
def ncR(x:NC):List Value:=[.slice x.na x.d.nm.length x.nc,.slice x.ba x.d.bd.length x.bc]
def ncL(x:NC):List Value:=[.slice x.na x.d.nm.length x.nc,.bool x.d.has,.slice x.ba x.d.bd.length x.bc]
theorem ncR_len(x:NC):(ncR x).length=2:=rfl
theorem ncL_len(x:NC):(ncL x).length=3:=rfl
theorem ncR_one(l:List NC):∀u∈l.flatMap ncR,u.oneCell'=true:=fun u hu=>by
 obtain⟨x,_,h⟩:=List.mem_flatMap.1 hu;simp[ncR]at h;rcases h with rfl | rfl<;>rfl
theorem ncL_one(l:List NC):∀u∈l.flatMap ncL,u.oneCell'=true:=fun u hu=>by
 obtain⟨x,_,h⟩:=List.mem_flatMap.1 hu;simp[ncL]at h;rcases h with rfl | rfl | rfl<;>rfl
def Tg(G:Nat→Nat)(w:World)(t:Nat):Nat→Prop:=fun b=>b<w.heap.size∧G b=t
structure GrP(w0:World)(G:Nat→Nat)(w:World)(rv lv:Value)(rs ls:List NC):Prop where
 rules:OwnC (Tg G w 0) w rv 2 rs.length (rs.flatMap ncR)
 labs:OwnC (Tg G w 1) w lv 3 ls.length (ls.flatMap ncL)
 rn:∀x∈rs,Ints (Tg G w 2) .u8 w x.na x.d.nm.length (lf x.d.nm)
 ln:∀x∈ls,Ints (Tg G w 2) .u8 w x.na x.d.nm.length (lf x.d.nm)
 rb:∀i x,rs[i]? = some x→BodP (Tg G w (4+2*i)) w (.slice x.ba x.d.bd.length x.bc) x.d.bd
 lb:∀i x,ls[i]? = some x→BodP (Tg G w (5+2*i)) w (.slice x.ba x.d.bd.length x.bc) x.d.bd
 new:∀b,G b≠3→w0.heap.size≤b
theorem tg_stay{G:Nat→Nat}{w w':World}(hs:∀b,b<w.heap.size→G b≠3→w'.heap[b]? = w.heap[b]?){t:Nat}(ht:t≠3):Stay (Tg G w t) w w':=fun b hb=>hs b hb.1 (by rw[hb.2];exact ht)
theorem tg_wide{G G':Nat→Nat}{w w':World}(hz:w.heap.size≤w'.heap.size)(hG:∀b,b<w.heap.size→G' b=G b)(t:Nat):∀b,Tg G w t b→Tg G' w' t b:=fun b hb=>⟨by have:=hb.1;omega,(hG b hb.1).trans hb.2⟩
theorem GrP.on{w0 w w':World}{G G':Nat→Nat}{rv lv:Value}{rs ls:List NC}(h:GrP w0 G w rv lv rs ls)(hz:w.heap.size≤w'.heap.size)(hs:∀b,b<w.heap.size→G b≠3→w'.heap[b]? = w.heap[b]?)(hG:∀b,b<w.heap.size→G' b=G b)(hn:∀b,G' b≠3→w0.heap.size≤b):GrP w0 G' w' rv lv rs ls :=
 ⟨ownC_wide (h.rules.on (tg_stay hs (by omega))) (tg_wide hz hG 0),ownC_wide (h.labs.on (tg_stay hs (by omega))) (tg_wide hz hG 1),
  fun x hx=>((h.rn x hx).on (tg_stay hs (by omega))).wide (tg_wide hz hG 2),fun x hx=>((h.ln x hx).on (tg_stay hs (by omega))).wide (tg_wide hz hG 2),
  fun i x hx=>((h.rb i x hx).on (tg_stay hs (by omega))).wide (tg_wide hz hG _),fun i x hx=>((h.lb i x hx).on (tg_stay hs (by omega))).wide (tg_wide hz hG _),hn⟩
def tagN(G:Nat→Nat)(w:World)(t:Nat):Nat→Nat:=fun b=>if b<w.heap.size then G b else t
theorem tagN_old{G:Nat→Nat}{w:World}{t b:Nat}(h:b<w.heap.size):tagN G w t b=G b:=if_pos h
theorem tagN_new{G:Nat→Nat}{w:World}{t b:Nat}(h:w.heap.size≤b):tagN G w t b=t:=if_neg (by omega)
theorem GrP.later{w0 w w':World}{G:Nat→Nat}{rv lv:Value}{rs ls:List NC}{C:Nat→Prop}(h:GrP w0 G w rv lv rs ls)(k:Keep C w w')(hC:∀b,C b→G b=3)(t:Nat)(hw:w0.heap.size≤w.heap.size):GrP w0 (tagN G w t) w' rv lv rs ls :=
 h.on k.size (fun b hb hg=>k.block b hb (fun q=>hg (hC b q))) (fun b hb=>tagN_old hb) (fun b hb=>by
  by_cases e:b<w.heap.size
  ·rw[tagN_old e]at hb;exact h.new b hb
  ·omega)
theorem tg_new{G:Nat→Nat}{w w':World}{t b:Nat}(h:New w w' b):Tg (tagN G w t) w' t b:=⟨h.2,tagN_new h.1⟩
theorem GrP.addRule{w0 W2 W4:World}{G:Nat→Nat}{rv v4 lv:Value}{rs ls:List NC}{x:NC}(h:GrP w0 G W2 rv lv rs ls)(hz:w0.heap.size≤W2.heap.size)(hn:Ints (Tg G W2 2) .u8 W2 x.na x.d.nm.length (lf x.d.nm))(hb:BodP (Tg G W2 (4+2*rs.length)) W2 (.slice x.ba x.d.bd.length x.bc) x.d.bd)
  (own:OwnC (fun b=>Tg G W2 0 b∨W2.heap.size≤b) W4 v4 2 (rs.length+1) (rs.flatMap ncR++ncR x)) (g4:Grew (Tg G W2 0) W2 W4):GrP w0 (tagN G W2 0) W4 v4 lv (rs++[x]) ls:=by
 have z4:=g4.size;have st:∀{t:Nat},t≠0→Stay (Tg G W2 t) W2 W4:=fun {t} ht b hb=>g4.block b hb.1 (fun q=>ht (hb.2.symm.trans q.2))
 have wd:∀t b,Tg G W2 t b→Tg (tagN G W2 0) W4 t b:=tg_wide z4 (fun b hb=>tagN_old hb)
 refine⟨?_,ownC_wide (h.labs.on (st (by omega))) (wd 1),fun y hy=>?_,fun y hy=>((h.ln y hy).on (st (by omega))).wide (wd 2),fun i y hy=>?_,fun i y hy=>((h.lb i y hy).on (st (by omega))).wide (wd _),fun b hb=>?_⟩
 ·have e1:(rs++[x]).length=rs.length+1:=by simp
  have e2:(rs++[x]).flatMap ncR=rs.flatMap ncR++ncR x:=by simp
  rw[e1,e2];rcases own with⟨_,q,_⟩|⟨g,cap,e,hq,h3,h4,h5,h6⟩
  ·omega
  refine .inr ⟨g,cap,e,?_,h3,h4,h5,h6⟩;have hg:g<W4.heap.size:=by
   have hlen:0<(rs.flatMap ncR++ncR x).length:=by rw[h3];omega
   have h:=h5 0 hlen;rw[List.getElem?_eq_getElem hlen]at h;exact lt_of_cell h
  rcases hq with q | q
  ·exact wd 0 g q
  ·exact⟨hg,tagN_new q⟩
 ·rcases List.mem_append.1 hy with q | q
  ·exact ((h.rn y q).on (st (by omega))).wide (wd 2)
  ·obtain rfl:=List.mem_singleton.1 q
   exact (hn.on (st (by omega))).wide (wd 2)
 ·by_cases e:i<rs.length
  ·rw[List.getElem?_append_left e]at hy
   exact ((h.rb i y hy).on (st (by omega))).wide (wd _)
  ·rw[List.getElem?_append_right (by omega)]at hy
   have hi:i=rs.length:=by
    have:=(List.getElem?_eq_some_iff.1 hy).1;simp at this;omega
   subst hi;simp at hy;subst hy;exact (hb.on (st (by omega))).wide (wd _)
 ·by_cases e:b<W2.heap.size
  ·rw[tagN_old e]at hb;exact h.new b hb
  ·omega
theorem GrP.addLabel{w0 W2 W4:World}{G:Nat→Nat}{rv v4 lv:Value}{rs ls:List NC}{x:NC}(h:GrP w0 G W2 rv lv rs ls)(hz:w0.heap.size≤W2.heap.size)(hn:Ints (Tg G W2 2) .u8 W2 x.na x.d.nm.length (lf x.d.nm))(hb:BodP (Tg G W2 (5+2*ls.length)) W2 (.slice x.ba x.d.bd.length x.bc) x.d.bd)
  (own:OwnC (fun b=>Tg G W2 1 b∨W2.heap.size≤b) W4 v4 3 (ls.length+1) (ls.flatMap ncL++ncL x)) (g4:Grew (Tg G W2 1) W2 W4):GrP w0 (tagN G W2 1) W4 rv v4 rs (ls++[x]):=by
 have z4:=g4.size;have st:∀{t:Nat},t≠1→Stay (Tg G W2 t) W2 W4:=fun {t} ht b hb=>g4.block b hb.1 (fun q=>ht (hb.2.symm.trans q.2))
 have wd:∀t b,Tg G W2 t b→Tg (tagN G W2 1) W4 t b:=tg_wide z4 (fun b hb=>tagN_old hb)
 refine⟨ownC_wide (h.rules.on (st (by omega))) (wd 0),?_,fun y hy=>((h.rn y hy).on (st (by omega))).wide (wd 2),fun y hy=>?_,fun i y hy=>((h.rb i y hy).on (st (by omega))).wide (wd _),fun i y hy=>?_,fun b hb=>?_⟩
 ·have e1:(ls++[x]).length=ls.length+1:=by simp
  have e2:(ls++[x]).flatMap ncL=ls.flatMap ncL++ncL x:=by simp
  rw[e1,e2];rcases own with⟨_,q,_⟩|⟨g,cap,e,hq,h3,h4,h5,h6⟩
  ·omega
  refine .inr ⟨g,cap,e,?_,h3,h4,h5,h6⟩;have hg:g<W4.heap.size:=by
   have hlen:0<(ls.flatMap ncL++ncL x).length:=by rw[h3];omega
   have h:=h5 0 hlen;rw[List.getElem?_eq_getElem hlen]at h;exact lt_of_cell h
  rcases hq with q | q
  ·exact wd 1 g q
  ·exact⟨hg,tagN_new q⟩
 ·rcases List.mem_append.1 hy with q | q
  ·exact ((h.ln y q).on (st (by omega))).wide (wd 2)
  ·obtain rfl:=List.mem_singleton.1 q
   exact (hn.on (st (by omega))).wide (wd 2)
 ·by_cases e:i<ls.length
  ·rw[List.getElem?_append_left e]at hy
   exact ((h.lb i y hy).on (st (by omega))).wide (wd _)
  ·rw[List.getElem?_append_right (by omega)]at hy
   have hi:i=ls.length:=by
    have:=(List.getElem?_eq_some_iff.1 hy).1;simp at this;omega
   subst hi;simp at hy;subst hy;exact (hb.on (st (by omega))).wide (wd _)
 ·by_cases e:b<W2.heap.size
  ·rw[tagN_old e]at hb;exact h.new b hb
  ·omega
theorem getElem?_set'{α:Type}{l:List α}{i j:Nat}{x y z:α}(hx:l[i]? = some x)(h:(l.set i y)[j]? = some z):(j=i∧z=y)∨(j≠i∧l[j]? = some z):=by
 have hi:=(List.getElem?_eq_some_iff.1 hx).1;by_cases e:j=i
 ·subst e
  rw[List.getElem?_set_self hi]at h;exact .inl ⟨rfl,(Option.some.inj h).symm⟩
 ·rw[List.getElem?_set_ne (by omega)]at h
  exact .inr ⟨e,h⟩
theorem mem_set'{α:Type}{l:List α}{i:Nat}{y z:α}(h:z∈l.set i y):z=y∨z∈l:=(List.mem_or_eq_of_mem_set h).symm
theorem GrP.putR{w0 w:World}{G:Nat→Nat}{lv:Value}{rs ls:List NC}{g n c i j:Nat}{x y:NC}{u:Value}(h:GrP w0 G w (.slice (some ⟨g,0,none⟩) n c) lv rs ls)(hx:rs[i]? = some x)(hj:j<2)(hy:ncR y=(ncR x).set j u)(hg:Tg G w 0 g)(hn:Ints (Tg G w 2) .u8 w y.na y.d.nm.length (lf y.d.nm))(hb:BodP (Tg G w (4+2*i)) w (.slice y.ba y.d.bd.length y.bc) y.d.bd) :
  GrP w0 G (w.setCell ⟨g,i*2+j,none⟩ u) (.slice (some ⟨g,0,none⟩) n c) lv (rs.set i y) ls:=by
 have hi:=(List.getElem?_eq_some_iff.1 hx).1;have st:∀{t:Nat},t≠0→Stay (Tg G w t) w (w.setCell ⟨g,i*2+j,none⟩ u):=fun {t} ht b hb=>Below.heap_setCell _ _ _ _ (fun e=>ht (by rw[←hb.2,e];exact hg.2))
 have wd:∀t b,Tg G w t b→Tg G (w.setCell ⟨g,i*2+j,none⟩ u) t b:=tg_wide (by rw[size_set];exact Nat.le_refl _) (fun b hb=>rfl)
 have hn0:n=rs.length:=by
  rcases h.rules with⟨e,_⟩|⟨g',cap,e,_⟩
  ·cases e
  ·injection e
 refine⟨?_,ownC_wide (h.labs.on (st (by omega))) (wd 1),fun z hz=>?_,fun z hz=>((h.ln z hz).on (st (by omega))).wide (wd 2),fun k z hz=>?_,fun k z hz=>((h.lb k z hz).on (st (by omega))).wide (wd _),h.new⟩
 ·have hr:=h.rules
  rw[hn0]at hr ⊢;have:=ownC_wide (OwnC.put hr (j:=i*2+j) (by rw[flat_len ncR 2 ncR_len];omega) u) (wd 0)
  rw[flat_set ncR 2 ncR_len rs i j x y u hx hj hy]at this;rw[List.length_set];exact this
 ·rcases mem_set' hz with rfl | q
  ·exact (hn.on (st (by omega))).wide (wd 2)
  ·exact ((h.rn z q).on (st (by omega))).wide (wd 2)
 ·rcases getElem?_set' hx hz with⟨rfl,rfl⟩|⟨_,q⟩
  ·exact (hb.on (st (by omega))).wide (wd _)
  ·exact ((h.rb k z q).on (st (by omega))).wide (wd _)
theorem GrP.putL{w0 w:World}{G:Nat→Nat}{rv:Value}{rs ls:List NC}{g n c i j:Nat}{x y:NC}{u:Value}(h:GrP w0 G w rv (.slice (some ⟨g,0,none⟩) n c) rs ls)(hx:ls[i]? = some x)(hj:j<3)(hy:ncL y=(ncL x).set j u)(hg:Tg G w 1 g)(hn:Ints (Tg G w 2) .u8 w y.na y.d.nm.length (lf y.d.nm))(hb:BodP (Tg G w (5+2*i)) w (.slice y.ba y.d.bd.length y.bc) y.d.bd) :
  GrP w0 G (w.setCell ⟨g,i*3+j,none⟩ u) rv (.slice (some ⟨g,0,none⟩) n c) rs (ls.set i y):=by
 have hi:=(List.getElem?_eq_some_iff.1 hx).1;have st:∀{t:Nat},t≠1→Stay (Tg G w t) w (w.setCell ⟨g,i*3+j,none⟩ u):=fun {t} ht b hb=>Below.heap_setCell _ _ _ _ (fun e=>ht (by rw[←hb.2,e];exact hg.2))
 have wd:∀t b,Tg G w t b→Tg G (w.setCell ⟨g,i*3+j,none⟩ u) t b:=tg_wide (by rw[size_set];exact Nat.le_refl _) (fun b hb=>rfl)
 have hn0:n=ls.length:=by
  rcases h.labs with⟨e,_⟩|⟨g',cap,e,_⟩
  ·cases e
  ·injection e
 refine⟨ownC_wide (h.rules.on (st (by omega))) (wd 0),?_,fun z hz=>((h.rn z hz).on (st (by omega))).wide (wd 2),fun z hz=>?_,fun k z hz=>((h.rb k z hz).on (st (by omega))).wide (wd _),fun k z hz=>?_,h.new⟩
 ·have hr:=h.labs
  rw[hn0]at hr ⊢;have:=ownC_wide (OwnC.put hr (j:=i*3+j) (by rw[flat_len ncL 3 ncL_len];omega) u) (wd 1)
  rw[flat_set ncL 3 ncL_len ls i j x y u hx hj hy]at this;rw[List.length_set];exact this
 ·rcases mem_set' hz with rfl | q
  ·exact (hn.on (st (by omega))).wide (wd 2)
  ·exact ((h.ln z q).on (st (by omega))).wide (wd 2)
 ·rcases getElem?_set' hx hz with⟨rfl,rfl⟩|⟨_,q⟩
  ·exact (hb.on (st (by omega))).wide (wd _)
  ·exact ((h.lb k z q).on (st (by omega))).wide (wd _)
theorem GrP.ruleAt{w0 w:World}{G:Nat→Nat}{rv lv:Value}{rs ls:List NC}(h:GrP w0 G w rv lv rs ls){i:Nat}{x:NC}(hx:rs[i]? = some x):∃g c,rv=.slice (some ⟨g,0,none⟩) rs.length c∧Tg G w 0 g∧rs.length≤c∧w.cell? ⟨g,i*2,none⟩=some (.slice x.na x.d.nm.length x.nc)∧w.cell? ⟨g,i*2+1,none⟩=some (.slice x.ba x.d.bd.length x.bc)∧w.frozen? ⟨g,i*2,none⟩=false∧w.frozen? ⟨g,i*2+1,none⟩=false:=by
 have hi:=(List.getElem?_eq_some_iff.1 hx).1;obtain⟨g,c,e,hq,hc,hcell⟩:=h.rules.at_ (by omega)
 rw[flat_len ncR 2 ncR_len]at hcell;have h0:=hcell (i*2) (by omega)
 have h1:=hcell (i*2+1) (by omega)
 have f0:=flat_get ncR 2 ncR_len rs i 0 x hx (by omega)
 have f1:=flat_get ncR 2 ncR_len rs i 1 x hx (by omega)
 exact⟨g,c,e,hq,hc,h0.1.trans f0,h1.1.trans f1,h0.2,h1.2⟩
theorem GrP.labelAt{w0 w:World}{G:Nat→Nat}{rv lv:Value}{rs ls:List NC}(h:GrP w0 G w rv lv rs ls){i:Nat}{x:NC}(hx:ls[i]? = some x):∃g c,lv=.slice (some ⟨g,0,none⟩) ls.length c∧Tg G w 1 g∧ls.length≤c∧w.cell? ⟨g,i*3,none⟩=some (.slice x.na x.d.nm.length x.nc)∧w.cell? ⟨g,i*3+1,none⟩=some (.bool x.d.has)∧w.cell? ⟨g,i*3+2,none⟩=some (.slice x.ba x.d.bd.length x.bc)∧w.frozen? ⟨g,i*3+1,none⟩=false∧w.frozen? ⟨g,i*3+2,none⟩=false:=by
 have hi:=(List.getElem?_eq_some_iff.1 hx).1;obtain⟨g,c,e,hq,hc,hcell⟩:=h.labs.at_ (by omega)
 rw[flat_len ncL 3 ncL_len]at hcell;have h0:=hcell (i*3) (by omega)
 have h1:=hcell (i*3+1) (by omega)
 have h2:=hcell (i*3+2) (by omega)
 have f0:=flat_get ncL 3 ncL_len ls i 0 x hx (by omega)
 have f1:=flat_get ncL 3 ncL_len ls i 1 x hx (by omega)
 have f2:=flat_get ncL 3 ncL_len ls i 2 x hx (by omega)
 exact⟨g,c,e,hq,hc,h0.1.trans f0,h1.1.trans f1,h2.1.trans f2,h1.2,h2.2⟩
def node(x:NL):NodeD:=⟨x.nm.length,lf x.nm,x.has,x.bd.length,df x.bd⟩
def gram(rs ls:List NL):Gr:=⟨rs.length,fun i=>node (rs.getD i default),ls.length,fun i=>node (ls.getD i default)⟩
theorem getD_map{l:List NC}{i:Nat}{x:NC}(h:l[i]? = some x):(l.map (·.d)).getD i default=x.d:=by rw[List.getD_eq_getElem?_getD,List.getElem?_map,h];rfl
theorem GrP.gram{w0 w:World}{G:Nat→Nat}{rv lv:Value}{rs ls:List NC}(h:GrP w0 G w rv lv rs ls):∃ra rc la lc,rv=.slice ra rs.length rc∧lv=.slice la ls.length lc∧GramX (New w0 w) w ra la (gram (rs.map (·.d)) (ls.map (·.d))):=by
 have wd:∀{t:Nat},t≠3→∀b,Tg G w t b→New w0 w b:=fun {t} ht b hb=>⟨h.new b (by rw[hb.2];exact ht),hb.1⟩
 obtain⟨ra,rc,er⟩:=own_shape h.rules;obtain⟨la,lc,el⟩:=own_shape h.labs;refine⟨ra,rc,la,lc,er,el,⟨?_,?_⟩⟩
 ·by_cases h0:rs.length=0
  ·exact .inl (by show (rs.map (·.d)).length=0;rw[List.length_map];exact h0)
  ·obtain⟨g,c,e,hq,hc,hcell⟩:=h.rules.at_ (by omega)
   rw[er]at e;obtain rfl:ra=some ⟨g,0,none⟩:=by injection e
   refine .inr ⟨g,0,rfl,wd (by omega) g hq,fun i hi=>?_⟩
   have hi':i<rs.length:=by
    have:i<(rs.map (·.d)).length:=hi
    rwa [List.length_map]at this
   have hx:rs[i]? = some rs[i]:=List.getElem?_eq_getElem hi';have en:(Go.Proofs.YtcbnnfnlilbjeaaGreat.gram (rs.map (·.d)) (ls.map (·.d))).rule i=node rs[i].d:=by show node _=_;rw[getD_map hx]
   rw[en];obtain⟨g',c',e',_,_,q0,q1,_,_⟩:=h.ruleAt hx;rw[er]at e';obtain rfl:g'=g:=by injection e' with e1;injection e1 with e1;injection e1 with e1;exact e1.symm
   have hb:=h.rb i _ hx;obtain⟨_,cb,eb,hcb⟩:=hb.shape;injection eb with _ _ eb
   rw[Nat.zero_add];exact⟨⟨⟨_,_,q0,(h.rn _ (List.getElem_mem hi')).wide (wd (by omega))⟩,⟨_,_,q1,hb.ops.wide (wd (by omega))⟩⟩,⟨_,_,q1,by rw[eb];exact hcb⟩⟩
 ·by_cases h0:ls.length=0
  ·exact .inl (by show (ls.map (·.d)).length=0;rw[List.length_map];exact h0)
  ·obtain⟨g,c,e,hq,hc,hcell⟩:=h.labs.at_ (by omega)
   rw[el]at e;obtain rfl:la=some ⟨g,0,none⟩:=by injection e
   refine .inr ⟨g,0,rfl,wd (by omega) g hq,fun i hi=>?_⟩
   have hi':i<ls.length:=by
    have:i<(ls.map (·.d)).length:=hi
    rwa [List.length_map]at this
   have hx:ls[i]? = some ls[i]:=List.getElem?_eq_getElem hi';have en:(Go.Proofs.YtcbnnfnlilbjeaaGreat.gram (rs.map (·.d)) (ls.map (·.d))).lab i=node ls[i].d:=by show node _=_;rw[getD_map hx]
   rw[en];obtain⟨g',c',e',_,_,q0,q1,q2,_,_⟩:=h.labelAt hx;rw[el]at e';obtain rfl:g'=g:=by injection e' with e1;injection e1 with e1;injection e1 with e1;exact e1.symm
   have hb:=h.lb i _ hx;obtain⟨_,cb,eb,hcb⟩:=hb.shape;injection eb with _ _ eb
   rw[Nat.zero_add];exact⟨⟨⟨_,_,q0,(h.ln _ (List.getElem_mem hi')).wide (wd (by omega))⟩,q1,⟨_,_,q2,hb.ops.wide (wd (by omega))⟩⟩,⟨_,_,q2,by rw[eb];exact hcb⟩⟩
theorem GrP.nil(w0:World):GrP w0 (fun _=>3) w0 (.slice none 0 0) (.slice none 0 0) [] [] :=
 ⟨.inl ⟨rfl,rfl,rfl⟩,.inl ⟨rfl,rfl,rfl⟩,fun x hx=>(by cases hx),fun x hx=>(by cases hx),fun i x hx=>(by simp at hx),fun i x hx=>(by simp at hx),fun b hb=>absurd rfl hb⟩
end
section
open Go.RowKit
open M (OpD NodeD Gr)
def bytesOf(s:ByteArray):List Int:=s.data.toList.map fun b=>(b.toNat:Int)
theorem bytesOf_len(s:ByteArray):(bytesOf s).length=s.size:=by unfold bytesOf;rw[List.length_map,Array.length_toList];rfl
def NmIs(z:List Int)(w w':World)(v:Value):Prop:=∃na nc,v=.slice na z.length nc∧Ints (New w w') .u8 w' na z.length (lf z)∧Keep (fun _=>False) w w'
theorem convZ_run(w:World)(s:ByteArray):(convert 9 22 (.string s)).run Tryz.prog w=.ok (.slice (some ⟨w.heap.size,0,none⟩) s.size (grownCap w s.size 0 5)) (Lib.bytesWorld w 5 s) :=
 Lib.run_convert_string_bytes (P:=Tryz.prog) w 9 22 5 s Tryz.underlying9 Tryz.underlying22 Tryz.underlying5
theorem conv_is(w:World)(s:ByteArray):NmIs (bytesOf s) w (Lib.bytesWorld w 5 s) (.slice (some ⟨w.heap.size,0,none⟩) s.size (grownCap w s.size 0 5)):=by
 have hsz:=Lib.bytesWorld_size w 5 s;refine⟨_,_,by rw[bytesOf_len],.inr ⟨w.heap.size,0,rfl,⟨Nat.le_refl _,by omega⟩,fun j hj=>?_⟩,⟨rfl,rfl,rfl,by omega,fun k hk _=>Lib.bytesWorld_at_old w 5 s k hk⟩⟩
 rw[bytesOf_len]at hj;rw[Nat.zero_add,Lib.bytesWorld_cell w 5 s j hj];have hj':j<s.data.toList.length:=by rw[Array.length_toList];exact hj
 simp only[lf,bytesOf,List.getD_eq_getElem?_getD,List.getElem?_map];rw[List.getElem?_eq_getElem hj'];rfl
theorem conv_op{ops:Array Oper}{rest:List Oper}{o:Oper}{a:Act}{P':Exit→Act→World→Prop}{w:World}(hgd:o.guard=none)(x:Operand)(ho:o.op=.convert 9 22 x){s:ByteArray}(hx:a.eval x=.string s)
  (h:∀na nc w',Ints (New w w') .u8 w' na (bytesOf s).length (lf (bytesOf s))→Keep (fun _=>False) w w'→wpList Tryz.prog ops P' rest (a.put o.dst (.slice na (bytesOf s).length nc)) w'):wpList Tryz.prog ops P' (o::rest) a w:=by
 refine wpList_plain hgd fun K hK=>?_
 obtain⟨na,nc,e,h1,h2⟩:=conv_is w s;have hr:=convZ_run w s;rw[e]at hr;unfold Oper.wp execOp;simp only[ho,Sem.run_bind,Sem.run_pure,Result.andThen_ok,hx,hr];exact hK _ _ (h na nc _ h1 h2)
def decL(u:Nat):List UInt8:=if h:u<10 then [UInt8.ofNat (48+u)] else decL (u / 10)++[UInt8.ofNat (48+u%10)]
termination_by u
decreasing_by omega
theorem decL_one{u:Nat}(h:u<10):decL u = [UInt8.ofNat (48+u)]:=by rw[decL,dif_pos h]
set_option maxHeartbeats 1000000 in
theorem dec_small(u:Nat)(h:u<10)(w:World):Calls Tryz.prog 92 #[.int .i64 u] w fun e w'=>e=.returned (.string ⟨(decL u).toArray⟩)∧w'=w:=by
 rw[decL_one h];have hd:(u:Int)<10:=by omega
 go_enter Tryz.func92,Tryz.ntmps92;obtain rfl | rfl | rfl | rfl | rfl | rfl | rfl | rfl | rfl | rfl:u=0∨u=1∨u=2∨u=3∨u=4∨u=5∨u=6∨u=7∨u=8∨u=9:=by omega
 all_goals
  go_wp2;go_ret;exact⟨rfl,rfl⟩
theorem ba_append(a b:List UInt8):(⟨a.toArray⟩:ByteArray)++(⟨b.toArray⟩:ByteArray)=⟨(a++b).toArray⟩:=by
 apply ByteArray.ext
 simp
theorem dec_len(u:Nat):(decL u).length≤u+1:=by
 induction u using Nat.strongRecOn with
 |_ u ih =>
  by_cases h:u<10
  ·rw[decL_one h];simp
  ·have:=ih (u / 10) (by omega)
   rw[decL,dif_neg h];simp;omega
set_option maxHeartbeats 1000000 in
theorem dec_any(u:Nat)(hu:u≤8388608)(w:World):Calls Tryz.prog 92 #[.int .i64 u] w fun e w'=>e=.returned (.string ⟨(decL u).toArray⟩)∧w'=w:=by
 induction u using Nat.strongRecOn generalizing w with
 |_ u ih =>
  by_cases h:u<10
  ·exact dec_small u h w
  ·have hq:Int.tdiv (u:Int) 10=((u / 10:Nat):Int):=by rw[Int.tdiv_eq_ediv_of_nonneg (by omega)];omega
   have hr:Int.tmod (u:Int) 10=((u%10:Nat):Int):=by rw[Int.tmod_eq_emod_of_nonneg (by omega)];omega
   have hd:¬((u:Int)<10):=by omega
   have ih1:=ih (u / 10) (by omega) (by omega)
   have ih2:=dec_small (u%10) (by omega)
   have hD:decL u=decL (u / 10)++decL (u%10):=by
    rw[decL_one (show u%10<10 by omega)]
    conv=>lhs;rw[decL,dif_neg h]
   have hA:=ba_append (decL (u / 10)) (decL (u%10));rw[hD,←hA];have l1:=dec_len (u / 10);have l2:=dec_len (u%10);have hs:¬(9223372036854775807<(⟨(decL (u / 10)).toArray⟩:ByteArray).size+(⟨(decL (u%10)).toArray⟩:ByteArray).size):=by
    show ¬(9223372036854775807<(decL (u / 10)).length+(decL (u%10)).length);omega
   clear hA hD ih l1 l2;generalize hx:(⟨(decL (u / 10)).toArray⟩:ByteArray)=x at *;generalize hy:(⟨(decL (u%10)).toArray⟩:ByteArray)=y at *;go_enter Tryz.func92,Tryz.ntmps92;go_wp2_with fail;refine (ih1 _).mono ?_;rintro e w1 ⟨rfl,rfl⟩;go_wp2_with fail;refine (ih2 _).mono ?_;rintro e w2 ⟨rfl,rfl⟩;go_wp2;go_ret;exact⟨rfl,rfl⟩
set_option maxHeartbeats 2000000 in
theorem l2ruleName_any(i:Nat)(hi:i≤1048576)(w:World):Calls Tryz.prog 62 #[.int .i64 (i:Int)] w fun e w'=>∃v,e=.returned v∧NmIs [((115+i%8:Nat):Int)] w w' v:=by
 obtain⟨q,hq⟩:∃q:Nat,i%8=q:=⟨_,rfl⟩;have hq':(i:Int)%8=(q:Int):=by omega
 have hql:q<8:=by omega
 rw[hq];clear hq;go_enter Tryz.func62,Tryz.ntmps62;rcases (show q=0∨q=1∨q=2∨q=3∨q=4∨q=5∨q=6∨q=7 by omega) with rfl | rfl | rfl | rfl | rfl | rfl | rfl | rfl
 all_goals
  go_wp2_with (refine conv_op rfl _ rfl rfl ?_;intro na nc w' h1 h2;have HE:Hid (Ints (New w w') .u8 w' na 1 (lf _)):=h1;have HK:Hid (Keep (fun _=>False) w w'):=h2;clear h1 h2)
  go_ret;exact⟨_,rfl,na,nc,rfl,HE.out,HK.out⟩
end
end Go.Proofs.YtcbnnfnlilbjeaaGreat
