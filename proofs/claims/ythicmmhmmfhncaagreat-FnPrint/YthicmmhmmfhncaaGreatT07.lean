import Derived.Test.YthicmmhmmfhncaaGreatT06
import Derived.Lib.ConvBytes
import Derived.Lib.BytesEntry
set_option linter.unusedVariables false
set_option linter.unusedSimpArgs false
namespace Go.Proofs.YthicmmhmmfhncaaGreat
section
open Go.RowKit
open M (OpD uj Gr)
theorem RdOn.trans{t:Tp}{R i j:Nat}{w w' w'':World}(h:RdOn t R i w w')(k:RdOn t R j w' w''):RdOn t R j w w'':=⟨k.1,h.2.trans k.2⟩
theorem RdOn.refl{t:Tp}{R i:Nat}{w:World}(h:RdA t R w i):RdOn t R i w w:=⟨h,Keep.refl _ _⟩
theorem RdOn.quiet{t:Tp}{R i:Nat}{w w' w'':World}(h:RdOn t R i w w')(k:Keep (fun _=>False) w' w''):RdOn t R i w w'' :=
 ⟨h.1.keep k (fun _ q=>q.elim),h.2.trans (k.mono (fun _ q=>q.elim))⟩
theorem RdOn.le{t:Tp}{R i:Nat}{w w':World}(h:RdOn t R i w w'):w.heap.size≤w'.heap.size:=h.2.size
theorem unv{Q:Nat→Prop}{k:IntKind}{w:World}{a:Option Addr}{n:Nat}{S:Nat→Int}(h:Ints Q k w a n S):Ints (fun b=>Q b∧b<w.heap.size) k w a n S:=by
 by_cases h0:n=0
 ·exact .inl h0
 ·rcases h with h | ⟨b,off,e,hq,h⟩
  ·exact absurd h h0
  ·exact .inr ⟨b,off,e,⟨hq,ub (h 0 (by omega))⟩,h⟩
theorem Ints.kept{Q C:Nat→Prop}{k:IntKind}{w w':World}{a:Option Addr}{n:Nat}{S:Nat→Int}(h:Ints Q k w a n S)(t:Keep C w w')(hC:∀b,Q b→¬C b):Ints Q k w' a n S :=
 ((unv h).on (fun b hb=>t.block b hb.2 (hC b hb.1))).wide (fun b hb=>hb.1)
theorem OpC.kept{Q C:Nat→Prop}{w w':World}{b o:Nat}{d:OpD}(h:OpC Q w b o d)(hq:Q b)(t:Keep C w w')(hC:∀b,Q b→¬C b):OpC Q w' b o d:=by
 obtain⟨h1,⟨a,c,h2,h3⟩,h4⟩:=h;have hb:=t.block b (ub h1) (hC b hq);exact⟨(World.cell?_of_block (a:=⟨b,o,none⟩) hb).trans h1,⟨a,c,(World.cell?_of_block (a:=⟨b,o+1,none⟩) hb).trans h2,h3.kept t hC⟩,(World.cell?_of_block (a:=⟨b,o+2,none⟩) hb).trans h4⟩
theorem OpsA.kept{Q C:Nat→Prop}{w w':World}{a:Option Addr}{n:Nat}{B:Nat→OpD}(h:OpsA Q w a n B)(t:Keep C w w')(hC:∀b,Q b→¬C b):OpsA Q w' a n B:=by
 rcases h with h | ⟨b,off,e,hq,h⟩
 ·exact .inl h
 ·exact .inr ⟨b,off,e,hq,fun i hi=>(h i hi).kept hq t hC⟩
def DrS(t:Tp)(R:Nat)(s:List Int×Nat)(w:World)(e:Ending)(w':World):Prop :=
 ∃a c,e=.returned (.slice a s.1.length c)∧Ints (fun b=>b≠R) .i64 w' a s.1.length (lf s.1)∧RdOn t R s.2 w w'
theorem qI{t:Tp}{R i:Nat}{w W:World}{bs:List Int}(h:RdOn t R i w W){ty:TypeId}:DrS t R (bs,i) w (.returned (.slice (some ⟨W.heap.size,0,none⟩) bs.length bs.length)) (W.alloc (.cells (bs.map (fun x=>Value.int .i64 x)).toArray ty)):=by
 refine⟨_,_,rfl,.inr ⟨W.heap.size,0,rfl,fun e=>?_,fun k hk=>?_⟩,h.quiet (Keep.alloc _ _ _)⟩
 ·have:=h.1.lt
  omega
 ·have hb:=World.alloc_heap_new W (.cells (bs.map (fun x=>Value.int .i64 x)).toArray ty)
  simp only[World.cell?,hb];have hk':k<bs.length:=hk;simp[lf,hk']
theorem yd{t:Tp}{R i:Nat}{w W:World}(x y:Int)(e:x=y)(h:RdOn t R i w W){ty:TypeId}:DrS t R (ur y,i) w (.returned (.slice (some ⟨W.heap.size,0,none⟩) 2 2)) (W.alloc (.cells #[.int .i64 x,.int .i64 x] ty)):=by
 subst e;exact qI (bs:=ur x) h
set_option maxHeartbeats 4000000 in
theorem uZ(t:Tp)(R i:Nat)(w:World)(h:RdA t R w i)(s:List Int×Nat)(hs:yr t i=s) :
  Calls Tryz.prog 62 #[.pointer (some ⟨R,0,none⟩)] w (DrS t R s w):=by
 have hv:=t.v_le i;go_enter Tryz.func62,Tryz.ntmps62;go_wp2_with fail;refine (uN t R i w h).mono ?_;rintro e w1 ⟨rfl,hon⟩;have HR:Hid (RdOn t R (t.n i) w w1):=hon;clear hon h;unfold yr at hs;generalize t.v i=k at *;obtain⟨q,hq⟩:∃q:Nat,k%12=q:=⟨_,rfl⟩;have hq':(k:Int)%12=(q:Int):=by omega
 have hql:q<12:=by omega
 rw[hq]at hs;by_cases c1:q<7
 ·rw[if_pos c1]at hs
  subst hs;have c1':(q:Int)<7:=by omega
  go_wp2_with fail;refine (uL _ _).mono ?_;rintro e w2 ⟨rfl,rfl⟩;go_wp2;go_ret;have e1:97+(k:Int) / 12%4=((97+k / 12%4:Nat):Int):=by omega
  rw[e1];exact qI (bs:=ur ((97+k / 12%4:Nat):Int)) (ty:=3) HR.out
 ·rw[if_neg c1]at hs
  have c1':¬(q:Int)<7:=by omega
  by_cases c2:q=7
  ·rw[if_pos c2]at hs
   subst hs c2;go_wp2;go_ret;exact qI (bs:=[97,98]) HR.out
  rw[if_neg c2]at hs;by_cases c3:q=8
  ·rw[if_pos c3]at hs
   subst hs c3;go_wp2;go_ret;exact qI (bs:=[0,255]) HR.out
  rw[if_neg c3]at hs;by_cases c4:q=9
  ·rw[if_pos c4]at hs
   subst hs c4;go_wp2;go_ret;exact qI (bs:=[48,57,97,99]) HR.out
  rw[if_neg c4]at hs;by_cases c5:q=10
  ·rw[if_pos c5]at hs
   subst c5;by_cases c6:200<k
   ·rw[if_pos c6]at hs
    subst hs;have c6':(200:Int)<(k:Int):=by omega
    go_wp2;go_ret;exact⟨none,0,rfl,.inl rfl,HR.out⟩
   ·rw[if_neg c6]at hs
    subst hs;have c6':¬(200:Int)<(k:Int):=by omega
    go_wp2;go_ret;exact qI (bs:=[0,96,99,255]) HR.out
  rw[if_neg c5]at hs;obtain rfl:q=11:=by omega
  go_wp2_with fail;refine (uN t R (t.n i) w1 HR.out.1).mono ?_;rintro e w2 ⟨rfl,hon⟩;have HR2:Hid (RdOn t R (t.n (t.n i)) w w2):=HR.out.trans hon;have hv2:=t.v_le (t.n i);clear hon;generalize t.v (t.n i)=k2 at *;obtain⟨q2,hq2⟩:∃q2:Nat,k2%16=q2:=⟨_,rfl⟩;have hq2':(k2:Int)%16=(q2:Int):=by omega
  have hql2:q2<16:=by omega
  rw[hq2]at hs;subst hs;clear hq2;rcases (show q2=0∨q2=1∨q2=2∨q2=3∨q2=4∨q2=5∨q2=6∨q2=7∨q2=8∨q2=9∨q2=10∨q2=11∨q2=12∨q2=13∨q2=14∨q2=15 by omega) with rfl | rfl | rfl | rfl | rfl | rfl | rfl | rfl | rfl | rfl | rfl | rfl | rfl | rfl | rfl | rfl
  ·go_wp2_with fail
   refine (uL _ _).mono ?_;rintro e w3 ⟨rfl,rfl⟩;go_wp2;go_ret;exact yd _ (lf yM 0) (by show wrap64 ((#[10,9,13,92,34,91,93,45,94,32,35,59,0,127,128,255]:Array UInt8)[0].toNat:Int)=_;simp[wrap64,lf,yM]) HR2.out
  ·go_wp2_with fail
   refine (uL _ _).mono ?_;rintro e w3 ⟨rfl,rfl⟩;go_wp2;go_ret;exact yd _ (lf yM 1) (by show wrap64 ((#[10,9,13,92,34,91,93,45,94,32,35,59,0,127,128,255]:Array UInt8)[1].toNat:Int)=_;simp[wrap64,lf,yM]) HR2.out
  ·go_wp2_with fail
   refine (uL _ _).mono ?_;rintro e w3 ⟨rfl,rfl⟩;go_wp2;go_ret;exact yd _ (lf yM 2) (by show wrap64 ((#[10,9,13,92,34,91,93,45,94,32,35,59,0,127,128,255]:Array UInt8)[2].toNat:Int)=_;simp[wrap64,lf,yM]) HR2.out
  ·go_wp2_with fail
   refine (uL _ _).mono ?_;rintro e w3 ⟨rfl,rfl⟩;go_wp2;go_ret;exact yd _ (lf yM 3) (by show wrap64 ((#[10,9,13,92,34,91,93,45,94,32,35,59,0,127,128,255]:Array UInt8)[3].toNat:Int)=_;simp[wrap64,lf,yM]) HR2.out
  ·go_wp2_with fail
   refine (uL _ _).mono ?_;rintro e w3 ⟨rfl,rfl⟩;go_wp2;go_ret;exact yd _ (lf yM 4) (by show wrap64 ((#[10,9,13,92,34,91,93,45,94,32,35,59,0,127,128,255]:Array UInt8)[4].toNat:Int)=_;simp[wrap64,lf,yM]) HR2.out
  ·go_wp2_with fail
   refine (uL _ _).mono ?_;rintro e w3 ⟨rfl,rfl⟩;go_wp2;go_ret;exact yd _ (lf yM 5) (by show wrap64 ((#[10,9,13,92,34,91,93,45,94,32,35,59,0,127,128,255]:Array UInt8)[5].toNat:Int)=_;simp[wrap64,lf,yM]) HR2.out
  ·go_wp2_with fail
   refine (uL _ _).mono ?_;rintro e w3 ⟨rfl,rfl⟩;go_wp2;go_ret;exact yd _ (lf yM 6) (by show wrap64 ((#[10,9,13,92,34,91,93,45,94,32,35,59,0,127,128,255]:Array UInt8)[6].toNat:Int)=_;simp[wrap64,lf,yM]) HR2.out
  ·go_wp2_with fail
   refine (uL _ _).mono ?_;rintro e w3 ⟨rfl,rfl⟩;go_wp2;go_ret;exact yd _ (lf yM 7) (by show wrap64 ((#[10,9,13,92,34,91,93,45,94,32,35,59,0,127,128,255]:Array UInt8)[7].toNat:Int)=_;simp[wrap64,lf,yM]) HR2.out
  ·go_wp2_with fail
   refine (uL _ _).mono ?_;rintro e w3 ⟨rfl,rfl⟩;go_wp2;go_ret;exact yd _ (lf yM 8) (by show wrap64 ((#[10,9,13,92,34,91,93,45,94,32,35,59,0,127,128,255]:Array UInt8)[8].toNat:Int)=_;simp[wrap64,lf,yM]) HR2.out
  ·go_wp2_with fail
   refine (uL _ _).mono ?_;rintro e w3 ⟨rfl,rfl⟩;go_wp2;go_ret;exact yd _ (lf yM 9) (by show wrap64 ((#[10,9,13,92,34,91,93,45,94,32,35,59,0,127,128,255]:Array UInt8)[9].toNat:Int)=_;simp[wrap64,lf,yM]) HR2.out
  ·go_wp2_with fail
   refine (uL _ _).mono ?_;rintro e w3 ⟨rfl,rfl⟩;go_wp2;go_ret;exact yd _ (lf yM 10) (by show wrap64 ((#[10,9,13,92,34,91,93,45,94,32,35,59,0,127,128,255]:Array UInt8)[10].toNat:Int)=_;simp[wrap64,lf,yM]) HR2.out
  ·go_wp2_with fail
   refine (uL _ _).mono ?_;rintro e w3 ⟨rfl,rfl⟩;go_wp2;go_ret;exact yd _ (lf yM 11) (by show wrap64 ((#[10,9,13,92,34,91,93,45,94,32,35,59,0,127,128,255]:Array UInt8)[11].toNat:Int)=_;simp[wrap64,lf,yM]) HR2.out
  ·go_wp2_with fail
   refine (uL _ _).mono ?_;rintro e w3 ⟨rfl,rfl⟩;go_wp2;go_ret;exact yd _ (lf yM 12) (by show wrap64 ((#[10,9,13,92,34,91,93,45,94,32,35,59,0,127,128,255]:Array UInt8)[12].toNat:Int)=_;simp[wrap64,lf,yM]) HR2.out
  ·go_wp2_with fail
   refine (uL _ _).mono ?_;rintro e w3 ⟨rfl,rfl⟩;go_wp2;go_ret;exact yd _ (lf yM 13) (by show wrap64 ((#[10,9,13,92,34,91,93,45,94,32,35,59,0,127,128,255]:Array UInt8)[13].toNat:Int)=_;simp[wrap64,lf,yM]) HR2.out
  ·go_wp2_with fail
   refine (uL _ _).mono ?_;rintro e w3 ⟨rfl,rfl⟩;go_wp2;go_ret;exact yd _ (lf yM 14) (by show wrap64 ((#[10,9,13,92,34,91,93,45,94,32,35,59,0,127,128,255]:Array UInt8)[14].toNat:Int)=_;simp[wrap64,lf,yM]) HR2.out
  ·go_wp2_with fail
   refine (uL _ _).mono ?_;rintro e w3 ⟨rfl,rfl⟩;go_wp2;go_ret;exact yd _ (lf yM 15) (by show wrap64 ((#[10,9,13,92,34,91,93,45,94,32,35,59,0,127,128,255]:Array UInt8)[15].toNat:Int)=_;simp[wrap64,lf,yM]) HR2.out
end
section
open Go.RowKit
open M (OpD uj Gr)
structure zNL where
 nm:List Int
 has:Bool
 bd:List OpD
instance:Inhabited zNL:=⟨⟨[],false,[]⟩⟩
structure zNC where
 d:zNL
 na:Option Addr
 nc:Nat
 ba:Option Addr
 bc:Nat
def vF(x:zNC):List Value:=[.slice x.na x.d.nm.length x.nc,.slice x.ba x.d.bd.length x.bc]
def vC(x:zNC):List Value:=[.slice x.na x.d.nm.length x.nc,.bool x.d.has,.slice x.ba x.d.bd.length x.bc]
theorem kF(x:zNC):(vF x).length=2:=rfl
theorem jt(x:zNC):(vC x).length=3:=rfl
theorem unq(l:List zNC):∀u∈l.flatMap vF,u.oneCell'=true:=fun u hu=>by
 obtain⟨x,_,h⟩:=List.mem_flatMap.1 hu;simp[vF]at h;rcases h with rfl | rfl<;>rfl
theorem unr(l:List zNC):∀u∈l.flatMap vC,u.oneCell'=true:=fun u hu=>by
 obtain⟨x,_,h⟩:=List.mem_flatMap.1 hu;simp[vC]at h;rcases h with rfl | rfl | rfl<;>rfl
def zTg(G:Nat→Nat)(w:World)(t:Nat):Nat→Prop:=fun b=>b<w.heap.size∧G b=t
structure zGrP(w0:World)(G:Nat→Nat)(w:World)(rv lv:Value)(rs ls:List zNC):Prop where
 rules:OwnC (zTg G w 0) w rv 2 rs.length (rs.flatMap vF)
 labs:OwnC (zTg G w 1) w lv 3 ls.length (ls.flatMap vC)
 rn:∀x∈rs,Ints (zTg G w 2) .u8 w x.na x.d.nm.length (lf x.d.nm)
 ln:∀x∈ls,Ints (zTg G w 2) .u8 w x.na x.d.nm.length (lf x.d.nm)
 rb:∀i x,rs[i]? = some x→BodP (zTg G w (4+2*i)) w (.slice x.ba x.d.bd.length x.bc) x.d.bd
 lb:∀i x,ls[i]? = some x→BodP (zTg G w (5+2*i)) w (.slice x.ba x.d.bd.length x.bc) x.d.bd
 new:∀b,G b≠3→w0.heap.size≤b
theorem ju{G:Nat→Nat}{w w':World}(hs:∀b,b<w.heap.size→G b≠3→w'.heap[b]? = w.heap[b]?){t:Nat}(ht:t≠3):Stay (zTg G w t) w w':=fun b hb=>hs b hb.1 (by rw[hb.2];exact ht)
theorem yq{G G':Nat→Nat}{w w':World}(hz:w.heap.size≤w'.heap.size)(hG:∀b,b<w.heap.size→G' b=G b)(t:Nat):∀b,zTg G w t b→zTg G' w' t b:=fun b hb=>⟨by have:=hb.1;omega,(hG b hb.1).trans hb.2⟩
theorem zGrP.on{w0 w w':World}{G G':Nat→Nat}{rv lv:Value}{rs ls:List zNC}(h:zGrP w0 G w rv lv rs ls)(hz:w.heap.size≤w'.heap.size)(hs:∀b,b<w.heap.size→G b≠3→w'.heap[b]? = w.heap[b]?)(hG:∀b,b<w.heap.size→G' b=G b)(hn:∀b,G' b≠3→w0.heap.size≤b):zGrP w0 G' w' rv lv rs ls :=
 ⟨uo (h.rules.on (ju hs (by omega))) (yq hz hG 0),uo (h.labs.on (ju hs (by omega))) (yq hz hG 1),
  fun x hx=>((h.rn x hx).on (ju hs (by omega))).wide (yq hz hG 2),fun x hx=>((h.ln x hx).on (ju hs (by omega))).wide (yq hz hG 2),
  fun i x hx=>((h.rb i x hx).on (ju hs (by omega))).wide (yq hz hG _),fun i x hx=>((h.lb i x hx).on (ju hs (by omega))).wide (yq hz hG _),hn⟩
def uK(G:Nat→Nat)(w:World)(t:Nat):Nat→Nat:=fun b=>if b<w.heap.size then G b else t
theorem uD{G:Nat→Nat}{w:World}{t b:Nat}(h:b<w.heap.size):uK G w t b=G b:=if_pos h
theorem xz{G:Nat→Nat}{w:World}{t b:Nat}(h:w.heap.size≤b):uK G w t b=t:=if_neg (by omega)
theorem zGrP.later{w0 w w':World}{G:Nat→Nat}{rv lv:Value}{rs ls:List zNC}{C:Nat→Prop}(h:zGrP w0 G w rv lv rs ls)(k:Keep C w w')(hC:∀b,C b→G b=3)(t:Nat)(hw:w0.heap.size≤w.heap.size):zGrP w0 (uK G w t) w' rv lv rs ls :=
 h.on k.size (fun b hb hg=>k.block b hb (fun q=>hg (hC b q))) (fun b hb=>uD hb) (fun b hb=>by
  by_cases e:b<w.heap.size
  ·rw[uD e]at hb;exact h.new b hb
  ·omega)
theorem udF{G:Nat→Nat}{w w':World}{t b:Nat}(h:New w w' b):zTg (uK G w t) w' t b:=⟨h.2,xz h.1⟩
theorem zGrP.addRule{w0 W2 W4:World}{G:Nat→Nat}{rv v4 lv:Value}{rs ls:List zNC}{x:zNC}(h:zGrP w0 G W2 rv lv rs ls)(hz:w0.heap.size≤W2.heap.size)(hn:Ints (zTg G W2 2) .u8 W2 x.na x.d.nm.length (lf x.d.nm))(hb:BodP (zTg G W2 (4+2*rs.length)) W2 (.slice x.ba x.d.bd.length x.bc) x.d.bd)
  (own:OwnC (fun b=>zTg G W2 0 b∨W2.heap.size≤b) W4 v4 2 (rs.length+1) (rs.flatMap vF++vF x)) (g4:Grew (zTg G W2 0) W2 W4):zGrP w0 (uK G W2 0) W4 v4 lv (rs++[x]) ls:=by
 have z4:=g4.size;have st:∀{t:Nat},t≠0→Stay (zTg G W2 t) W2 W4:=fun {t} ht b hb=>g4.block b hb.1 (fun q=>ht (hb.2.symm.trans q.2))
 have wd:∀t b,zTg G W2 t b→zTg (uK G W2 0) W4 t b:=yq z4 (fun b hb=>uD hb)
 refine⟨?_,uo (h.labs.on (st (by omega))) (wd 1),fun y hy=>?_,fun y hy=>((h.ln y hy).on (st (by omega))).wide (wd 2),fun i y hy=>?_,fun i y hy=>((h.lb i y hy).on (st (by omega))).wide (wd _),fun b hb=>?_⟩
 ·have e1:(rs++[x]).length=rs.length+1:=by simp
  have e2:(rs++[x]).flatMap vF=rs.flatMap vF++vF x:=by simp
  rw[e1,e2];rcases own with⟨_,q,_⟩|⟨g,cap,e,hq,h3,h4,h5,h6⟩
  ·omega
  refine .inr ⟨g,cap,e,?_,h3,h4,h5,h6⟩;have hg:g<W4.heap.size:=by
   have hlen:0<(rs.flatMap vF++vF x).length:=by rw[h3];omega
   have h:=h5 0 hlen;rw[List.getElem?_eq_getElem hlen]at h;exact ub h
  rcases hq with q | q
  ·exact wd 0 g q
  ·exact⟨hg,xz q⟩
 ·rcases List.mem_append.1 hy with q | q
  ·exact ((h.rn y q).on (st (by omega))).wide (wd 2)
  ·obtain rfl:=List.mem_singleton.1 q
   exact (hn.on (st (by omega))).wide (wd 2)
 ·by_cases e:i<rs.length
  ·rw[List.getElem?_append_left e]at hy
   exact ((h.rb i y hy).on (st (by omega))).wide (wd _)
  ·rw[List.getElem?_append_right (by omega)]at hy
   have hi:i=rs.length:=by
    have:=(List.getElem?_eq_some_iff.1 hy).1;simp at this;omega
   subst hi;simp at hy;subst hy;exact (hb.on (st (by omega))).wide (wd _)
 ·by_cases e:b<W2.heap.size
  ·rw[uD e]at hb;exact h.new b hb
  ·omega
theorem zGrP.addLabel{w0 W2 W4:World}{G:Nat→Nat}{rv v4 lv:Value}{rs ls:List zNC}{x:zNC}(h:zGrP w0 G W2 rv lv rs ls)(hz:w0.heap.size≤W2.heap.size)(hn:Ints (zTg G W2 2) .u8 W2 x.na x.d.nm.length (lf x.d.nm))(hb:BodP (zTg G W2 (5+2*ls.length)) W2 (.slice x.ba x.d.bd.length x.bc) x.d.bd)
  (own:OwnC (fun b=>zTg G W2 1 b∨W2.heap.size≤b) W4 v4 3 (ls.length+1) (ls.flatMap vC++vC x)) (g4:Grew (zTg G W2 1) W2 W4):zGrP w0 (uK G W2 1) W4 rv v4 rs (ls++[x]):=by
 have z4:=g4.size;have st:∀{t:Nat},t≠1→Stay (zTg G W2 t) W2 W4:=fun {t} ht b hb=>g4.block b hb.1 (fun q=>ht (hb.2.symm.trans q.2))
 have wd:∀t b,zTg G W2 t b→zTg (uK G W2 1) W4 t b:=yq z4 (fun b hb=>uD hb)
 refine⟨uo (h.rules.on (st (by omega))) (wd 0),?_,fun y hy=>((h.rn y hy).on (st (by omega))).wide (wd 2),fun y hy=>?_,fun i y hy=>((h.rb i y hy).on (st (by omega))).wide (wd _),fun i y hy=>?_,fun b hb=>?_⟩
 ·have e1:(ls++[x]).length=ls.length+1:=by simp
  have e2:(ls++[x]).flatMap vC=ls.flatMap vC++vC x:=by simp
  rw[e1,e2];rcases own with⟨_,q,_⟩|⟨g,cap,e,hq,h3,h4,h5,h6⟩
  ·omega
  refine .inr ⟨g,cap,e,?_,h3,h4,h5,h6⟩;have hg:g<W4.heap.size:=by
   have hlen:0<(ls.flatMap vC++vC x).length:=by rw[h3];omega
   have h:=h5 0 hlen;rw[List.getElem?_eq_getElem hlen]at h;exact ub h
  rcases hq with q | q
  ·exact wd 1 g q
  ·exact⟨hg,xz q⟩
 ·rcases List.mem_append.1 hy with q | q
  ·exact ((h.ln y q).on (st (by omega))).wide (wd 2)
  ·obtain rfl:=List.mem_singleton.1 q
   exact (hn.on (st (by omega))).wide (wd 2)
 ·by_cases e:i<ls.length
  ·rw[List.getElem?_append_left e]at hy
   exact ((h.lb i y hy).on (st (by omega))).wide (wd _)
  ·rw[List.getElem?_append_right (by omega)]at hy
   have hi:i=ls.length:=by
    have:=(List.getElem?_eq_some_iff.1 hy).1;simp at this;omega
   subst hi;simp at hy;subst hy;exact (hb.on (st (by omega))).wide (wd _)
 ·by_cases e:b<W2.heap.size
  ·rw[uD e]at hb;exact h.new b hb
  ·omega
theorem zgetElem?_set'{α:Type}{l:List α}{i j:Nat}{x y z:α}(hx:l[i]? = some x)(h:(l.set i y)[j]? = some z):(j=i∧z=y)∨(j≠i∧l[j]? = some z):=by
 have hi:=(List.getElem?_eq_some_iff.1 hx).1;by_cases e:j=i
 ·subst e
  rw[List.getElem?_set_self hi]at h;exact .inl ⟨rfl,(Option.some.inj h).symm⟩
 ·rw[List.getElem?_set_ne (by omega)]at h
  exact .inr ⟨e,h⟩
theorem jw{α:Type}{l:List α}{i:Nat}{y z:α}(h:z∈l.set i y):z=y∨z∈l:=(List.mem_or_eq_of_mem_set h).symm
theorem zGrP.putR{w0 w:World}{G:Nat→Nat}{lv:Value}{rs ls:List zNC}{g n c i j:Nat}{x y:zNC}{u:Value}(h:zGrP w0 G w (.slice (some ⟨g,0,none⟩) n c) lv rs ls)(hx:rs[i]? = some x)(hj:j<2)(hy:vF y=(vF x).set j u)(hg:zTg G w 0 g)(hn:Ints (zTg G w 2) .u8 w y.na y.d.nm.length (lf y.d.nm))(hb:BodP (zTg G w (4+2*i)) w (.slice y.ba y.d.bd.length y.bc) y.d.bd) :
  zGrP w0 G (w.setCell ⟨g,i*2+j,none⟩ u) (.slice (some ⟨g,0,none⟩) n c) lv (rs.set i y) ls:=by
 have hi:=(List.getElem?_eq_some_iff.1 hx).1;have st:∀{t:Nat},t≠0→Stay (zTg G w t) w (w.setCell ⟨g,i*2+j,none⟩ u):=fun {t} ht b hb=>Below.heap_setCell _ _ _ _ (fun e=>ht (by rw[←hb.2,e];exact hg.2))
 have wd:∀t b,zTg G w t b→zTg G (w.setCell ⟨g,i*2+j,none⟩ u) t b:=yq (by rw[ul];exact Nat.le_refl _) (fun b hb=>rfl)
 have hn0:n=rs.length:=by
  rcases h.rules with⟨e,_⟩|⟨g',cap,e,_⟩
  ·cases e
  ·injection e
 refine⟨?_,uo (h.labs.on (st (by omega))) (wd 1),fun z hz=>?_,fun z hz=>((h.ln z hz).on (st (by omega))).wide (wd 2),fun k z hz=>?_,fun k z hz=>((h.lb k z hz).on (st (by omega))).wide (wd _),h.new⟩
 ·have hr:=h.rules
  rw[hn0]at hr ⊢;have:=uo (OwnC.put hr (j:=i*2+j) (by rw[yA vF 2 kF];omega) u) (wd 0)
  rw[kI vF 2 kF rs i j x y u hx hj hy]at this;rw[List.length_set];exact this
 ·rcases jw hz with rfl | q
  ·exact (hn.on (st (by omega))).wide (wd 2)
  ·exact ((h.rn z q).on (st (by omega))).wide (wd 2)
 ·rcases zgetElem?_set' hx hz with⟨rfl,rfl⟩|⟨_,q⟩
  ·exact (hb.on (st (by omega))).wide (wd _)
  ·exact ((h.rb k z q).on (st (by omega))).wide (wd _)
theorem zGrP.putL{w0 w:World}{G:Nat→Nat}{rv:Value}{rs ls:List zNC}{g n c i j:Nat}{x y:zNC}{u:Value}(h:zGrP w0 G w rv (.slice (some ⟨g,0,none⟩) n c) rs ls)(hx:ls[i]? = some x)(hj:j<3)(hy:vC y=(vC x).set j u)(hg:zTg G w 1 g)(hn:Ints (zTg G w 2) .u8 w y.na y.d.nm.length (lf y.d.nm))(hb:BodP (zTg G w (5+2*i)) w (.slice y.ba y.d.bd.length y.bc) y.d.bd) :
  zGrP w0 G (w.setCell ⟨g,i*3+j,none⟩ u) rv (.slice (some ⟨g,0,none⟩) n c) rs (ls.set i y):=by
 have hi:=(List.getElem?_eq_some_iff.1 hx).1;have st:∀{t:Nat},t≠1→Stay (zTg G w t) w (w.setCell ⟨g,i*3+j,none⟩ u):=fun {t} ht b hb=>Below.heap_setCell _ _ _ _ (fun e=>ht (by rw[←hb.2,e];exact hg.2))
 have wd:∀t b,zTg G w t b→zTg G (w.setCell ⟨g,i*3+j,none⟩ u) t b:=yq (by rw[ul];exact Nat.le_refl _) (fun b hb=>rfl)
 have hn0:n=ls.length:=by
  rcases h.labs with⟨e,_⟩|⟨g',cap,e,_⟩
  ·cases e
  ·injection e
 refine⟨uo (h.rules.on (st (by omega))) (wd 0),?_,fun z hz=>((h.rn z hz).on (st (by omega))).wide (wd 2),fun z hz=>?_,fun k z hz=>((h.rb k z hz).on (st (by omega))).wide (wd _),fun k z hz=>?_,h.new⟩
 ·have hr:=h.labs
  rw[hn0]at hr ⊢;have:=uo (OwnC.put hr (j:=i*3+j) (by rw[yA vC 3 jt];omega) u) (wd 1)
  rw[kI vC 3 jt ls i j x y u hx hj hy]at this;rw[List.length_set];exact this
 ·rcases jw hz with rfl | q
  ·exact (hn.on (st (by omega))).wide (wd 2)
  ·exact ((h.ln z q).on (st (by omega))).wide (wd 2)
 ·rcases zgetElem?_set' hx hz with⟨rfl,rfl⟩|⟨_,q⟩
  ·exact (hb.on (st (by omega))).wide (wd _)
  ·exact ((h.lb k z q).on (st (by omega))).wide (wd _)
theorem zGrP.ruleAt{w0 w:World}{G:Nat→Nat}{rv lv:Value}{rs ls:List zNC}(h:zGrP w0 G w rv lv rs ls){i:Nat}{x:zNC}(hx:rs[i]? = some x):∃g c,rv=.slice (some ⟨g,0,none⟩) rs.length c∧zTg G w 0 g∧rs.length≤c∧w.cell? ⟨g,i*2,none⟩=some (.slice x.na x.d.nm.length x.nc)∧w.cell? ⟨g,i*2+1,none⟩=some (.slice x.ba x.d.bd.length x.bc)∧w.frozen? ⟨g,i*2,none⟩=false∧w.frozen? ⟨g,i*2+1,none⟩=false:=by
 have hi:=(List.getElem?_eq_some_iff.1 hx).1;obtain⟨g,c,e,hq,hc,hcell⟩:=h.rules.at_ (by omega)
 rw[yA vF 2 kF]at hcell;have h0:=hcell (i*2) (by omega)
 have h1:=hcell (i*2+1) (by omega)
 have f0:=vn vF 2 kF rs i 0 x hx (by omega)
 have f1:=vn vF 2 kF rs i 1 x hx (by omega)
 exact⟨g,c,e,hq,hc,h0.1.trans f0,h1.1.trans f1,h0.2,h1.2⟩
theorem zGrP.labelAt{w0 w:World}{G:Nat→Nat}{rv lv:Value}{rs ls:List zNC}(h:zGrP w0 G w rv lv rs ls){i:Nat}{x:zNC}(hx:ls[i]? = some x):∃g c,lv=.slice (some ⟨g,0,none⟩) ls.length c∧zTg G w 1 g∧ls.length≤c∧w.cell? ⟨g,i*3,none⟩=some (.slice x.na x.d.nm.length x.nc)∧w.cell? ⟨g,i*3+1,none⟩=some (.bool x.d.has)∧w.cell? ⟨g,i*3+2,none⟩=some (.slice x.ba x.d.bd.length x.bc)∧w.frozen? ⟨g,i*3+1,none⟩=false∧w.frozen? ⟨g,i*3+2,none⟩=false:=by
 have hi:=(List.getElem?_eq_some_iff.1 hx).1;obtain⟨g,c,e,hq,hc,hcell⟩:=h.labs.at_ (by omega)
 rw[yA vC 3 jt]at hcell;have h0:=hcell (i*3) (by omega)
 have h1:=hcell (i*3+1) (by omega)
 have h2:=hcell (i*3+2) (by omega)
 have f0:=vn vC 3 jt ls i 0 x hx (by omega)
 have f1:=vn vC 3 jt ls i 1 x hx (by omega)
 have f2:=vn vC 3 jt ls i 2 x hx (by omega)
 exact⟨g,c,e,hq,hc,h0.1.trans f0,h1.1.trans f1,h2.1.trans f2,h1.2,h2.2⟩
def znode(x:zNL):uj:=⟨x.nm.length,lf x.nm,x.has,x.bd.length,df x.bd⟩
def zgram(rs ls:List zNL):Gr:=⟨rs.length,fun i=>znode (rs.getD i default),ls.length,fun i=>znode (ls.getD i default)⟩
theorem ueR{l:List zNC}{i:Nat}{x:zNC}(h:l[i]? = some x):(l.map (·.d)).getD i default=x.d:=by rw[List.getD_eq_getElem?_getD,List.getElem?_map,h];rfl
theorem zGrP.zgram{w0 w:World}{G:Nat→Nat}{rv lv:Value}{rs ls:List zNC}(h:zGrP w0 G w rv lv rs ls):∃ra rc la lc,rv=.slice ra rs.length rc∧lv=.slice la ls.length lc∧GramX (New w0 w) w ra la (zgram (rs.map (·.d)) (ls.map (·.d))):=by
 have wd:∀{t:Nat},t≠3→∀b,zTg G w t b→New w0 w b:=fun {t} ht b hb=>⟨h.new b (by rw[hb.2];exact ht),hb.1⟩
 obtain⟨ra,rc,er⟩:=um h.rules;obtain⟨la,lc,el⟩:=um h.labs;refine⟨ra,rc,la,lc,er,el,⟨?_,?_⟩⟩
 ·by_cases h0:rs.length=0
  ·exact .inl (by show (rs.map (·.d)).length=0;rw[List.length_map];exact h0)
  ·obtain⟨g,c,e,hq,hc,hcell⟩:=h.rules.at_ (by omega)
   rw[er]at e;obtain rfl:ra=some ⟨g,0,none⟩:=by injection e
   refine .inr ⟨g,0,rfl,wd (by omega) g hq,fun i hi=>?_⟩
   have hi':i<rs.length:=by
    have:i<(rs.map (·.d)).length:=hi
    rwa [List.length_map]at this
   have hx:rs[i]? = some rs[i]:=List.getElem?_eq_getElem hi';have en:(Go.Proofs.YthicmmhmmfhncaaGreat.zgram (rs.map (·.d)) (ls.map (·.d))).rule i=znode rs[i].d:=by show znode _=_;rw[ueR hx]
   rw[en];obtain⟨g',c',e',_,_,q0,q1,_,_⟩:=h.ruleAt hx;rw[er]at e';obtain rfl:g'=g:=by injection e' with e1;injection e1 with e1;injection e1 with e1;exact e1.symm
   have hb:=h.rb i _ hx;obtain⟨_,cb,eb,hcb⟩:=hb.shape;injection eb with _ _ eb
   rw[Nat.zero_add];exact⟨⟨⟨_,_,q0,(h.rn _ (List.getElem_mem hi')).wide (wd (by omega))⟩,⟨_,_,q1,hb.ops.wide (wd (by omega))⟩⟩,⟨_,_,q1,by rw[eb];exact hcb⟩⟩
 ·by_cases h0:ls.length=0
  ·exact .inl (by show (ls.map (·.d)).length=0;rw[List.length_map];exact h0)
  ·obtain⟨g,c,e,hq,hc,hcell⟩:=h.labs.at_ (by omega)
   rw[el]at e;obtain rfl:la=some ⟨g,0,none⟩:=by injection e
   refine .inr ⟨g,0,rfl,wd (by omega) g hq,fun i hi=>?_⟩
   have hi':i<ls.length:=by
    have:i<(ls.map (·.d)).length:=hi
    rwa [List.length_map]at this
   have hx:ls[i]? = some ls[i]:=List.getElem?_eq_getElem hi';have en:(Go.Proofs.YthicmmhmmfhncaaGreat.zgram (rs.map (·.d)) (ls.map (·.d))).lab i=znode ls[i].d:=by show znode _=_;rw[ueR hx]
   rw[en];obtain⟨g',c',e',_,_,q0,q1,q2,_,_⟩:=h.labelAt hx;rw[el]at e';obtain rfl:g'=g:=by injection e' with e1;injection e1 with e1;injection e1 with e1;exact e1.symm
   have hb:=h.lb i _ hx;obtain⟨_,cb,eb,hcb⟩:=hb.shape;injection eb with _ _ eb
   rw[Nat.zero_add];exact⟨⟨⟨_,_,q0,(h.ln _ (List.getElem_mem hi')).wide (wd (by omega))⟩,q1,⟨_,_,q2,hb.ops.wide (wd (by omega))⟩⟩,⟨_,_,q2,by rw[eb];exact hcb⟩⟩
theorem zGrP.nil(w0:World):zGrP w0 (fun _=>3) w0 (.slice none 0 0) (.slice none 0 0) [] [] :=
 ⟨.inl ⟨rfl,rfl,rfl⟩,.inl ⟨rfl,rfl,rfl⟩,fun x hx=>(by cases hx),fun x hx=>(by cases hx),fun i x hx=>(by simp at hx),fun i x hx=>(by simp at hx),fun b hb=>absurd rfl hb⟩
end
section
open Go.RowKit
open M (OpD uj Gr)
def bytesOf(s:ByteArray):List Int:=s.data.toList.map fun b=>(b.toNat:Int)
theorem qt(s:ByteArray):(bytesOf s).length=s.size:=by unfold bytesOf;rw[List.length_map,Array.length_toList];rfl
def upZ(z:List Int)(w w':World)(v:Value):Prop:=∃na nc,v=.slice na z.length nc∧Ints (New w w') .u8 w' na z.length (lf z)∧Keep (fun _=>False) w w'
theorem udJ(w:World)(s:ByteArray):(convert 9 22 (.string s)).run Tryz.prog w=.ok (.slice (some ⟨w.heap.size,0,none⟩) s.size (grownCap w s.size 0 5)) (Lib.bytesWorld w 5 s) :=
 Lib.run_convert_string_bytes (P:=Tryz.prog) w 9 22 5 s Tryz.underlying9 Tryz.underlying22 Tryz.underlying5
theorem uiM(w:World)(s:ByteArray):upZ (bytesOf s) w (Lib.bytesWorld w 5 s) (.slice (some ⟨w.heap.size,0,none⟩) s.size (grownCap w s.size 0 5)):=by
 have hsz:=Lib.bytesWorld_size w 5 s;refine⟨_,_,by rw[qt],.inr ⟨w.heap.size,0,rfl,⟨Nat.le_refl _,by omega⟩,fun j hj=>?_⟩,⟨rfl,rfl,rfl,by omega,fun k hk _=>Lib.bytesWorld_at_old w 5 s k hk⟩⟩
 rw[qt]at hj;rw[Nat.zero_add,Lib.bytesWorld_cell w 5 s j hj];have hj':j<s.data.toList.length:=by rw[Array.length_toList];exact hj
 simp only[lf,bytesOf,List.getD_eq_getElem?_getD,List.getElem?_map];rw[List.getElem?_eq_getElem hj'];rfl
theorem uiN{ops:Array Oper}{rest:List Oper}{o:Oper}{a:Act}{P':Exit→Act→World→Prop}{w:World}(hgd:o.guard=none)(x:Operand)(ho:o.op=.convert 9 22 x){s:ByteArray}(hx:a.eval x=.string s)
  (h:∀na nc w',Ints (New w w') .u8 w' na (bytesOf s).length (lf (bytesOf s))→Keep (fun _=>False) w w'→wpList Tryz.prog ops P' rest (a.put o.dst (.slice na (bytesOf s).length nc)) w'):wpList Tryz.prog ops P' (o::rest) a w:=by
 refine wpList_plain hgd fun K hK=>?_
 obtain⟨na,nc,e,h1,h2⟩:=uiM w s;have hr:=udJ w s;rw[e]at hr;unfold Oper.wp execOp;simp only[ho,Sem.run_bind,Sem.run_pure,Result.andThen_ok,hx,hr];exact hK _ _ (h na nc _ h1 h2)
def xC(u:Nat):List UInt8:=if h:u<10 then [UInt8.ofNat (48+u)] else xC (u / 10)++[UInt8.ofNat (48+u%10)]
termination_by u
decreasing_by omega
theorem udK{u:Nat}(h:u<10):xC u = [UInt8.ofNat (48+u)]:=by rw[xC,dif_pos h]
set_option maxHeartbeats 1000000 in
theorem ueY(u:Nat)(h:u<10)(w:World):Calls Tryz.prog 82 #[.int .i64 u] w fun e w'=>e=.returned (.string ⟨(xC u).toArray⟩)∧w'=w:=by
 rw[udK h];have hd:(u:Int)<10:=by omega
 go_enter Tryz.func82,Tryz.ntmps82;obtain rfl | rfl | rfl | rfl | rfl | rfl | rfl | rfl | rfl | rfl:u=0∨u=1∨u=2∨u=3∨u=4∨u=5∨u=6∨u=7∨u=8∨u=9:=by omega
 all_goals
  go_wp2;go_ret;exact⟨rfl,rfl⟩
theorem ujP(a b:List UInt8):(⟨a.toArray⟩:ByteArray)++(⟨b.toArray⟩:ByteArray)=⟨(a++b).toArray⟩:=by
 apply ByteArray.ext
 simp
theorem qH(u:Nat):(xC u).length≤u+1:=by
 induction u using Nat.strongRecOn with
 |_ u ih =>
  by_cases h:u<10
  ·rw[udK h];simp
  ·have:=ih (u / 10) (by omega)
   rw[xC,dif_neg h];simp;omega
set_option maxHeartbeats 1000000 in
theorem uiO(u:Nat)(hu:u≤8388608)(w:World):Calls Tryz.prog 82 #[.int .i64 u] w fun e w'=>e=.returned (.string ⟨(xC u).toArray⟩)∧w'=w:=by
 induction u using Nat.strongRecOn generalizing w with
 |_ u ih =>
  by_cases h:u<10
  ·exact ueY u h w
  ·have hq:Int.tdiv (u:Int) 10=((u / 10:Nat):Int):=by rw[Int.tdiv_eq_ediv_of_nonneg (by omega)];omega
   have hr:Int.tmod (u:Int) 10=((u%10:Nat):Int):=by rw[Int.tmod_eq_emod_of_nonneg (by omega)];omega
   have hd:¬((u:Int)<10):=by omega
   have ih1:=ih (u / 10) (by omega) (by omega)
   have ih2:=ueY (u%10) (by omega)
   have hD:xC u=xC (u / 10)++xC (u%10):=by
    rw[udK (show u%10<10 by omega)]
    conv=>lhs;rw[xC,dif_neg h]
   have hA:=ujP (xC (u / 10)) (xC (u%10));rw[hD,←hA];have l1:=qH (u / 10);have l2:=qH (u%10);have hs:¬(9223372036854775807<(⟨(xC (u / 10)).toArray⟩:ByteArray).size+(⟨(xC (u%10)).toArray⟩:ByteArray).size):=by
    show ¬(9223372036854775807<(xC (u / 10)).length+(xC (u%10)).length);omega
   clear hA hD ih l1 l2;generalize hx:(⟨(xC (u / 10)).toArray⟩:ByteArray)=x at *;generalize hy:(⟨(xC (u%10)).toArray⟩:ByteArray)=y at *;go_enter Tryz.func82,Tryz.ntmps82;go_wp2_with fail;refine (ih1 _).mono ?_;rintro e w1 ⟨rfl,rfl⟩;go_wp2_with fail;refine (ih2 _).mono ?_;rintro e w2 ⟨rfl,rfl⟩;go_wp2;go_ret;exact⟨rfl,rfl⟩
set_option maxHeartbeats 2000000 in
theorem kH(i:Nat)(hi:i≤1048576)(w:World):Calls Tryz.prog 61 #[.int .i64 (i:Int)] w fun e w'=>∃v,e=.returned v∧upZ [((115+i%8:Nat):Int)] w w' v:=by
 obtain⟨q,hq⟩:∃q:Nat,i%8=q:=⟨_,rfl⟩;have hq':(i:Int)%8=(q:Int):=by omega
 have hql:q<8:=by omega
 rw[hq];clear hq;go_enter Tryz.func61,Tryz.ntmps61;rcases (show q=0∨q=1∨q=2∨q=3∨q=4∨q=5∨q=6∨q=7 by omega) with rfl | rfl | rfl | rfl | rfl | rfl | rfl | rfl
 all_goals
  go_wp2_with (refine uiN rfl _ rfl rfl ?_;intro na nc w' h1 h2;have HE:Hid (Ints (New w w') .u8 w' na 1 (lf _)):=h1;have HK:Hid (Keep (fun _=>False) w w'):=h2;clear h1 h2)
  go_ret;exact⟨_,rfl,na,nc,rfl,HE.out,HK.out⟩
end
end Go.Proofs.YthicmmhmmfhncaaGreat
