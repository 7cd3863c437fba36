import Derived.Test.YthicmmhmmfhncaaGreatT14
import Derived.Test.YthicmmhmmfhncaaGreatT15
import Derived.Test.YthicmmhmmfhncaaGreatT16
set_option linter.unusedVariables false
set_option linter.unusedSimpArgs false
namespace Go.Proofs.YthicmmhmmfhncaaGreat
section
open Go.RowKit
open M (OpD uj Gr)
def ugu(t:Tp)(i:Nat):(List zNL×List zNL)×Nat :=
 let k:=t.v i%24
 let g:=qc t (t.n i)
 if k=0 then ujO t (t.n i)
 else if k<4 then ucb t g.2 g.1.1 g.1.2
 else if k<7 then ueV t g.2 g.1.1 g.1.2
 else g
theorem unp{b:List OpD}(k m c:Nat)(h:0<b.length):0<(qq k m c b).length:=by
 unfold qq;split
 ·simp[uw];omega
 ·exact h
theorem ueQ(t:Tp)(n m i0:Nat):∀(k:Nat) (x:zNL),x∈(vG t n m i0 k).1→0<x.bd.length
 |0,x,h=>by cases h
 |k+1,x,h=>by
  rw[vG]at h;rcases List.mem_append.1 h with q | q
  ·exact ueQ t n m i0 k x q
  ·obtain rfl:=List.mem_singleton.1 q
   exact unp _ _ _ (uiK _ _ (uiJ _ _ _ (yz _ _ _ _ _ _ _)))
theorem ucD(t:Tp)(i:Nat):0<(qc t i).1.1.length∧(qc t i).1.1.length≤4∧(qc t i).1.2.length≤3∧∀x∈(qc t i).1.1,0<x.bd.length∧Lil 300 x.bd:=by
 unfold qc;dsimp only;refine⟨by rw[jR];omega,by rw[jR];omega,by rw[jB,jT];omega,fun x hx=>⟨ueQ _ _ _ _ _ x hx,jU _ _ _ _ _ x hx⟩⟩
theorem uc6{t:Tp}{R i:Nat}{w W2 W3:World}{G:Nat→Nat}{rv lv:Value}{rs ls:List zNC}{p:(List zNL×List zNL)×Nat}(hon:RdOn t R i w W2)(hrb:w.heap.size<W2.heap.size)(hR:R<w.heap.size)(h:zGrP W2 G W3 rv lv rs ls)(hrd:RdA t R W3 p.2)(k:Keep (fun b=>b=R∨W2.heap.size≤b) W2 W3)(h1:rs.map (·.d)=p.1.1)(h2:ls.map (·.d)=p.1.2) :
  DrG t R p w (.returned (.agg #[rv,lv])) ((W3.setCell ⟨w.heap.size,0,none⟩ rv).setCell ⟨w.heap.size,1,none⟩ lv):=by
 have hG:G w.heap.size=3:=h.tag hrb;have hz:=hon.2.size;refine⟨rv,lv,G,rs,ls,rfl,((h.set hG).set hG).base (by omega),h1,h2,RdOn.set (RdOn.set ⟨hrd,uaJ hon.2 k (fun b q=>?_)⟩ (Nat.le_refl _) hR) (Nat.le_refl _) hR⟩
 rcases q with q | q
 ·exact .inl q
 ·exact .inr (by omega)
set_option maxRecDepth 100000 in
set_option maxHeartbeats 20000000 in
theorem ueu(t:Tp)(R i:Nat)(w:World)(h:RdA t R w i)(p:(List zNL×List zNL)×Nat)(hp:ugu t i=p):Calls Tryz.prog 11 #[.pointer (some ⟨R,0,none⟩)] w (DrG t R p w):=by
 have hv:=t.v_le i;have hRw:=h.lt;unfold ugu at hp;dsimp only at hp;go_enter Tryz.func11,Tryz.ntmps11;go_wp2_with fail;refine (uN t R i _ (h.keep (Keep.alloc (fun _=>False) _ _) (fun _ q=>q.elim))).mono ?_
 rintro e W2 ⟨rfl,hon⟩;have HR:Hid (RdOn t R (t.n i) w W2):=⟨hon.1,(Keep.alloc _ _ _).trans hon.2⟩;have HTW:Hid (zTwo w.heap.size W2):=(ja w).keep hon.2 (fun e=>by omega)
 have hrb:w.heap.size<W2.heap.size:=ub HTW.out.1;clear hon h;generalize t.v i=ki at *;generalize t.n i=i1 at *;obtain⟨q,hq⟩:∃x,ki%24=x:=⟨_,rfl⟩;have hq':(ki:Int)%24=(q:Int):=by omega
 have hql:q<24:=by omega
 rw[hq]at hp;clear hq;by_cases q0:q=0
 ·rw[if_pos q0]at hp
  subst q0;go_wp2_with fail;refine (ugD t R i1 W2 HR.out.1 p hp).mono ?_;rintro e W3 ⟨rv,lv,G,rs,ls,rfl,hgr,hrs,hls,hon⟩;obtain⟨ra,rc,rfl⟩:=um hgr.rules;obtain⟨la,lc,rfl⟩:=um hgr.labs;obtain⟨s0,s1,sf0,sf1⟩:=HTW.out.keep hon.2 (fun e=>by omega)
  have HFF:Hid (DrG t R p w (.returned (.agg #[.slice ra rs.length rc,.slice la ls.length lc])) ((W3.setCell ⟨w.heap.size,0,none⟩ (.slice ra rs.length rc)).setCell ⟨w.heap.size,1,none⟩ (.slice la ls.length lc))):=uc6 HR.out hrb hRw hgr hon.1 (hon.2.mono (fun b e=>.inl e)) hrs hls
  clear hgr hrs hls hon hp;go_wp2;refine bodyPost_ret (v:=.agg #[.slice ra rs.length rc,.slice la ls.length lc]) ?_ rfl ?_
  ·simp[results,Tryz.f11,go_sem, *]
  ·exact HFF.out
 have q0':¬(q:Int)=0:=by omega
 rw[if_neg q0]at hp;obtain⟨f1,f2,f3,f4⟩:=ucD t i1;obtain⟨g,hg⟩:∃x,qc t i1=x:=⟨_,rfl⟩;rw[hg]at hp f1 f2 f3 f4;have HF4:Hid (∀x∈g.1.1,0<x.bd.length∧Lil 300 x.bd):=f4;clear f4;go_wp2_with fail;refine (uaK t R i1 W2 HR.out.1 g hg).mono ?_;rintro e W3 ⟨rv,lv,G,rs,ls,rfl,hgr,hrs,hls,hon⟩;obtain⟨ra,rc,rfl⟩:=um hgr.rules;obtain⟨la,lc,rfl⟩:=um hgr.labs;have hR2:R<W2.heap.size:=HR.out.1.lt;have hz3:=hon.2.size;have HG:Hid (zGrP W2 (uK G W3 3) (W3.alloc (.cells #[.slice ra rs.length rc,.slice la ls.length lc] 26)) (.slice ra rs.length rc) (.slice la ls.length lc) rs ls):=hgr.later (Keep.alloc (fun _=>False) _ _) (fun _ e=>e.elim) 3 hz3
 have HRD:Hid (RdA t R (W3.alloc (.cells #[.slice ra rs.length rc,.slice la ls.length lc] 26)) g.2):=hon.1.keep (Keep.alloc (fun _=>False) _ _) (fun _ e=>e.elim)
 have HK4:Hid (Keep (fun b=>b=R) W2 (W3.alloc (.cells #[.slice ra rs.length rc,.slice la ls.length lc] 26))):=hon.2.trans (Keep.alloc _ _ _)
 have HM:Hid (rs.map (·.d)=g.1.1∧ls.map (·.d)=g.1.2):=⟨hrs,hls⟩
 have hrl:rs.length=g.1.1.length:=by rw[←hrs,List.length_map]
 have hll:ls.length=g.1.2.length:=by rw[←hls,List.length_map]
 have HSM:Hid (∀x∈rs,0<x.d.bd.length∧Lil 300 x.d.bd):=fun x hx=>HF4.out x.d (by rw[←hrs];exact List.mem_map.2 ⟨x,hx,rfl⟩)
 have HLN:Hid (0<rs.length∧rs.length≤4∧ls.length≤3):=⟨by omega,by omega,by omega⟩
 have hb4:=World.alloc_heap_new W3 (.cells #[.slice ra rs.length rc,.slice la ls.length lc] 26);have v0:(W3.alloc (.cells #[.slice ra rs.length rc,.slice la ls.length lc] 26)).cell? ⟨W3.heap.size,0,none⟩=some (.slice ra rs.length rc):=by simp only[World.cell?,hb4];rfl
 have v1:(W3.alloc (.cells #[.slice ra rs.length rc,.slice la ls.length lc] 26)).cell? ⟨W3.heap.size,1,none⟩=some (.slice la ls.length lc):=by simp only[World.cell?,hb4];rfl
 clear hgr hrs hls hon hrl hll hg f1 f2 f3 hb4;go_upto_region 5 with fail
 generalize W3.alloc (.cells #[.slice ra rs.length rc,.slice la ls.length lc] 26)=W4 at *;by_cases q4:q<4
 ·rw[if_pos q4]at hp
  have q4':(q:Int)<4:=by omega
  have HC:Hid (Calls Tryz.prog 30 #[.agg #[.slice ra rs.length rc,.slice la ls.length lc],.pointer (some ⟨R,0,none⟩)] W4 (DrX t R W2 p W4)):=ugN t R g.2 W2 W4 _ ra la rc lc rs ls HG.out HK4.out.size HRD.out hR2 HLN.out.1 (by have:=HLN.out.2.1;omega) (by have:=HLN.out.2.2;omega) (fun x hx=>⟨(HSM.out x hx).1,(HSM.out x hx).2.mono (by omega)⟩) p (by rw[HM.out.1,HM.out.2];exact hp)
  go_wp2_with fail;refine Calls.mono HC.out ?_;rintro e W5 ⟨rv5,lv5,G5,rs5,ls5,rfl,hgr5,hrs5,hls5,hrd5,hk5⟩;obtain⟨ra5,rc5,rfl⟩:=um hgr5.rules;obtain⟨la5,lc5,rfl⟩:=um hgr5.labs;have HKK:Keep (fun b=>b=R∨W2.heap.size≤b) W2 W5:=(HK4.out.mono (fun b e=>.inl e)).trans hk5
  obtain⟨s0,s1,sf0,sf1⟩:=HTW.out.keep HKK (fun e=>by omega)
  have HFF:Hid (DrG t R p w (.returned (.agg #[.slice ra5 rs5.length rc5,.slice la5 ls5.length lc5])) ((W5.setCell ⟨w.heap.size,0,none⟩ (.slice ra5 rs5.length rc5)).setCell ⟨w.heap.size,1,none⟩ (.slice la5 ls5.length lc5))):=uc6 HR.out hrb hRw hgr5 hrd5 HKK hrs5 hls5;clear hgr5 hrs5 hls5 hrd5 hk5 HKK hp v0 v1;go_wp2;refine bodyPost_ret (v:=.agg #[.slice ra5 rs5.length rc5,.slice la5 ls5.length lc5]) ?_ rfl ?_
  ·simp[results,Tryz.f11,go_sem, *]
  ·exact HFF.out
 have q4':¬(q:Int)<4:=by omega
 rw[if_neg q4]at hp;by_cases q7:q<7
 ·rw[if_pos q7]at hp
  have q7':(q:Int)<7:=by omega
  have HC:Hid (Calls Tryz.prog 31 #[.agg #[.slice ra rs.length rc,.slice la ls.length lc],.pointer (some ⟨R,0,none⟩)] W4 (DrX t R W2 p W4)):=uhS t R g.2 W2 W4 _ ra la rc lc rs ls HG.out HK4.out.size HRD.out hR2 HLN.out.1 (by have:=HLN.out.2.1;omega) (by have:=HLN.out.2.2;omega) (fun x hx=>⟨(HSM.out x hx).1,(HSM.out x hx).2.small (by omega)⟩) p (by rw[HM.out.1,HM.out.2];exact hp)
  go_wp2_with fail;refine Calls.mono HC.out ?_;rintro e W5 ⟨rv5,lv5,G5,rs5,ls5,rfl,hgr5,hrs5,hls5,hrd5,hk5⟩;obtain⟨ra5,rc5,rfl⟩:=um hgr5.rules;obtain⟨la5,lc5,rfl⟩:=um hgr5.labs;have HKK:Keep (fun b=>b=R∨W2.heap.size≤b) W2 W5:=(HK4.out.mono (fun b e=>.inl e)).trans hk5
  obtain⟨s0,s1,sf0,sf1⟩:=HTW.out.keep HKK (fun e=>by omega)
  have HFF:Hid (DrG t R p w (.returned (.agg #[.slice ra5 rs5.length rc5,.slice la5 ls5.length lc5])) ((W5.setCell ⟨w.heap.size,0,none⟩ (.slice ra5 rs5.length rc5)).setCell ⟨w.heap.size,1,none⟩ (.slice la5 ls5.length lc5))):=uc6 HR.out hrb hRw hgr5 hrd5 HKK hrs5 hls5;clear hgr5 hrs5 hls5 hrd5 hk5 HKK hp v0 v1;go_wp2;refine bodyPost_ret (v:=.agg #[.slice ra5 rs5.length rc5,.slice la5 ls5.length lc5]) ?_ rfl ?_
  ·simp[results,Tryz.f11,go_sem, *]
  ·exact HFF.out
 have q7':¬(q:Int)<7:=by omega
 rw[if_neg q7]at hp;subst hp;obtain⟨s0,s1,sf0,sf1⟩:=HTW.out.keep HK4.out (fun e=>by omega)
 have HFF:Hid (DrG t R g w (.returned (.agg #[.slice ra rs.length rc,.slice la ls.length lc])) ((W4.setCell ⟨w.heap.size,0,none⟩ (.slice ra rs.length rc)).setCell ⟨w.heap.size,1,none⟩ (.slice la ls.length lc))):=uc6 HR.out hrb hRw HG.out HRD.out (HK4.out.mono (fun b e=>.inl e)) HM.out.1 HM.out.2
 go_wp2;refine bodyPost_ret (v:=.agg #[.slice ra rs.length rc,.slice la ls.length lc]) ?_ rfl ?_
 ·simp[results,Tryz.f11,go_sem, *]
 ·exact HFF.out
end
section
open Go.RowKit
open M (OpD uj Gr)
def SmZ(z:List Int):Prop:=z.length≤5000∧∀x∈z,0≤x∧x≤255
def uhT(D:List OpD):Prop:=D.length≤5000∧∀x∈D,x.sl≤5000
def SmN(x:zNL):Prop:=SmZ x.nm∧uhT x.bd
def SmL(l:List zNL):Prop:=l.length≤5000∧∀x∈l,SmN x
theorem SmZ.byt{z:List Int}(h:SmZ z):Byt z.length (lf z):=fun i hi=>by
 unfold lf;rw[List.getD_eq_getElem?_getD,List.getElem?_eq_getElem hi];exact h.2 _ (List.getElem_mem hi)
theorem SmN.znode{x:zNL}(h:SmN x):yL (znode x):=by
 refine⟨Nat.le_trans h.1.1 (by omega),h.1.byt,Nat.le_trans h.2.1 (by omega),fun i hi=>?_⟩
 show (df x.bd i).sl≤1048576;rw[qe (List.getElem?_eq_getElem hi)];exact Nat.le_trans (h.2.2 _ (List.getElem_mem hi)) (by omega)
theorem SmL.at_{l:List zNL}(h:SmL l){i:Nat}(hi:i<l.length):yL (znode (l.getD i default)):=by
 rw[List.getD_eq_getElem?_getD,List.getElem?_eq_getElem hi];exact (h.2 _ (List.getElem_mem hi)).znode
theorem uhU{rs ls:List zNL}(h1:SmL rs)(h2:SmL ls):yb (zgram rs ls) :=
 ⟨Nat.le_trans h1.1 (by omega),Nat.le_trans h2.1 (by omega),fun i hi=>h1.at_ hi,fun i hi=>h2.at_ hi⟩
theorem Lil.sm{n:Nat}{D:List OpD}(h:Lil n D)(hn:n≤5000):uhT D:=⟨Nat.le_trans h.1 hn,fun x hx=>Nat.le_trans (h.2 x hx) (by omega)⟩
theorem ueZ(s:ByteArray)(hs:s.size≤5000):SmZ (bytesOf s):=by
 refine⟨by rw[qt];exact hs,fun x hx=>?_⟩
 obtain⟨b,_,rfl⟩:=List.mem_map.1 hx;have:=b.toNat_lt;omega
theorem SmL.snoc{l:List zNL}{x:zNL}(h:SmL l)(hl:l.length<5000)(hx:SmN x):SmL (l++[x]):=by
 refine⟨by rw[List.length_append];simp;omega,fun y hy=>?_⟩
 rcases List.mem_append.1 hy with q | q
 ·exact h.2 y q
 ·obtain rfl:=List.mem_singleton.1 q;exact hx
theorem SmL.set{l:List zNL}{x:zNL}(h:SmL l)(i:Nat)(hx:SmN x):SmL (l.set i x):=by
 refine⟨by rw[List.length_set];exact h.1,fun y hy=>?_⟩
 rcases jw hy with rfl | q
 ·exact hx
 ·exact h.2 y q
theorem SmL.nl{l:List zNL}(h:SmL l)(i:Nat):SmN (kW l i):=by
 unfold kW;rw[List.getD_eq_getElem?_getD];cases e:l[i]? with
 |none=>exact⟨⟨Nat.zero_le _,fun x hx=>by cases hx⟩,Nat.zero_le _,fun x hx=>by cases hx⟩
 |some y=>exact h.2 y (List.mem_of_getElem? e)
theorem udM(k:Nat)(hk:k≤300):SmL (xm k):=by
 induction k with
 |zero=>exact⟨Nat.zero_le _,fun x hx=>by cases hx⟩
 |succ k ih =>
  rw[xm];refine (ih (by omega)).snoc (by rw[ueW];omega) ⟨ueZ _ ?_,(uF (s:=ur 97) (by simp[ur])).sm (by omega)⟩
  have h:=qH k;unfold unu;rw[ByteArray.size_append];show 1+(xC k).length≤5000;omega
theorem udN(k:Nat)(hk:k≤300):SmL (xo k):=by
 induction k with
 |zero=>exact⟨Nat.zero_le _,fun x hx=>by cases hx⟩
 |succ k ih =>
  rw[xo];refine (ih (by omega)).snoc (by rw[ueX];omega) ⟨ueZ _ ?_,(uH 0 0).sm (by omega)⟩
  have h:=qH (1000+k);unfold uo7;rw[ByteArray.size_append];show 1+(xC (1000+k)).length≤5000;omega
theorem ugK(k:Nat):∀x∈xg k,x.sl≤5000:=by
 induction k with
 |zero=>intro x hx;obtain rfl:=List.mem_singleton.1 hx;exact Nat.zero_le _
 |succ k ih =>
  intro x hx;rw[xg]at hx;rcases List.mem_append.1 hx with q | q
  ·rcases List.mem_append.1 q with q | q
   ·exact ih x q
   ·obtain rfl:=List.mem_singleton.1 q;exact Nat.zero_le _
  ·obtain rfl:=List.mem_singleton.1 q;exact Nat.zero_le _
theorem ulX(n:Nat)(hn:n≤4000):uhT (uaO n):=by
 unfold uaO;split
 ·refine⟨by rw[List.length_append,jC];simp;omega,fun x hx=>?_⟩
  rcases List.mem_append.1 hx with q | q
  ·exact ugK _ x q
  ·obtain rfl:=List.mem_singleton.1 q;exact Nat.zero_le _
 ·exact⟨by rw[jC];omega,ugK _⟩
theorem ulY(j:Nat)(hj:j≤100):SmZ (xx j):=by
 refine⟨by rw[qF];omega,fun x hx=>?_⟩
 unfold xx at hx;rcases List.mem_cons.1 hx with rfl | q
 ·omega
 ·have:=(List.mem_replicate.1 q).2;omega
theorem uo8(t:Tp)(i:Nat):SmL (ujO t i).1.1∧SmL (ujO t i).1.2:=by
 have h3:t.v (t.n i)%3<3:=Nat.mod_lt _ (by omega)
 unfold ujO;dsimp only;generalize t.v (t.n i)%3=e at *;split
 ·exact⟨udM _ (by omega),udN _ (by omega)⟩
 split
 ·exact⟨udM _ (by omega),udN _ (by omega)⟩
 split
 ·refine⟨⟨by simp,fun x hx=>?_⟩,by simp,fun x hx=>by cases hx⟩
  obtain rfl:=List.mem_singleton.1 hx;exact⟨⟨by simp,fun y hy=>by obtain rfl:=List.mem_singleton.1 hy;omega⟩,ulX _ (by omega)⟩
 ·exact⟨(udM 2 (by omega)).set 1 ⟨ulY _ (by omega),(uF (s:=ur 97) (by simp[ur])).sm (by omega)⟩,udN 1 (by omega)⟩
theorem ue0(t:Tp)(n m i0:Nat):∀(k:Nat),k≤100→SmL (vG t n m i0 k).1
 |0,_=>⟨Nat.zero_le _,fun x hx=>by cases hx⟩
 |k+1,hk=>by
  have ih:=ue0 t n m i0 k (by omega)
  have hl:=jU t n m i0 (k+1);rw[vG]at hl ⊢;refine ih.snoc (by rw[jR];omega) ⟨⟨by simp,fun y hy=>?_⟩,(hl _ (List.mem_append.2 (.inr (List.mem_singleton.2 rfl)))).sm (by omega)⟩
  obtain rfl:=List.mem_singleton.1 hy;omega
theorem ulZ(k:Nat):SmZ (uab k):=by
 unfold uab;split
 ·exact⟨by simp,fun x hx=>by simp at hx;omega⟩
 ·split
  ·exact⟨by simp,fun x hx=>by simp at hx;omega⟩
  ·exact⟨by simp,fun x hx=>by simp at hx;omega⟩
theorem ujQ(t:Tp)(n i:Nat):uhT (jS t n i).1.2:=by
 have hs:Lil 1 (ui (yr t (t.n i)).1):=uF (Nat.le_trans (vw _ _) (by omega))
 unfold jS
 repeat' split
 ·exact (ye 6 (vg 4 (ye 7 hs) (uF (s:=[0,255]) (by simp)))).sm (by omega)
 ·exact (uH 0 0).sm (by omega)
 ·exact (uF (s:=[0,255]) (by simp)).sm (by omega)
 ·exact (vJ t n n 0 3 false (t.n i)).sm (by decide)
 ·exact⟨Nat.zero_le _,fun x hx=>by cases hx⟩
theorem ue1(t:Tp)(n i1:Nat):∀(k:Nat),k≤100→SmL (vm t n i1 k).1
 |0,_=>⟨Nat.zero_le _,fun x hx=>by cases hx⟩
 |k+1,hk=>by
  have ih:=ue1 t n i1 k (by omega)
  rw[vm];exact ih.snoc (by rw[jT];omega) ⟨ulZ k,ujQ _ _ _⟩
theorem unw(rs ls:List zNL)(k:Nat)(h:SmL ls):SmL (vP rs ls k):=by
 refine⟨by rw[jB];exact h.1,fun x hx=>?_⟩
 unfold vP at hx;obtain⟨i,hi,rfl⟩:=List.mem_mapIdx.1 hx;have hy:=h.2 _ (List.getElem_mem hi);split
 ·unfold ueS
  split
  ·exact hy
  split
  ·exact⟨hy.1,Nat.zero_le _,fun x hx=>by cases hx⟩
  ·exact⟨hy.1,(uH 0 0).sm (by omega)⟩
 ·exact hy
theorem ul0(t:Tp)(i:Nat):SmL (qc t i).1.1∧SmL (qc t i).1.2:=by
 unfold qc;dsimp only;exact⟨ue0 _ _ _ _ _ (by omega),unw _ _ _ (ue1 _ _ _ _ (by omega))⟩
theorem up0{D:List OpD}{n:Nat}(h:∀x∈D,x.sl≤n)(p:Nat):(df D p).sl≤n:=by
 unfold df;rw[List.getD_eq_getElem?_getD];cases e:D[p]? with
 |none=>exact Nat.zero_le _
 |some y=>exact h y (List.mem_of_getElem? e)
theorem kJ{D:List OpD}(f:OpD→OpD)(p:Nat)(h:D.length≤5000)(hs:∀x∈D,x.sl≤5000)(hf:(f (df D p)).sl≤5000):uhT (jW D p f):=by
 unfold jW;refine⟨by rw[List.length_set];exact h,fun x hx=>?_⟩
 rcases jw hx with rfl | q
 ·exact hf
 ·exact hs x q
theorem ugL{D:List OpD}(k:Int)(h:D.length≤4000)(hs:∀x∈D,x.sl≤5000):uhT (D++[opd k 0]):=by
 refine⟨by rw[List.length_append];simp;omega,fun x hx=>?_⟩
 rcases List.mem_append.1 hx with q | q
 ·exact hs x q
 ·obtain rfl:=List.mem_singleton.1 q;exact Nat.zero_le _
theorem ujR(t:Tp)(i:Nat){D:List OpD}(h:Lil 300 D):uhT (uan t i D).1:=by
 have h1:D.length≤5000:=Nat.le_trans h.1 (by omega)
 have h2:∀x∈D,x.sl≤5000:=fun x hx=>Nat.le_trans (h.2 x hx) (by omega)
 have h3:∀p,(df D p).sl≤16:=up0 h.2;have h4:∀p,(df D p).sl≤5000:=fun p=>Nat.le_trans (h3 p) (by omega)
 unfold uan;dsimp only;split
 ·dsimp only
  refine kJ _ _ h1 h2 ?_;exact h4 _
 split
 ·dsimp only
  refine kJ _ _ h1 h2 ?_;exact h4 _
 split
 ·dsimp only
  refine kJ _ _ h1 h2 ?_;exact h4 _
 split
 ·dsimp only
  refine kJ _ _ h1 h2 ?_;exact h4 _
 split
 ·dsimp only
  refine kJ _ _ h1 h2 ?_;exact h4 _
 split
 ·dsimp only
  refine kJ _ _ h1 h2 ?_;have:=h3 (t.v (t.n i)%D.length);show (df D (t.v (t.n i)%D.length)).sl+1≤5000;omega
 split
 ·dsimp only
  refine kJ _ _ h1 h2 ?_;show 4≤5000;omega
 split
 ·dsimp only
  refine⟨by rw[List.length_take];omega,fun x hx=>h2 x (List.mem_of_mem_take hx)⟩
 split
 ·dsimp only
  exact ugL _ (Nat.le_trans h.1 (by omega)) h2
 ·exact ugL _ (Nat.le_trans h.1 (by omega)) h2
theorem ul1{rs:List zNL}(h:∀x∈rs,0<x.bd.length∧Lil 300 x.bd)(a:Nat):Lil 300 (kW rs a).bd:=by
 unfold kW;rw[List.getD_eq_getElem?_getD];cases e:rs[a]? with
 |none=>exact⟨Nat.zero_le _,fun x hx=>by cases hx⟩
 |some y=>exact (h y (List.mem_of_getElem? e)).2
theorem ujS(t:Tp)(i:Nat){rs ls:List zNL}(h1:SmL rs)(h2:SmL ls)(hr:rs.length≤4)(hl:ls.length≤3)(hb:∀x∈rs,0<x.bd.length∧Lil 300 x.bd):SmL (ucb t i rs ls).1.1∧SmL (ucb t i rs ls).1.2:=by
 unfold ucb;dsimp only;generalize t.v (t.n i)%rs.length=a;have hn:=h1.nl a;split
 ·exact⟨h1.set _ ⟨hn.1,ujR _ _ (ul1 hb a)⟩,h2⟩
 split
 ·refine⟨h1.snoc (by omega) ⟨⟨by simp,fun x hx=>?_⟩,(uH 0 0).sm (by omega)⟩,h2⟩
  obtain rfl:=List.mem_singleton.1 hx;omega
 split
 ·exact⟨h1.set _ ⟨⟨by simp,fun x hx=>by simp at hx;omega⟩,hn.2⟩,h2⟩
 split
 ·exact⟨h1.set _ ⟨⟨by simp,fun x hx=>by cases hx⟩,hn.2⟩,h2⟩
 split
 ·exact⟨h1,h2.snoc (by omega) ⟨⟨by simp,fun x hx=>by simp at hx;omega⟩,(uH 0 0).sm (by omega)⟩⟩
 split
 ·exact⟨h1,h2.snoc (by omega) ⟨⟨by simp,fun x hx=>by simp at hx;omega⟩,Nat.zero_le _,fun x hx=>by cases hx⟩⟩
 split
 ·exact⟨h1,h2.set _ ⟨(h2.nl _).1,(h2.nl _).2⟩⟩
 split
 ·exact⟨⟨by simp,fun x hx=>by cases hx⟩,h2⟩
 ·exact⟨h1.set _ ⟨⟨by simp,fun x hx=>by simp at hx;omega⟩,hn.2⟩,h2⟩
theorem ul2(t:Tp)(i:Nat){rs ls:List zNL}(h1:SmL rs)(h2:SmL ls)(hb:∀x∈rs,0<x.bd.length∧Lil 300 x.bd):SmL (ueV t i rs ls).1.1∧SmL (ueV t i rs ls).1.2:=by
 unfold ueV;dsimp only;generalize t.v (t.n i)%rs.length=a;generalize t.v (t.n (t.n i))%rs.length=b;have hn:=h1.nl a;have hx:=ul1 hb a;have hs:Lil 1 (ui (ur 97)):=uF (s:=ur 97) (by simp[ur])
 split
 ·exact⟨h1.set _ ⟨hn.1,(vg 5 hx (uH 2 _)).sm (by omega)⟩,h2⟩
 split
 ·exact⟨h1.set _ ⟨hn.1,(vg 4 (ye 7 (uH 2 _)) hx).sm (by omega)⟩,h2⟩
 split
 ·exact⟨h1.set _ ⟨hn.1,(ye 6 hx).sm (by omega)⟩,h2⟩
 split
 ·exact⟨h1.set _ ⟨hn.1,(vg 5 hx (uH 3 _)).sm (by omega)⟩,h2.set _ ⟨(h2.nl _).1,(vg 4 (uH 0 0) (uH 2 _)).sm (by omega)⟩⟩
 ·exact⟨h1.set _ ⟨hn.1,(vg 4 (ye 6 hs) (uH 2 _)).sm (by omega)⟩,h2⟩
theorem ul3(t:Tp)(i:Nat):SmL (ugu t i).1.1∧SmL (ugu t i).1.2:=by
 obtain⟨f1,f2,f3,f4⟩:=ucD t (t.n i);obtain⟨g1,g2⟩:=ul0 t (t.n i);unfold ugu;dsimp only;split
 ·exact uo8 _ _
 split
 ·exact ujS _ _ g1 g2 f2 f3 f4
 split
 ·exact ul2 _ _ g1 g2 f4
 ·exact⟨g1,g2⟩
end
section
open Go.RowKit
open M (OpD uj Gr)
def ujN(n:Nat)(S:Nat→Int)(h:Byt n S):Tp:=⟨min n 500,fun i=>if i<n then (S i).toNat else 0,by omega,fun i=>by
 split
 ·rename_i hi
  have:=h i hi;omega
 ·omega⟩
theorem uo4{w:World}{a:Option Addr}{n c m:Nat}{S:Nat→Int}{Q:Nat→Prop}(hI:Ints Q .u8 w a n S)(hB:Byt n S)(hm:m=min n 500){t:TypeId}:RdA (ujN n S hB) w.heap.size (w.alloc (.cells #[.slice a m c,.int .i64 0] t)) 0:=by
 have hb:=World.alloc_heap_new w (.cells #[.slice a m c,.int .i64 0] t);refine⟨a,c,?_,?_,?_,Nat.zero_le _,?_⟩
 ·simp only[World.cell?,hb]
  subst hm;rfl
 ·simp only[World.cell?,hb];rfl
 ·simp only[World.frozen?,hb];rfl
 ·show Ints _ .u8 _ a (min n 500) _
  by_cases h0:min n 500=0
  ·exact .inl h0
  ·rcases hI with q | ⟨b,off,e,hq,hc⟩
   ·omega
   ·refine .inr ⟨b,off,e,ub (hc 0 (by omega)),fun i hi=>?_⟩
    have hi':i<n:=by omega
    have h1:=ug (hc i hi') (up w (.cells #[.slice a m c,.int .i64 0] t));rw[h1];have h2:=hB i hi';show some (Value.int .u8 (S i))=some (Value.int .u8 (((if i<n then (S i).toNat else 0:Nat)):Int))
    rw[if_pos hi']
    congr 2
    omega
set_option maxHeartbeats 2000000 in
theorem uhM(Q:Nat→Prop)(a:Option Addr)(n c:Nat)(S:Nat→Int)(w:World)(hI:Ints Q .u8 w a n S)(hB:Byt n S)(hn:n≤1048576)(hc:n≤c)(hnil:a=none→n=0∧c=0) :
  Calls Tryz.prog 10 #[.slice a n c] w fun e w'=>e=.returned (.pointer (some ⟨w.heap.size,0,none⟩))∧RdA (ujN n S hB) w.heap.size w' 0∧Keep (fun _=>False) w w':=by
 have HF:Hid (∀m c',m=min n 500→RdA (ujN n S hB) w.heap.size (w.alloc (.cells #[.slice a m c',.int .i64 0] 67)) 0):=fun m c' hm=>uo4 hI hB hm
 clear hI;cases a with
 |none =>
  obtain⟨rfl,rfl⟩:=hnil rfl;go_enter Tryz.func10,Tryz.ntmps10;go_wp2;go_ret;exact⟨rfl,HF.out 0 0 rfl,Keep.alloc _ _ _⟩
 |some x =>
  clear hnil;by_cases h5:500<n
  ·have d:decide ((500:Int)<n)=true:=by simp;omega
   go_enter Tryz.func10,Tryz.ntmps10;go_wp2;go_ret;exact⟨rfl,HF.out 500 c (by omega),Keep.alloc _ _ _⟩
  ·have d:decide ((500:Int)<n)=false:=by simp;omega
   go_enter Tryz.func10,Tryz.ntmps10;go_wp2;go_ret;exact⟨rfl,HF.out n c (by omega),Keep.alloc _ _ _⟩
def ugv(t:Tp):Gr:=zgram (ugu t 0).1.1 (ugu t 0).1.2
theorem ugw(t:Tp):yb (ugv t):=uhU (ul3 t 0).1 (ul3 t 0).2
def uhN(g:Gr)(w:World)(e:Ending)(w':World):Prop :=
 ∃ra rc la lc,e=.returned (.agg #[.slice ra g.nr rc,.slice la g.nb lc])∧GramX (New w w') w' ra la g∧Below w.heap.size w w'
set_option maxRecDepth 100000 in
set_option maxHeartbeats 4000000 in
theorem uev(Q:Nat→Prop)(a:Option Addr)(n c:Nat)(S:Nat→Int)(w:World)(hI:Ints Q .u8 w a n S)(hB:Byt n S)(hn:n≤1048576)(hc:n≤c)(hnil:a=none→n=0∧c=0) :
  Calls Tryz.prog 4 #[.slice a n c] w (uhN (ugv (ujN n S hB)) w):=by
 have HI:Hid (Ints Q .u8 w a n S):=hI;clear hI;obtain⟨tp,htp⟩:∃x,ujN n S hB=x:=⟨_,rfl⟩;have HOP:Hid (∀W,Ints Q .u8 W a n S→Calls Tryz.prog 10 #[.slice a n c] W fun e w'=>e=.returned (.pointer (some ⟨W.heap.size,0,none⟩))∧RdA tp W.heap.size w' 0∧Keep (fun _=>False) W w'):=fun W hW=>htp▸uhM Q a n c S W hW hB hn hc hnil
 rw[htp];clear htp hB hnil;obtain⟨p,hp⟩:∃p,ugu tp 0=p:=⟨_,rfl⟩;have hdr:ugv tp=zgram p.1.1 p.1.2:=by unfold ugv;rw[hp]
 rw[hdr];have HAN:Hid (∀R W,RdA tp R W 0→Calls Tryz.prog 11 #[.pointer (some ⟨R,0,none⟩)] W (DrG tp R p W)):=fun R W h=>ueu tp R 0 W h p hp
 clear hdr hp;obtain⟨⟨p1,p2⟩,p3⟩:=p;go_enter Tryz.func4,Tryz.ntmps4;go_wp2_with fail;have HTW:Hid (zTwo w.heap.size (w.alloc (.cells #[.slice none 0 0,.slice none 0 0] 26))):=ja w;have HK0:Hid (Keep (fun _=>False) w (w.alloc (.cells #[.slice none 0 0,.slice none 0 0] 26))):=Keep.alloc _ _ _
 have HS1:Hid ((w.alloc (.cells #[.slice none 0 0,.slice none 0 0] 26)).heap.size=w.heap.size+1):=World.size_alloc _ _;generalize w.alloc (.cells #[.slice none 0 0,.slice none 0 0] 26)=W1 at *;refine Calls.mono (HOP.out W1 (HI.out.later HK0.out.bel)) ?_;rintro e W2 ⟨rfl,hrd,hk2⟩;have HK2:Hid (Keep (fun _=>False) W1 W2):=hk2
 have HRD:Hid (RdA tp W1.heap.size W2 0):=hrd;clear hrd hk2;go_wp2_with fail;refine Calls.mono (HAN.out W1.heap.size W2 HRD.out) ?_;rintro e W3 ⟨rv,lv,G,rs,ls,rfl,hgr,hrs,hls,hon⟩;obtain⟨ra,rc,rfl⟩:=um hgr.rules;obtain⟨la,lc,rfl⟩:=um hgr.labs;obtain⟨s0,s1,sf0,sf1⟩:=(HTW.out.keep HK2.out (fun e=>e)).keep hon.2 (fun e=>by have h1:=HS1.out;omega)
 have hz2:=HK2.out.size;have hs1:=HS1.out;have hG:G w.heap.size=3:=hgr.tag (by omega)
 have hfin:=((hgr.set (o:=0) (u:=.slice ra rs.length rc) hG).set (o:=1) (u:=.slice la ls.length lc) hG).base (w1:=w) (by omega)
 obtain⟨ra',rc',la',lc',e1,e2,hX⟩:=hfin.zgram;have hkf:Keep (fun b=>b=W1.heap.size) w W3:=uaJ (R:=W1.heap.size) ((HK0.out.trans HK2.out).mono (fun _ e=>e.elim)) hon.2 (fun b e=>.inl e)
 have hbel:Below w.heap.size w W3:=hkf.below (Nat.le_refl _) (fun b hb e=>by omega)
 have HE:Hid (uhN (zgram p1 p2) w (.returned (.agg #[.slice ra rs.length rc,.slice la ls.length lc])) ((W3.setCell ⟨w.heap.size,0,none⟩ (.slice ra rs.length rc)).setCell ⟨w.heap.size,1,none⟩ (.slice la ls.length lc))):=by
  injection e1 with e1a e1b e1c
  injection e2 with e2a e2b e2c
  subst e1a e2a;have hrs':rs.map (·.d)=p1:=hrs
  have hls':ls.map (·.d)=p2:=hls
  rw[hrs',hls']at hX;refine⟨ra,rc,la,lc,?_,hX,uiG (uiG hbel _ _ _ (Nat.le_refl _)) _ _ _ (Nat.le_refl _)⟩;show _=Ending.returned (.agg #[.slice ra p1.length rc,.slice la p2.length lc]);rw[←hrs',←hls',List.length_map,List.length_map]
 clear hgr hrs hls hon hG hfin hX e1 e2 hkf hbel hs1;go_wp2;refine bodyPost_ret (v:=.agg #[.slice ra rs.length rc,.slice la ls.length lc]) ?_ rfl ?_
 ·simp[results,Tryz.f4,go_sem, *]
 ·exact HE.out
end
end Go.Proofs.YthicmmhmmfhncaaGreat
