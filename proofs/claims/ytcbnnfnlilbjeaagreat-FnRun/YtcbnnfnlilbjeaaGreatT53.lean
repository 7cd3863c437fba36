import Derived.Test.YtcbnnfnlilbjeaaGreatT50
import Derived.Test.YtcbnnfnlilbjeaaGreatT51
import Derived.Test.YtcbnnfnlilbjeaaGreatT52
set_option linter.unusedVariables false
set_option linter.unusedSimpArgs false
namespace Go.Proofs.YtcbnnfnlilbjeaaGreat
section
open Go.RowKit
open M (OpD NodeD Gr)
def anyG(t:Tp)(i:Nat):(List NL×List NL)×Nat :=
 let k:=t.v i%24
 let g:=drawG t (t.n i)
 if k=0 then limG t (t.n i)
 else if k<4 then spoilG t g.2 g.1.1 g.1.2
 else if k<7 then loopG t g.2 g.1.1 g.1.2
 else g
theorem ne_fix3{b:List OpD}(k m c:Nat)(h:0<b.length):0<(fix3 k m c b).length:=by
 unfold fix3;split
 ·simp[binD];omega
 ·exact h
theorem drawRs_ne(t:Tp)(n m i0:Nat):∀(k:Nat) (x:NL),x∈(drawRs t n m i0 k).1→0<x.bd.length
 |0,x,h=>by cases h
 |k+1,x,h=>by
  rw[drawRs]at h;rcases List.mem_append.1 h with q | q
  ·exact drawRs_ne t n m i0 k x q
  ·obtain rfl:=List.mem_singleton.1 q
   exact ne_fix3 _ _ _ (ne_fix2 _ _ (ne_fix1 _ _ _ (drawE_ne _ _ _ _ _ _ _)))
theorem drawG_facts(t:Tp)(i:Nat):0<(drawG t i).1.1.length∧(drawG t i).1.1.length≤4∧(drawG t i).1.2.length≤3∧∀x∈(drawG t i).1.1,0<x.bd.length∧Lil 300 x.bd:=by
 unfold drawG;dsimp only;refine⟨by rw[drawRs_len];omega,by rw[drawRs_len];omega,by rw[tidyK_len,drawLs_len];omega,fun x hx=>⟨drawRs_ne _ _ _ _ _ x hx,drawRs_lil _ _ _ _ _ x hx⟩⟩
theorem any_fin{t:Tp}{R i:Nat}{w W2 W3:World}{G:Nat→Nat}{rv lv:Value}{rs ls:List NC}{p:(List NL×List NL)×Nat}(hon:RdOn t R i w W2)(hrb:w.heap.size<W2.heap.size)(hR:R<w.heap.size)(h:GrP W2 G W3 rv lv rs ls)(hrd:RdA t R W3 p.2)(k:Keep (fun b=>b=R∨W2.heap.size≤b) W2 W3)(h1:rs.map (·.d)=p.1.1)(h2:ls.map (·.d)=p.1.2) :
  DrG t R p w (.returned (.agg #[rv,lv])) ((W3.setCell ⟨w.heap.size,0,none⟩ rv).setCell ⟨w.heap.size,1,none⟩ lv):=by
 have hG:G w.heap.size=3:=h.tag hrb;have hz:=hon.2.size;refine⟨rv,lv,G,rs,ls,rfl,((h.set hG).set hG).base (by omega),h1,h2,RdOn.set (RdOn.set ⟨hrd,keep_far hon.2 k (fun b q=>?_)⟩ (Nat.le_refl _) hR) (Nat.le_refl _) hR⟩
 rcases q with q | q
 ·exact .inl q
 ·exact .inr (by omega)
set_option maxRecDepth 100000 in
set_option maxHeartbeats 20000000 in
theorem l2drawAny_any(t:Tp)(R i:Nat)(w:World)(h:RdA t R w i)(p:(List NL×List NL)×Nat)(hp:anyG t i=p):Calls Tryz.prog 12 #[.pointer (some ⟨R,0,none⟩)] w (DrG t R p w):=by
 have hv:=t.v_le i;have hRw:=h.lt;unfold anyG at hp;dsimp only at hp;go_enter Tryz.func12,Tryz.ntmps12;go_wp2_with fail;refine (next_any t R i _ (h.keep (Keep.alloc (fun _=>False) _ _) (fun _ q=>q.elim))).mono ?_
 rintro e W2 ⟨rfl,hon⟩;have HR:Hid (RdOn t R (t.n i) w W2):=⟨hon.1,(Keep.alloc _ _ _).trans hon.2⟩;have HTW:Hid (Two w.heap.size W2):=(two_new w).keep hon.2 (fun e=>by omega)
 have hrb:w.heap.size<W2.heap.size:=lt_of_cell HTW.out.1;clear hon h;generalize t.v i=ki at *;generalize t.n i=i1 at *;obtain⟨q,hq⟩:∃x,ki%24=x:=⟨_,rfl⟩;have hq':(ki:Int)%24=(q:Int):=by omega
 have hql:q<24:=by omega
 rw[hq]at hp;clear hq;by_cases q0:q=0
 ·rw[if_pos q0]at hp
  subst q0;go_wp2_with fail;refine (l2limit_any t R i1 W2 HR.out.1 p hp).mono ?_;rintro e W3 ⟨rv,lv,G,rs,ls,rfl,hgr,hrs,hls,hon⟩;obtain⟨ra,rc,rfl⟩:=own_shape hgr.rules;obtain⟨la,lc,rfl⟩:=own_shape hgr.labs;obtain⟨s0,s1,sf0,sf1⟩:=HTW.out.keep hon.2 (fun e=>by omega)
  have HFF:Hid (DrG t R p w (.returned (.agg #[.slice ra rs.length rc,.slice la ls.length lc])) ((W3.setCell ⟨w.heap.size,0,none⟩ (.slice ra rs.length rc)).setCell ⟨w.heap.size,1,none⟩ (.slice la ls.length lc))):=any_fin HR.out hrb hRw hgr hon.1 (hon.2.mono (fun b e=>.inl e)) hrs hls
  clear hgr hrs hls hon hp;go_wp2;refine bodyPost_ret (v:=.agg #[.slice ra rs.length rc,.slice la ls.length lc]) ?_ rfl ?_
  ·simp[results,Tryz.f12,go_sem, *]
  ·exact HFF.out
 have q0':¬(q:Int)=0:=by omega
 rw[if_neg q0]at hp;obtain⟨f1,f2,f3,f4⟩:=drawG_facts t i1;obtain⟨g,hg⟩:∃x,drawG t i1=x:=⟨_,rfl⟩;rw[hg]at hp f1 f2 f3 f4;have HF4:Hid (∀x∈g.1.1,0<x.bd.length∧Lil 300 x.bd):=f4;clear f4;go_wp2_with fail;refine (l2drawGrammar_any t R i1 W2 HR.out.1 g hg).mono ?_;rintro e W3 ⟨rv,lv,G,rs,ls,rfl,hgr,hrs,hls,hon⟩;obtain⟨ra,rc,rfl⟩:=own_shape hgr.rules;obtain⟨la,lc,rfl⟩:=own_shape hgr.labs;have hR2:R<W2.heap.size:=HR.out.1.lt;have hz3:=hon.2.size;have HG:Hid (GrP W2 (tagN G W3 3) (W3.alloc (.cells #[.slice ra rs.length rc,.slice la ls.length lc] 26)) (.slice ra rs.length rc) (.slice la ls.length lc) rs ls):=hgr.later (Keep.alloc (fun _=>False) _ _) (fun _ e=>e.elim) 3 hz3
 have HRD:Hid (RdA t R (W3.alloc (.cells #[.slice ra rs.length rc,.slice la ls.length lc] 26)) g.2):=hon.1.keep (Keep.alloc (fun _=>False) _ _) (fun _ e=>e.elim)
 have HK4:Hid (Keep (fun b=>b=R) W2 (W3.alloc (.cells #[.slice ra rs.length rc,.slice la ls.length lc] 26))):=hon.2.trans (Keep.alloc _ _ _)
 have HM:Hid (rs.map (·.d)=g.1.1∧ls.map (·.d)=g.1.2):=⟨hrs,hls⟩
 have hrl:rs.length=g.1.1.length:=by rw[←hrs,List.length_map]
 have hll:ls.length=g.1.2.length:=by rw[←hls,List.length_map]
 have HSM:Hid (∀x∈rs,0<x.d.bd.length∧Lil 300 x.d.bd):=fun x hx=>HF4.out x.d (by rw[←hrs];exact List.mem_map.2 ⟨x,hx,rfl⟩)
 have HLN:Hid (0<rs.length∧rs.length≤4∧ls.length≤3):=⟨by omega,by omega,by omega⟩
 have hb4:=World.alloc_heap_new W3 (.cells #[.slice ra rs.length rc,.slice la ls.length lc] 26);have v0:(W3.alloc (.cells #[.slice ra rs.length rc,.slice la ls.length lc] 26)).cell? ⟨W3.heap.size,0,none⟩=some (.slice ra rs.length rc):=by simp only[World.cell?,hb4];rfl
 have v1:(W3.alloc (.cells #[.slice ra rs.length rc,.slice la ls.length lc] 26)).cell? ⟨W3.heap.size,1,none⟩=some (.slice la ls.length lc):=by simp only[World.cell?,hb4];rfl
 clear hgr hrs hls hon hrl hll hg f1 f2 f3 hb4;go_upto_region 5 with fail
 generalize W3.alloc (.cells #[.slice ra rs.length rc,.slice la ls.length lc] 26)=W4 at *;by_cases q4:q<4
 ·rw[if_pos q4]at hp
  have q4':(q:Int)<4:=by omega
  have HC:Hid (Calls Tryz.prog 32 #[.agg #[.slice ra rs.length rc,.slice la ls.length lc],.pointer (some ⟨R,0,none⟩)] W4 (DrX t R W2 p W4)):=l2spoil_any t R g.2 W2 W4 _ ra la rc lc rs ls HG.out HK4.out.size HRD.out hR2 HLN.out.1 (by have:=HLN.out.2.1;omega) (by have:=HLN.out.2.2;omega) (fun x hx=>⟨(HSM.out x hx).1,(HSM.out x hx).2.mono (by omega)⟩) p (by rw[HM.out.1,HM.out.2];exact hp)
  go_wp2_with fail;refine Calls.mono HC.out ?_;rintro e W5 ⟨rv5,lv5,G5,rs5,ls5,rfl,hgr5,hrs5,hls5,hrd5,hk5⟩;obtain⟨ra5,rc5,rfl⟩:=own_shape hgr5.rules;obtain⟨la5,lc5,rfl⟩:=own_shape hgr5.labs;have HKK:Keep (fun b=>b=R∨W2.heap.size≤b) W2 W5:=(HK4.out.mono (fun b e=>.inl e)).trans hk5
  obtain⟨s0,s1,sf0,sf1⟩:=HTW.out.keep HKK (fun e=>by omega)
  have HFF:Hid (DrG t R p w (.returned (.agg #[.slice ra5 rs5.length rc5,.slice la5 ls5.length lc5])) ((W5.setCell ⟨w.heap.size,0,none⟩ (.slice ra5 rs5.length rc5)).setCell ⟨w.heap.size,1,none⟩ (.slice la5 ls5.length lc5))):=any_fin HR.out hrb hRw hgr5 hrd5 HKK hrs5 hls5;clear hgr5 hrs5 hls5 hrd5 hk5 HKK hp v0 v1;go_wp2;refine bodyPost_ret (v:=.agg #[.slice ra5 rs5.length rc5,.slice la5 ls5.length lc5]) ?_ rfl ?_
  ·simp[results,Tryz.f12,go_sem, *]
  ·exact HFF.out
 have q4':¬(q:Int)<4:=by omega
 rw[if_neg q4]at hp;by_cases q7:q<7
 ·rw[if_pos q7]at hp
  have q7':(q:Int)<7:=by omega
  have HC:Hid (Calls Tryz.prog 33 #[.agg #[.slice ra rs.length rc,.slice la ls.length lc],.pointer (some ⟨R,0,none⟩)] W4 (DrX t R W2 p W4)):=l2loop_any t R g.2 W2 W4 _ ra la rc lc rs ls HG.out HK4.out.size HRD.out hR2 HLN.out.1 (by have:=HLN.out.2.1;omega) (by have:=HLN.out.2.2;omega) (fun x hx=>⟨(HSM.out x hx).1,(HSM.out x hx).2.small (by omega)⟩) p (by rw[HM.out.1,HM.out.2];exact hp)
  go_wp2_with fail;refine Calls.mono HC.out ?_;rintro e W5 ⟨rv5,lv5,G5,rs5,ls5,rfl,hgr5,hrs5,hls5,hrd5,hk5⟩;obtain⟨ra5,rc5,rfl⟩:=own_shape hgr5.rules;obtain⟨la5,lc5,rfl⟩:=own_shape hgr5.labs;have HKK:Keep (fun b=>b=R∨W2.heap.size≤b) W2 W5:=(HK4.out.mono (fun b e=>.inl e)).trans hk5
  obtain⟨s0,s1,sf0,sf1⟩:=HTW.out.keep HKK (fun e=>by omega)
  have HFF:Hid (DrG t R p w (.returned (.agg #[.slice ra5 rs5.length rc5,.slice la5 ls5.length lc5])) ((W5.setCell ⟨w.heap.size,0,none⟩ (.slice ra5 rs5.length rc5)).setCell ⟨w.heap.size,1,none⟩ (.slice la5 ls5.length lc5))):=any_fin HR.out hrb hRw hgr5 hrd5 HKK hrs5 hls5;clear hgr5 hrs5 hls5 hrd5 hk5 HKK hp v0 v1;go_wp2;refine bodyPost_ret (v:=.agg #[.slice ra5 rs5.length rc5,.slice la5 ls5.length lc5]) ?_ rfl ?_
  ·simp[results,Tryz.f12,go_sem, *]
  ·exact HFF.out
 have q7':¬(q:Int)<7:=by omega
 rw[if_neg q7]at hp;subst hp;obtain⟨s0,s1,sf0,sf1⟩:=HTW.out.keep HK4.out (fun e=>by omega)
 have HFF:Hid (DrG t R g w (.returned (.agg #[.slice ra rs.length rc,.slice la ls.length lc])) ((W4.setCell ⟨w.heap.size,0,none⟩ (.slice ra rs.length rc)).setCell ⟨w.heap.size,1,none⟩ (.slice la ls.length lc))):=any_fin HR.out hrb hRw HG.out HRD.out (HK4.out.mono (fun b e=>.inl e)) HM.out.1 HM.out.2
 go_wp2;refine bodyPost_ret (v:=.agg #[.slice ra rs.length rc,.slice la ls.length lc]) ?_ rfl ?_
 ·simp[results,Tryz.f12,go_sem, *]
 ·exact HFF.out
end
section
open Go.RowKit
open M (OpD NodeD Gr)
def SmZ(z:List Int):Prop:=z.length≤5000∧∀x∈z,0≤x∧x≤255
def SmD(D:List OpD):Prop:=D.length≤5000∧∀x∈D,x.sl≤5000
def SmN(x:NL):Prop:=SmZ x.nm∧SmD x.bd
def SmL(l:List NL):Prop:=l.length≤5000∧∀x∈l,SmN x
theorem SmZ.byt{z:List Int}(h:SmZ z):Byt z.length (lf z):=fun i hi=>by
 unfold lf;rw[List.getD_eq_getElem?_getD,List.getElem?_eq_getElem hi];exact h.2 _ (List.getElem_mem hi)
theorem SmN.node{x:NL}(h:SmN x):SmallN (node x):=by
 refine⟨Nat.le_trans h.1.1 (by omega),h.1.byt,Nat.le_trans h.2.1 (by omega),fun i hi=>?_⟩
 show (df x.bd i).sl≤1048576;rw[df_at (List.getElem?_eq_getElem hi)];exact Nat.le_trans (h.2.2 _ (List.getElem_mem hi)) (by omega)
theorem SmL.at_{l:List NL}(h:SmL l){i:Nat}(hi:i<l.length):SmallN (node (l.getD i default)):=by
 rw[List.getD_eq_getElem?_getD,List.getElem?_eq_getElem hi];exact (h.2 _ (List.getElem_mem hi)).node
theorem small_gram{rs ls:List NL}(h1:SmL rs)(h2:SmL ls):SmallG (gram rs ls) :=
 ⟨Nat.le_trans h1.1 (by omega),Nat.le_trans h2.1 (by omega),fun i hi=>h1.at_ hi,fun i hi=>h2.at_ hi⟩
theorem Lil.sm{n:Nat}{D:List OpD}(h:Lil n D)(hn:n≤5000):SmD D:=⟨Nat.le_trans h.1 hn,fun x hx=>Nat.le_trans (h.2 x hx) (by omega)⟩
theorem smz_bytes(s:ByteArray)(hs:s.size≤5000):SmZ (bytesOf s):=by
 refine⟨by rw[bytesOf_len];exact hs,fun x hx=>?_⟩
 obtain⟨b,_,rfl⟩:=List.mem_map.1 hx;have:=b.toNat_lt;omega
theorem SmL.snoc{l:List NL}{x:NL}(h:SmL l)(hl:l.length<5000)(hx:SmN x):SmL (l++[x]):=by
 refine⟨by rw[List.length_append];simp;omega,fun y hy=>?_⟩
 rcases List.mem_append.1 hy with q | q
 ·exact h.2 y q
 ·obtain rfl:=List.mem_singleton.1 q;exact hx
theorem SmL.set{l:List NL}{x:NL}(h:SmL l)(i:Nat)(hx:SmN x):SmL (l.set i x):=by
 refine⟨by rw[List.length_set];exact h.1,fun y hy=>?_⟩
 rcases mem_set' hy with rfl | q
 ·exact hx
 ·exact h.2 y q
theorem SmL.nl{l:List NL}(h:SmL l)(i:Nat):SmN (nlAt l i):=by
 unfold nlAt;rw[List.getD_eq_getElem?_getD];cases e:l[i]? with
 |none=>exact⟨⟨Nat.zero_le _,fun x hx=>by cases hx⟩,Nat.zero_le _,fun x hx=>by cases hx⟩
 |some y=>exact h.2 y (List.mem_of_getElem? e)
theorem sm_manyR(k:Nat)(hk:k≤300):SmL (manyR k):=by
 induction k with
 |zero=>exact⟨Nat.zero_le _,fun x hx=>by cases hx⟩
 |succ k ih =>
  rw[manyR];refine (ih (by omega)).snoc (by rw[manyR_len];omega) ⟨smz_bytes _ ?_,(lil_set (s:=oneD 97) (by simp[oneD])).sm (by omega)⟩
  have h:=dec_len k;unfold strR;rw[ByteArray.size_append];show 1+(decL k).length≤5000;omega
theorem sm_manyL(k:Nat)(hk:k≤300):SmL (manyL k):=by
 induction k with
 |zero=>exact⟨Nat.zero_le _,fun x hx=>by cases hx⟩
 |succ k ih =>
  rw[manyL];refine (ih (by omega)).snoc (by rw[manyL_len];omega) ⟨smz_bytes _ ?_,(lil_leaf 0 0).sm (by omega)⟩
  have h:=dec_len (1000+k);unfold strL;rw[ByteArray.size_append];show 1+(decL (1000+k)).length≤5000;omega
theorem wideK_sm(k:Nat):∀x∈wideK k,x.sl≤5000:=by
 induction k with
 |zero=>intro x hx;obtain rfl:=List.mem_singleton.1 hx;exact Nat.zero_le _
 |succ k ih =>
  intro x hx;rw[wideK]at hx;rcases List.mem_append.1 hx with q | q
  ·rcases List.mem_append.1 q with q | q
   ·exact ih x q
   ·obtain rfl:=List.mem_singleton.1 q;exact Nat.zero_le _
  ·obtain rfl:=List.mem_singleton.1 q;exact Nat.zero_le _
theorem wideD_sm(n:Nat)(hn:n≤4000):SmD (wideD n):=by
 unfold wideD;split
 ·refine⟨by rw[List.length_append,wideK_len];simp;omega,fun x hx=>?_⟩
  rcases List.mem_append.1 hx with q | q
  ·exact wideK_sm _ x q
  ·obtain rfl:=List.mem_singleton.1 q;exact Nat.zero_le _
 ·exact⟨by rw[wideK_len];omega,wideK_sm _⟩
theorem limNm_sm(j:Nat)(hj:j≤100):SmZ (limNm j):=by
 refine⟨by rw[limNm_len];omega,fun x hx=>?_⟩
 unfold limNm at hx;rcases List.mem_cons.1 hx with rfl | q
 ·omega
 ·have:=(List.mem_replicate.1 q).2;omega
theorem sm_lim(t:Tp)(i:Nat):SmL (limG t i).1.1∧SmL (limG t i).1.2:=by
 have h3:t.v (t.n i)%3<3:=Nat.mod_lt _ (by omega)
 unfold limG;dsimp only;generalize t.v (t.n i)%3=e at *;split
 ·exact⟨sm_manyR _ (by omega),sm_manyL _ (by omega)⟩
 split
 ·exact⟨sm_manyR _ (by omega),sm_manyL _ (by omega)⟩
 split
 ·refine⟨⟨by simp,fun x hx=>?_⟩,by simp,fun x hx=>by cases hx⟩
  obtain rfl:=List.mem_singleton.1 hx;exact⟨⟨by simp,fun y hy=>by obtain rfl:=List.mem_singleton.1 hy;omega⟩,wideD_sm _ (by omega)⟩
 ·exact⟨(sm_manyR 2 (by omega)).set 1 ⟨limNm_sm _ (by omega),(lil_set (s:=oneD 97) (by simp[oneD])).sm (by omega)⟩,sm_manyL 1 (by omega)⟩
theorem sm_drawRs(t:Tp)(n m i0:Nat):∀(k:Nat),k≤100→SmL (drawRs t n m i0 k).1
 |0,_=>⟨Nat.zero_le _,fun x hx=>by cases hx⟩
 |k+1,hk=>by
  have ih:=sm_drawRs t n m i0 k (by omega)
  have hl:=drawRs_lil t n m i0 (k+1);rw[drawRs]at hl ⊢;refine ih.snoc (by rw[drawRs_len];omega) ⟨⟨by simp,fun y hy=>?_⟩,(hl _ (List.mem_append.2 (.inr (List.mem_singleton.2 rfl)))).sm (by omega)⟩
  obtain rfl:=List.mem_singleton.1 hy;omega
theorem sm_labNm(k:Nat):SmZ (labNm k):=by
 unfold labNm;split
 ·exact⟨by simp,fun x hx=>by simp at hx;omega⟩
 ·split
  ·exact⟨by simp,fun x hx=>by simp at hx;omega⟩
  ·exact⟨by simp,fun x hx=>by simp at hx;omega⟩
theorem sm_drawLb(t:Tp)(n i:Nat):SmD (drawLb t n i).1.2:=by
 have hs:Lil 1 (setD (drawS t (t.n i)).1):=lil_set (Nat.le_trans (drawS_len _ _) (by omega))
 unfold drawLb
 repeat' split
 ·exact (lil_un 6 (lil_bin 4 (lil_un 7 hs) (lil_set (s:=[0,255]) (by simp)))).sm (by omega)
 ·exact (lil_leaf 0 0).sm (by omega)
 ·exact (lil_set (s:=[0,255]) (by simp)).sm (by omega)
 ·exact (drawE_lil t n n 0 3 false (t.n i)).sm (by decide)
 ·exact⟨Nat.zero_le _,fun x hx=>by cases hx⟩
theorem sm_drawLs(t:Tp)(n i1:Nat):∀(k:Nat),k≤100→SmL (drawLs t n i1 k).1
 |0,_=>⟨Nat.zero_le _,fun x hx=>by cases hx⟩
 |k+1,hk=>by
  have ih:=sm_drawLs t n i1 k (by omega)
  rw[drawLs];exact ih.snoc (by rw[drawLs_len];omega) ⟨sm_labNm k,sm_drawLb _ _ _⟩
theorem sm_tidy(rs ls:List NL)(k:Nat)(h:SmL ls):SmL (tidyK rs ls k):=by
 refine⟨by rw[tidyK_len];exact h.1,fun x hx=>?_⟩
 unfold tidyK at hx;obtain⟨i,hi,rfl⟩:=List.mem_mapIdx.1 hx;have hy:=h.2 _ (List.getElem_mem hi);split
 ·unfold tidy1
  split
  ·exact hy
  split
  ·exact⟨hy.1,Nat.zero_le _,fun x hx=>by cases hx⟩
  ·exact⟨hy.1,(lil_leaf 0 0).sm (by omega)⟩
 ·exact hy
theorem sm_drawG(t:Tp)(i:Nat):SmL (drawG t i).1.1∧SmL (drawG t i).1.2:=by
 unfold drawG;dsimp only;exact⟨sm_drawRs _ _ _ _ _ (by omega),sm_tidy _ _ _ (sm_drawLs _ _ _ _ (by omega))⟩
theorem df_sm{D:List OpD}{n:Nat}(h:∀x∈D,x.sl≤n)(p:Nat):(df D p).sl≤n:=by
 unfold df;rw[List.getD_eq_getElem?_getD];cases e:D[p]? with
 |none=>exact Nat.zero_le _
 |some y=>exact h y (List.mem_of_getElem? e)
theorem smd_dset{D:List OpD}(f:OpD→OpD)(p:Nat)(h:D.length≤5000)(hs:∀x∈D,x.sl≤5000)(hf:(f (df D p)).sl≤5000):SmD (dset D p f):=by
 unfold dset;refine⟨by rw[List.length_set];exact h,fun x hx=>?_⟩
 rcases mem_set' hx with rfl | q
 ·exact hf
 ·exact hs x q
theorem smd_snoc{D:List OpD}(k:Int)(h:D.length≤4000)(hs:∀x∈D,x.sl≤5000):SmD (D++[opd k 0]):=by
 refine⟨by rw[List.length_append];simp;omega,fun x hx=>?_⟩
 rcases List.mem_append.1 hx with q | q
 ·exact hs x q
 ·obtain rfl:=List.mem_singleton.1 q;exact Nat.zero_le _
theorem smd_spoil(t:Tp)(i:Nat){D:List OpD}(h:Lil 300 D):SmD (spoilB t i D).1:=by
 have h1:D.length≤5000:=Nat.le_trans h.1 (by omega)
 have h2:∀x∈D,x.sl≤5000:=fun x hx=>Nat.le_trans (h.2 x hx) (by omega)
 have h3:∀p,(df D p).sl≤16:=df_sm h.2;have h4:∀p,(df D p).sl≤5000:=fun p=>Nat.le_trans (h3 p) (by omega)
 unfold spoilB;dsimp only;split
 ·dsimp only
  refine smd_dset _ _ h1 h2 ?_;exact h4 _
 split
 ·dsimp only
  refine smd_dset _ _ h1 h2 ?_;exact h4 _
 split
 ·dsimp only
  refine smd_dset _ _ h1 h2 ?_;exact h4 _
 split
 ·dsimp only
  refine smd_dset _ _ h1 h2 ?_;exact h4 _
 split
 ·dsimp only
  refine smd_dset _ _ h1 h2 ?_;exact h4 _
 split
 ·dsimp only
  refine smd_dset _ _ h1 h2 ?_;have:=h3 (t.v (t.n i)%D.length);show (df D (t.v (t.n i)%D.length)).sl+1≤5000;omega
 split
 ·dsimp only
  refine smd_dset _ _ h1 h2 ?_;show 4≤5000;omega
 split
 ·dsimp only
  refine⟨by rw[List.length_take];omega,fun x hx=>h2 x (List.mem_of_mem_take hx)⟩
 split
 ·dsimp only
  exact smd_snoc _ (Nat.le_trans h.1 (by omega)) h2
 ·exact smd_snoc _ (Nat.le_trans h.1 (by omega)) h2
theorem nl_lil{rs:List NL}(h:∀x∈rs,0<x.bd.length∧Lil 300 x.bd)(a:Nat):Lil 300 (nlAt rs a).bd:=by
 unfold nlAt;rw[List.getD_eq_getElem?_getD];cases e:rs[a]? with
 |none=>exact⟨Nat.zero_le _,fun x hx=>by cases hx⟩
 |some y=>exact (h y (List.mem_of_getElem? e)).2
theorem sm_spoilG(t:Tp)(i:Nat){rs ls:List NL}(h1:SmL rs)(h2:SmL ls)(hr:rs.length≤4)(hl:ls.length≤3)(hb:∀x∈rs,0<x.bd.length∧Lil 300 x.bd):SmL (spoilG t i rs ls).1.1∧SmL (spoilG t i rs ls).1.2:=by
 unfold spoilG;dsimp only;generalize t.v (t.n i)%rs.length=a;have hn:=h1.nl a;split
 ·exact⟨h1.set _ ⟨hn.1,smd_spoil _ _ (nl_lil hb a)⟩,h2⟩
 split
 ·refine⟨h1.snoc (by omega) ⟨⟨by simp,fun x hx=>?_⟩,(lil_leaf 0 0).sm (by omega)⟩,h2⟩
  obtain rfl:=List.mem_singleton.1 hx;omega
 split
 ·exact⟨h1.set _ ⟨⟨by simp,fun x hx=>by simp at hx;omega⟩,hn.2⟩,h2⟩
 split
 ·exact⟨h1.set _ ⟨⟨by simp,fun x hx=>by cases hx⟩,hn.2⟩,h2⟩
 split
 ·exact⟨h1,h2.snoc (by omega) ⟨⟨by simp,fun x hx=>by simp at hx;omega⟩,(lil_leaf 0 0).sm (by omega)⟩⟩
 split
 ·exact⟨h1,h2.snoc (by omega) ⟨⟨by simp,fun x hx=>by simp at hx;omega⟩,Nat.zero_le _,fun x hx=>by cases hx⟩⟩
 split
 ·exact⟨h1,h2.set _ ⟨(h2.nl _).1,(h2.nl _).2⟩⟩
 split
 ·exact⟨⟨by simp,fun x hx=>by cases hx⟩,h2⟩
 ·exact⟨h1.set _ ⟨⟨by simp,fun x hx=>by simp at hx;omega⟩,hn.2⟩,h2⟩
theorem sm_loopG(t:Tp)(i:Nat){rs ls:List NL}(h1:SmL rs)(h2:SmL ls)(hb:∀x∈rs,0<x.bd.length∧Lil 300 x.bd):SmL (loopG t i rs ls).1.1∧SmL (loopG t i rs ls).1.2:=by
 unfold loopG;dsimp only;generalize t.v (t.n i)%rs.length=a;generalize t.v (t.n (t.n i))%rs.length=b;have hn:=h1.nl a;have hx:=nl_lil hb a;have hs:Lil 1 (setD (oneD 97)):=lil_set (s:=oneD 97) (by simp[oneD])
 split
 ·exact⟨h1.set _ ⟨hn.1,(lil_bin 5 hx (lil_leaf 2 _)).sm (by omega)⟩,h2⟩
 split
 ·exact⟨h1.set _ ⟨hn.1,(lil_bin 4 (lil_un 7 (lil_leaf 2 _)) hx).sm (by omega)⟩,h2⟩
 split
 ·exact⟨h1.set _ ⟨hn.1,(lil_un 6 hx).sm (by omega)⟩,h2⟩
 split
 ·exact⟨h1.set _ ⟨hn.1,(lil_bin 5 hx (lil_leaf 3 _)).sm (by omega)⟩,h2.set _ ⟨(h2.nl _).1,(lil_bin 4 (lil_leaf 0 0) (lil_leaf 2 _)).sm (by omega)⟩⟩
 ·exact⟨h1.set _ ⟨hn.1,(lil_bin 4 (lil_un 6 hs) (lil_leaf 2 _)).sm (by omega)⟩,h2⟩
theorem sm_any(t:Tp)(i:Nat):SmL (anyG t i).1.1∧SmL (anyG t i).1.2:=by
 obtain⟨f1,f2,f3,f4⟩:=drawG_facts t (t.n i);obtain⟨g1,g2⟩:=sm_drawG t (t.n i);unfold anyG;dsimp only;split
 ·exact sm_lim _ _
 split
 ·exact sm_spoilG _ _ g1 g2 f2 f3 f4
 split
 ·exact sm_loopG _ _ g1 g2 f4
 ·exact⟨g1,g2⟩
end
section
open Go.RowKit
open M (OpD NodeD Gr)
def tpOf(n:Nat)(S:Nat→Int)(h:Byt n S):Tp:=⟨min n 500,fun i=>if i<n then (S i).toNat else 0,by omega,fun i=>by
 split
 ·rename_i hi
  have:=h i hi;omega
 ·omega⟩
theorem rd_new{w:World}{a:Option Addr}{n c m:Nat}{S:Nat→Int}{Q:Nat→Prop}(hI:Ints Q .u8 w a n S)(hB:Byt n S)(hm:m=min n 500){t:TypeId}:RdA (tpOf n S hB) w.heap.size (w.alloc (.cells #[.slice a m c,.int .i64 0] t)) 0:=by
 have hb:=World.alloc_heap_new w (.cells #[.slice a m c,.int .i64 0] t);refine⟨a,c,?_,?_,?_,Nat.zero_le _,?_⟩
 ·simp only[World.cell?,hb]
  subst hm;rfl
 ·simp only[World.cell?,hb];rfl
 ·simp only[World.frozen?,hb];rfl
 ·show Ints _ .u8 _ a (min n 500) _
  by_cases h0:min n 500=0
  ·exact .inl h0
  ·rcases hI with q | ⟨b,off,e,hq,hc⟩
   ·omega
   ·refine .inr ⟨b,off,e,lt_of_cell (hc 0 (by omega)),fun i hi=>?_⟩
    have hi':i<n:=by omega
    have h1:=cell_on (hc i hi') (bel1 w (.cells #[.slice a m c,.int .i64 0] t));rw[h1];have h2:=hB i hi';show some (Value.int .u8 (S i))=some (Value.int .u8 (((if i<n then (S i).toNat else 0:Nat)):Int))
    rw[if_pos hi']
    congr 2
    omega
set_option maxHeartbeats 2000000 in
theorem l1open_any(Q:Nat→Prop)(a:Option Addr)(n c:Nat)(S:Nat→Int)(w:World)(hI:Ints Q .u8 w a n S)(hB:Byt n S)(hn:n≤1048576)(hc:n≤c)(hnil:a=none→n=0∧c=0) :
  Calls Tryz.prog 11 #[.slice a n c] w fun e w'=>e=.returned (.pointer (some ⟨w.heap.size,0,none⟩))∧RdA (tpOf n S hB) w.heap.size w' 0∧Keep (fun _=>False) w w':=by
 have HF:Hid (∀m c',m=min n 500→RdA (tpOf n S hB) w.heap.size (w.alloc (.cells #[.slice a m c',.int .i64 0] 72)) 0):=fun m c' hm=>rd_new hI hB hm
 clear hI;cases a with
 |none =>
  obtain⟨rfl,rfl⟩:=hnil rfl;go_enter Tryz.func11,Tryz.ntmps11;go_wp2;go_ret;exact⟨rfl,HF.out 0 0 rfl,Keep.alloc _ _ _⟩
 |some x =>
  clear hnil;by_cases h5:500<n
  ·have d:decide ((500:Int)<n)=true:=by simp;omega
   go_enter Tryz.func11,Tryz.ntmps11;go_wp2;go_ret;exact⟨rfl,HF.out 500 c (by omega),Keep.alloc _ _ _⟩
  ·have d:decide ((500:Int)<n)=false:=by simp;omega
   go_enter Tryz.func11,Tryz.ntmps11;go_wp2;go_ret;exact⟨rfl,HF.out n c (by omega),Keep.alloc _ _ _⟩
def drawn(t:Tp):Gr:=gram (anyG t 0).1.1 (anyG t 0).1.2
theorem drawn_small(t:Tp):SmallG (drawn t):=small_gram (sm_any t 0).1 (sm_any t 0).2
def DrawIs(g:Gr)(w:World)(e:Ending)(w':World):Prop :=
 ∃ra rc la lc,e=.returned (.agg #[.slice ra g.nr rc,.slice la g.nb lc])∧GramX (New w w') w' ra la g∧Below w.heap.size w w'
set_option maxRecDepth 100000 in
set_option maxHeartbeats 4000000 in
theorem drawCompile_any(Q:Nat→Prop)(a:Option Addr)(n c:Nat)(S:Nat→Int)(w:World)(hI:Ints Q .u8 w a n S)(hB:Byt n S)(hn:n≤1048576)(hc:n≤c)(hnil:a=none→n=0∧c=0) :
  Calls Tryz.prog 4 #[.slice a n c] w (DrawIs (drawn (tpOf n S hB)) w):=by
 have HI:Hid (Ints Q .u8 w a n S):=hI;clear hI;obtain⟨tp,htp⟩:∃x,tpOf n S hB=x:=⟨_,rfl⟩;have HOP:Hid (∀W,Ints Q .u8 W a n S→Calls Tryz.prog 11 #[.slice a n c] W fun e w'=>e=.returned (.pointer (some ⟨W.heap.size,0,none⟩))∧RdA tp W.heap.size w' 0∧Keep (fun _=>False) W w'):=fun W hW=>htp▸l1open_any Q a n c S W hW hB hn hc hnil
 rw[htp];clear htp hB hnil;obtain⟨p,hp⟩:∃p,anyG tp 0=p:=⟨_,rfl⟩;have hdr:drawn tp=gram p.1.1 p.1.2:=by unfold drawn;rw[hp]
 rw[hdr];have HAN:Hid (∀R W,RdA tp R W 0→Calls Tryz.prog 12 #[.pointer (some ⟨R,0,none⟩)] W (DrG tp R p W)):=fun R W h=>l2drawAny_any tp R 0 W h p hp
 clear hdr hp;obtain⟨⟨p1,p2⟩,p3⟩:=p;go_enter Tryz.func4,Tryz.ntmps4;go_wp2_with fail;have HTW:Hid (Two w.heap.size (w.alloc (.cells #[.slice none 0 0,.slice none 0 0] 26))):=two_new w;have HK0:Hid (Keep (fun _=>False) w (w.alloc (.cells #[.slice none 0 0,.slice none 0 0] 26))):=Keep.alloc _ _ _
 have HS1:Hid ((w.alloc (.cells #[.slice none 0 0,.slice none 0 0] 26)).heap.size=w.heap.size+1):=World.size_alloc _ _;generalize w.alloc (.cells #[.slice none 0 0,.slice none 0 0] 26)=W1 at *;refine Calls.mono (HOP.out W1 (HI.out.later HK0.out.bel)) ?_;rintro e W2 ⟨rfl,hrd,hk2⟩;have HK2:Hid (Keep (fun _=>False) W1 W2):=hk2
 have HRD:Hid (RdA tp W1.heap.size W2 0):=hrd;clear hrd hk2;go_wp2_with fail;refine Calls.mono (HAN.out W1.heap.size W2 HRD.out) ?_;rintro e W3 ⟨rv,lv,G,rs,ls,rfl,hgr,hrs,hls,hon⟩;obtain⟨ra,rc,rfl⟩:=own_shape hgr.rules;obtain⟨la,lc,rfl⟩:=own_shape hgr.labs;obtain⟨s0,s1,sf0,sf1⟩:=(HTW.out.keep HK2.out (fun e=>e)).keep hon.2 (fun e=>by have h1:=HS1.out;omega)
 have hz2:=HK2.out.size;have hs1:=HS1.out;have hG:G w.heap.size=3:=hgr.tag (by omega)
 have hfin:=((hgr.set (o:=0) (u:=.slice ra rs.length rc) hG).set (o:=1) (u:=.slice la ls.length lc) hG).base (w1:=w) (by omega)
 obtain⟨ra',rc',la',lc',e1,e2,hX⟩:=hfin.gram;have hkf:Keep (fun b=>b=W1.heap.size) w W3:=keep_far (R:=W1.heap.size) ((HK0.out.trans HK2.out).mono (fun _ e=>e.elim)) hon.2 (fun b e=>.inl e)
 have hbel:Below w.heap.size w W3:=hkf.below (Nat.le_refl _) (fun b hb e=>by omega)
 have HE:Hid (DrawIs (gram p1 p2) w (.returned (.agg #[.slice ra rs.length rc,.slice la ls.length lc])) ((W3.setCell ⟨w.heap.size,0,none⟩ (.slice ra rs.length rc)).setCell ⟨w.heap.size,1,none⟩ (.slice la ls.length lc))):=by
  injection e1 with e1a e1b e1c
  injection e2 with e2a e2b e2c
  subst e1a e2a;have hrs':rs.map (·.d)=p1:=hrs
  have hls':ls.map (·.d)=p2:=hls
  rw[hrs',hls']at hX;refine⟨ra,rc,la,lc,?_,hX,bel_set (bel_set hbel _ _ _ (Nat.le_refl _)) _ _ _ (Nat.le_refl _)⟩;show _=Ending.returned (.agg #[.slice ra p1.length rc,.slice la p2.length lc]);rw[←hrs',←hls',List.length_map,List.length_map]
 clear hgr hrs hls hon hG hfin hX e1 e2 hkf hbel hs1;go_wp2;refine bodyPost_ret (v:=.agg #[.slice ra rs.length rc,.slice la ls.length lc]) ?_ rfl ?_
 ·simp[results,Tryz.f4,go_sem, *]
 ·exact HE.out
set_option maxHeartbeats 2000000 in
theorem take_any(Q:Nat→Prop)(a:Option Addr)(n c i:Nat)(S:Nat→Int)(w:World)(hI:Ints Q .u8 w a n S)(hB:Byt n S)(hn:n≤1048576)(hi:i≤10) :
  Calls Tryz.prog 6 #[.slice a n c,.int .i64 (i:Int)] w fun e w'=>(∃v:Nat,e=.returned (.int .i64 (v:Int))∧v≤255)∧w=w':=by
 by_cases hlt:i<n
 ·rcases hI with q | ⟨b,off,rfl,_,hc⟩
  ·omega
  have c1:=hc i hlt;obtain⟨b0,b1⟩:=hB i hlt;obtain⟨v,hv⟩:∃v:Nat,S i=(v:Int):=⟨(S i).toNat,by omega⟩
  rw[hv]at c1 b1;have hv2:v≤255:=by omega
  have hd:¬(n:Int)≤(i:Int):=by omega
  have hlt':(i:Int)<(n:Int):=by omega
  clear hc b0 hv;go_enter Tryz.func6,Tryz.ntmps6;go_wp2;go_ret;exact⟨⟨v,rfl,hv2⟩,rfl⟩
 ·have hd:(n:Int)≤(i:Int):=by omega
  go_enter Tryz.func6,Tryz.ntmps6;go_wp2;go_ret;exact⟨⟨0,rfl,by omega⟩,rfl⟩
end
end Go.Proofs.YtcbnnfnlilbjeaaGreat
