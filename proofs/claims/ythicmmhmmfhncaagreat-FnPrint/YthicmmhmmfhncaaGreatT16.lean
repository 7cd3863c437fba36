import Derived.Test.YthicmmhmmfhncaaGreatT11
import Derived.Test.YthicmmhmmfhncaaGreatT12
import Derived.Test.YthicmmhmmfhncaaGreatT13
set_option linter.unusedVariables false
set_option linter.unusedSimpArgs false
namespace Go.Proofs.YthicmmhmmfhncaaGreat
section
open Go.RowKit
open M (OpD uj Gr)
theorem unz (args : Array Value) (w : World) : (callFunc 64 args).run Tryz.prog w = .ok (.enter 64 args) w:=by
  simp [callFunc,Tryz.func64,Tryz.f64,go_sem]
theorem LpS.drewN {t : Tp} {R : Nat} {w0 w : World} {gb : Nat} {G : Nat→Nat} {W : World} {rv lv : Value} {rs ls : List zNC} {i : Nat} (h : LpS t R w0 w gb G W rv lv rs ls i) : LpS t R w0 w gb G W.drew rv lv rs ls i :=
  ⟨⟨h.gv.c0,h.gv.c1,h.gv.f0,h.gv.f1,h.gv.gr.on (Nat.le_refl _) (fun _ _ _=>rfl) (fun _ _=>rfl) h.gv.gr.new,h.gv.tg,h.gv.lt,h.gv.le⟩,h.tw,h.tg,h.rd.keep (Keep.drew (fun _=>False) _) (fun _ e=>e.elim),h.kp.trans (Keep.drew _ _)⟩
set_option maxRecDepth 100000 in
set_option maxHeartbeats 40000000 in
theorem ugN (t : Tp) (R i : Nat) (w0 w : World) (G : Nat→Nat) (ra la : Option Addr) (rc lc : Nat) (rs ls : List zNC) (h : zGrP w0 G w (.slice ra rs.length rc) (.slice la ls.length lc) rs ls) (hz : w0.heap.size≤w.heap.size) (hr : RdA t R w i) (hRw : R<w0.heap.size) (hrn : 0<rs.length) (hrl : rs.length≤1000) (hll : ls.length≤1000) (hsm : ∀ x∈rs,0<x.d.bd.length∧Lil 1000 x.d.bd) (p : (List zNL × List zNL) × Nat) (hp : ucb t i (rs.map (·.d)) (ls.map (·.d))=p) :
    Calls Tryz.prog 30 #[.agg #[.slice ra rs.length rc,.slice la ls.length lc],.pointer (some ⟨R,0,none⟩)] w (DrX t R w0 p w):=by
  obtain ⟨G1,hS⟩:=ugI h hz hr hRw
  have HSM:Hid (∀ x∈rs,0<x.d.bd.length∧Lil 1000 x.d.bd):=hsm
  have hv0:=t.v_le i
  have hv1:=t.v_le (t.n i)
  unfold ucb at hp
  dsimp only at hp
  rw [List.length_map,List.length_map] at hp
  obtain ⟨n,hn⟩:∃ n,rs.length=n:=⟨_,rfl⟩
  obtain ⟨m,hm⟩:∃ m,ls.length=m:=⟨_,rfl⟩
  rw [hn,hm] at hp
  rw [hn] at hrn hrl
  rw [hm] at hll
  have HN:Hid (rs.length=n):=hn
  have HM:Hid (ls.length=m):=hm
  rw [hn,hm] at hS
  rw [hn,hm]
  have HR:Hid (R<w0.heap.size∧w0.heap.size≤w.heap.size):=⟨hRw,hz⟩
  have hn0:¬ (n:Int)=0:=by omega
  obtain ⟨i1,hi1⟩:∃ x,t.n i=x:=⟨_,rfl⟩
  obtain ⟨i2,hi2⟩:∃ x,t.n i1=x:=⟨_,rfl⟩
  obtain ⟨ki,hki⟩:∃ x,t.v i=x:=⟨_,rfl⟩
  obtain ⟨k1,hk1⟩:∃ x,t.v i1=x:=⟨_,rfl⟩
  obtain ⟨a,ha⟩:∃ x,k1 % n=x:=⟨_,rfl⟩
  obtain ⟨q,hq⟩:∃ x,ki % 12=x:=⟨_,rfl⟩
  rw [hi1,hi2,hki,hk1,ha,hq] at hp
  rw [hi1,hk1] at hv1
  rw [hki] at hv0
  have hal:a<n:=ha ▸ Nat.mod_lt k1 hrn
  have hal2:a≤1000:=by omega
  have ha':(k1:Int) % (n:Int)=(a:Int):=by rw [← ha];omega
  have hq':(ki:Int) % 12=(q:Int):=by omega
  have hnn:¬ n=0:=by omega
  have hat:(k1:Int).tmod (n:Int)=(a:Int):=by rw [Int.tmod_eq_emod_of_nonneg (by omega)];exact ha'
  have hql:q<12:=by omega
  have HX0:Hid (∀ W,RdA t R W i→Calls Tryz.prog 27 #[.pointer (some ⟨R,0,none⟩)] W (fun e w'=>e = .returned (.int .i64 (ki:Int))∧RdOn t R i1 W w')):=fun W hW=>by have h:=uN t R i W hW;rw [hi1,hki] at h;exact h
  have HX1:Hid (∀ W,RdA t R W i1→Calls Tryz.prog 27 #[.pointer (some ⟨R,0,none⟩)] W (fun e w'=>e = .returned (.int .i64 (k1:Int))∧RdOn t R i2 W w')):=fun W hW=>by have h:=uN t R i1 W hW;rw [hi2,hk1] at h;exact h
  clear h hr hsm hn hm hi1 hi2 hki hk1 ha hq
  go_enter Tryz.func30,Tryz.ntmps30
  go_wp2_with fail
  generalize (w.alloc (.cells #[.slice ra n rc,.slice la m lc] 26)).alloc (.cells #[.slice none 0 0,.slice none 0 0] 26)=W1 at *
  have HW1:Hid (LpS t R w0 w w.heap.size G1 W1 (.slice ra n rc) (.slice la m lc) rs ls i):=hS
  clear hS
  refine Calls.mono (HX0.out W1 HW1.out.rd) ?_
  rintro e W2 ⟨rfl,hon⟩
  have HW2:Hid (LpS t R w0 w w.heap.size (uK G1 W1 3) W2 (.slice ra n rc) (.slice la m lc) rs ls i1):=HW1.out.on hon HR.out
  clear hon HW1
  generalize uK G1 W1 3=G2 at *
  have c0:=HW2.out.gv.c0
  go_wp2_with fail
  simp only [hq']
  go_cut [6] from 8 to 115 (fun v wc=>v = .int .i64 (a:Int)∧RdOn t R i2 W2 wc)
  case first =>
    go_region_law
      (refine yZ ufJ rfl (.tmp 11) 34 rfl (y1:=.pointer (some ⟨R,0,none⟩)) (by simp [Act.eval,Act.put]) (Calls.mono (HX1.out W2.drew (HW2.out.rd.keep (Keep.drew (fun _=>False) _) (fun _ e=>e.elim))) ?_)
       rintro e U ⟨rfl,hon⟩
       have HO:Hid (RdOn t R i2 W2 U):=⟨hon.1,(Keep.drew _ _).trans hon.2⟩
       have zu:=(HW2.out.gv.later HO.out.2 (fun b e=>⟨by omega,by omega⟩) 3).c0
       have zul:=ub zu
       clear hon
       refine ⟨_,rfl,?_⟩)
    all_goals go_goals
    all_goals go_wp2_with fail
    all_goals go_meet
    all_goals exact ⟨rfl,HO.out⟩
  case rest =>
    obtain ⟨rfl,hon⟩:=hcut
    obtain ⟨W4,hw⟩:∃ x,x=wc:=⟨_,rfl⟩
    subst hw
    have HW4:Hid (LpS t R w0 w w.heap.size (uK G2 W2 3) W4 (.slice ra n rc) (.slice la m lc) rs ls i2):=HW2.out.on hon HR.out
    clear hon HW2 c0
    generalize uK G2 W2 3=GW4 at *
    obtain ⟨xr,hxr⟩:∃ x,rs[a]? = some x:=⟨_,List.getElem?_eq_getElem (by have:=HN.out;omega)⟩
    have HXR:Hid (rs[a]? = some xr):=hxr
    obtain ⟨g,cg,eg,hgt,_,r0,r1,rf0,rf1⟩:=HW4.out.gv.gr.ruleAt hxr
    obtain rfl:ra=some ⟨g,0,none⟩:=by injection eg
    have HGT:Hid (zTg GW4 W4 0 g):=hgt
    have c0:=HW4.out.gv.c0
    have c1:=HW4.out.gv.c1
    have cf0:=HW4.out.gv.f0
    have cf1:=HW4.out.gv.f1
    have hgl:=hgt.1
    have hgbl:w.heap.size<W4.heap.size:=HW4.out.gv.lt
    have hal':(a:Int)<(n:Int):=by omega
    rw [jz hxr] at hp
    have HBS:Hid (∀ D ba bc,(rs.set a ⟨⟨xr.d.nm,xr.d.has,D⟩,xr.na,xr.nc,ba,bc⟩).map (·.d)=uac (rs.map (·.d)) a D):=fun D ba bc=>by rw [List.map_set];unfold uac;rw [jz HXR.out]
    have HNS:Hid (∀ z na nc,(rs.set a ⟨⟨z,xr.d.has,xr.d.bd⟩,na,nc,xr.ba,xr.bc⟩).map (·.d)=(rs.map (·.d)).set a ⟨z,xr.d.has,xr.d.bd⟩):=fun z na nc=>by rw [List.map_set]
    clear eg hgt hxr
    go_upto_if 18 with fail
    go_cut [5] from 8 to 115 (fun v wc=>v = .int .i64 (q:Int)∧∃ G rv' lv' rs' ls' i',LpS t R w0 w w.heap.size G wc rv' lv' rs' ls' i'∧((rs'.map (·.d),ls'.map (·.d)),i')=p)
    case first =>
      by_cases q0:q<4
      · rw [if_pos q0] at hp
        have q0':(q:Int)<4:=by omega
        obtain ⟨sb,hsb⟩:∃ x,uan t i2 xr.d.bd=x:=⟨_,rfl⟩
        rw [hsb] at hp
        subst hp
        obtain ⟨hxne,hxlil⟩:=HSM.out xr (List.mem_of_getElem? HXR.out)
        have hP:∀ b,zTg GW4 W4 (4+2*a) b→b<W4.heap.size∧R<b:=fun b x=>⟨x.1,by have h1:=HW4.out.gv.gr.new b (by rw [x.2];omega);omega⟩
        have HC:Hid (Calls Tryz.prog 64 #[.slice xr.ba xr.d.bd.length xr.bc,.pointer (some ⟨R,0,none⟩)] W4.drew (udO t R (zTg GW4 W4 (4+2*a)) sb W4.drew)):=ucU t R i2 (zTg GW4 W4 (4+2*a)) xr.ba xr.bc xr.d.bd W4.drew (HW4.out.rd.keep (Keep.drew (fun _=>False) _) (fun _ e=>e.elim)) ((HW4.out.gv.gr.rb a xr HXR.out).on (fun b x=>rfl)) hP hxne (by have:=hxlil.1;omega) (fun x hx=>by have:=hxlil.2 x hx;omega) sb hsb
        have HNG:Hid (¬ (w.heap.size=R∨zTg GW4 W4 (4+2*a) w.heap.size)):=fun x=>x.elim (fun x=>by omega) (fun x=>by have h1:=x.2;rw [HW4.out.gv.tg] at h1;omega)
        have HNR:Hid (¬ (g=R∨zTg GW4 W4 (4+2*a) g)):=fun x=>x.elim (fun x=>by have h1:=HW4.out.gv.gr.new g (by rw [HGT.out.2];omega);omega) (fun x=>by have h1:=x.2;rw [HGT.out.2] at h1;omega)
        clear hsb hP hxlil
        go_wp2_with fail
        go_region_law
          (refine ym unz rfl (.tmp 27) (.tmp 28) 37 34 rfl (y1:=.slice xr.ba xr.d.bd.length xr.bc) (y2:=.pointer (some ⟨R,0,none⟩)) (by simp [Act.eval,Act.put]) (by simp [Act.eval,Act.put]) (Calls.mono HC.out ?_)
           rintro e V ⟨a1,c1',rfl,hbod,hrd,hk⟩
           have hk':Keep (fun b=>b=R∨zTg GW4 W4 (4+2*a) b) W4 V:=(Keep.drew _ _).trans hk
           have hzv:=hk'.size
           obtain ⟨G5,hS5⟩:=HW4.out.spoil HR.out hk' hrd hbod HXR.out HGT.out
           have HS5:Hid (∃ G5,LpS t R w0 w w.heap.size G5 (V.setCell ⟨g,a*2+1,none⟩ (.slice a1 sb.1.length c1')) (.slice (some ⟨g,0,none⟩) n rc) (.slice la m lc) (rs.set a ⟨⟨xr.d.nm,xr.d.has,sb.1⟩,xr.na,xr.nc,a1,c1'⟩) ls sb.2):=⟨G5,hS5⟩
           have hbg:V.heap[w.heap.size]? = W4.heap[w.heap.size]?:=hk'.block _ hgbl HNG.out
           have z0:=(World.cell?_of_block (a:=⟨w.heap.size,0,none⟩) hbg).trans c0
           have hbr:V.heap[g]? = W4.heap[g]?:=hk'.block _ hgl HNR.out
           have z1:=(World.cell?_of_block (a:=⟨g,a*2+1,none⟩) hbr).trans r1
           have z2:=(World.frozen?_of_block (a:=⟨g,a*2+1,none⟩) hbr).trans rf1
           clear hk hk' hbod hrd hS5 hbg hbr
           refine ⟨_,rfl,?_⟩)
        all_goals go_goals
        all_goals go_wp2_with fail
        all_goals go_meet
        all_goals (obtain ⟨G5,h5⟩:=HS5.out;exact ⟨rfl,G5,_,_,_,_,_,h5,by rw [HBS.out]⟩)
      have q0':¬ (q:Int)<4:=by omega
      rw [if_neg q0] at hp
      by_cases q4:q=4
      · rw [if_pos q4] at hp
        subst q4 hp
        go_wp2_with fail
        go_region_law
          (first
            | (refine yZ ufF rfl (.tmp 36) 3 rfl (y1:=.int .i64 (a:Int)) (by simp [Act.eval,Act.put]) ((kH a (by omega) W4.drew).mono ?_)
               rintro e V1 ⟨v,rfl,na,nc,rfl,hna,hk5⟩
               have K1:Hid (Keep (fun _=>False) W4 V1):=(Keep.drew _ _).trans hk5
               have HN1:Hid (Ints (New W4 V1) .u8 V1 na 1 (lf [((115+a % 8:Nat):Int)])):=hna
               have z1:=(HW4.out.gv.later K1.out (fun _ e=>e.elim) 3).c0
               have zl1:=ub z1
               clear hna hk5
               refine ⟨_,rfl,?_⟩)
            | (refine ym yu rfl (.const (.int .i64 0)) (.const (.int .i64 0)) 3 3 rfl (y1:=.int .i64 0) (y2:=.int .i64 0) rfl rfl ((uG 0 0 V1).mono ?_)
               rintro e V2 ⟨a2,c2,rfl,hbod,hkk⟩
               have K2:Hid (Keep (fun _=>False) V1 V2):=hkk
               have HB2:Hid (BodP (New V1 V2) V2 (.slice a2 (uf 0 0).length c2) (uf 0 0)):=hbod
               have z2:=(HW4.out.gv.later (K1.out.trans hkk) (fun _ e=>e.elim) 3).c0
               have zl2:=ub z2
               clear hbod hkk
               refine ⟨_,rfl,?_⟩)
            | (have HM:Hid (∃ G',(∀ b,b<W4.heap.size→G' b=GW4 b)∧zGVar w.heap.size w0 G' (V2.alloc (.cells #[.slice na 1 nc,.slice a2 (uf 0 0).length c2] 39)) (.slice (some ⟨g,0,none⟩) n rc) (.slice la m lc) rs ls∧Ints (zTg G' (V2.alloc (.cells #[.slice na 1 nc,.slice a2 (uf 0 0).length c2] 39)) 2) .u8 (V2.alloc (.cells #[.slice na 1 nc,.slice a2 (uf 0 0).length c2] 39)) na 1 (lf [((115+a % 8:Nat):Int)])∧BodP (zTg G' (V2.alloc (.cells #[.slice na 1 nc,.slice a2 (uf 0 0).length c2] 39)) (4+2*rs.length)) (V2.alloc (.cells #[.slice na 1 nc,.slice a2 (uf 0 0).length c2] 39)) (.slice a2 (uf 0 0).length c2) (uf 0 0)):=xI (z:=[((115+a % 8:Nat):Int)]) (N:=New W4 V1) (B:=New V1 V2) (4+2*rs.length) HW4.out.gv ((K1.out.trans K2.out).trans (Keep.alloc _ _ _)) ((HN1.out.later K2.out.bel).later (up V2 _)) (HB2.out.later (C:=fun _=>False) (Keep.alloc _ _ _) (fun x e=>e.elim)) (fun x y=>⟨y.1,by have h1:=y.2;have h2:=K2.out.size;simp;omega⟩) (fun x y=>⟨by have h1:=y.1;have h2:=K1.out.size;omega,by have h1:=y.2;simp;omega⟩) (fun x y y'=>by have h1:=y.2;have h2:=y'.1;omega)
               obtain ⟨G2,hold,hg2,hn2,hb2⟩:=HM.out
               refine kE rfl (.tmp 35) (.tmp 40) 23 23 rfl (v:=.slice (some ⟨g,0,none⟩) n rc) (y:=.slice (some ⟨V2.heap.size,0,none⟩) 1 1) (by simp [Act.eval,Act.put]) (by simp [Act.eval,Act.put]) uae (Q:=zTg G2 (V2.alloc (.cells #[.slice na 1 nc,.slice a2 (uf 0 0).length c2] 39)) 0) (n:=rs.length) (cs:=rs.flatMap vF) (news:=vF ⟨⟨[((115+a % 8:Nat):Int)],true,uf 0 0⟩,na,nc,a2,c2⟩) hg2.gr.rules (jx (x:=⟨⟨[((115+a % 8:Nat):Int)],true,uf 0 0⟩,na,nc,a2,c2⟩) (World.alloc_heap_new V2 _)) (by have:=HN.out;omega) ?_
               intro v6 W6 hown hgrew hsz
               obtain ⟨a6,c6,rfl⟩:=um hown
               obtain ⟨y1,_,y2,_⟩:=vf hg2 (by omega) hgrew
               have HS5:Hid (∃ G5,LpS t R w0 w w.heap.size G5 (W6.setCell ⟨w.heap.size,0,none⟩ (.slice a6 (rs.length+1) c6)) (.slice a6 (rs.length+1) c6) (.slice la m lc) (rs ++ [⟨⟨[((115+a % 8:Nat):Int)],true,uf 0 0⟩,na,nc,a2,c2⟩]) ls i2):=HW4.out.addRule (x:=⟨⟨[((115+a % 8:Nat):Int)],true,uf 0 0⟩,na,nc,a2,c2⟩) HR.out ((K1.out.trans K2.out).trans (Keep.alloc _ _ _)) hold hg2 hn2 hb2 hown hgrew
               clear hown hgrew hsz hold hg2 hn2 hb2 HM))
        all_goals go_goals
        all_goals go_wp2_with fail
        all_goals go_meet
        all_goals (obtain ⟨G5,h5⟩:=HS5.out;exact ⟨rfl,G5,_,_,_,_,_,h5,by rw [List.map_append];rfl⟩)
      have q4':¬ (q:Int)=4:=by omega
      rw [if_neg q4] at hp
      by_cases q5:q=5
      · rw [if_pos q5] at hp
        subst q5 hp
        go_wp2_with (refine ual rfl _ rfl rfl ?_;intro V hV;have KV:Hid (Keep (fun _=>False) W4 V):=hV ▸ yG _ _;have HI:Hid (Ints (New W4 V) .u8 V (some ⟨W4.heap.size,0,none⟩) 2 (lf [49,97])):=hV ▸ xB W4 [49,97] (by simp);have hvz:=KV.out.size;have y0:=(World.cell?_of_block (a:=⟨g,a*2,none⟩) (KV.out.block g hgl (fun e=>e))).trans r0;have y1:=(World.frozen?_of_block (a:=⟨g,a*2,none⟩) (KV.out.block g hgl (fun e=>e))).trans rf0;clear hV)
        have HS5:Hid (∃ G5,LpS t R w0 w w.heap.size G5 (V.setCell ⟨g,a*2,none⟩ (.slice (some ⟨W4.heap.size,0,none⟩) 2 2)) (.slice (some ⟨g,0,none⟩) n rc) (.slice la m lc) (rs.set a ⟨⟨[49,97],xr.d.has,xr.d.bd⟩,some ⟨W4.heap.size,0,none⟩,2,xr.ba,xr.bc⟩) ls i2):=HW4.out.name (z:=[49,97]) HR.out KV.out HI.out HXR.out HGT.out
        go_meet
        obtain ⟨G5,h5⟩:=HS5.out
        exact ⟨by first | rfl | (rw [q9']),G5,_,_,_,_,_,h5,by rw [HNS.out]⟩
      have q5':¬ (q:Int)=5:=by omega
      rw [if_neg q5] at hp
      by_cases q6:q=6
      · rw [if_pos q6] at hp
        subst q6 hp
        have HS5:Hid (LpS t R w0 w w.heap.size GW4 (W4.setCell ⟨g,a*2,none⟩ (.slice none 0 0)) (.slice (some ⟨g,0,none⟩) n rc) (.slice la m lc) (rs.set a ⟨⟨[],xr.d.has,xr.d.bd⟩,none,0,xr.ba,xr.bc⟩) ls i2):=HW4.out.putR (j:=0) (y:=⟨⟨[],xr.d.has,xr.d.bd⟩,none,0,xr.ba,xr.bc⟩) HR.out HXR.out HGT.out (by omega) (by simp [vF]) (.inl rfl) (HW4.out.gv.gr.rb a xr HXR.out)
        go_wp2_with fail
        go_meet
        exact ⟨rfl,GW4,_,_,_,_,_,HS5.out,by rw [HNS.out]⟩
      have q6':¬ (q:Int)=6:=by omega
      rw [if_neg q6] at hp
      by_cases q7:q=7
      · rw [if_pos q7] at hp
        subst q7 hp
        have HM0:Hid (ls.length=m):=HM.out
        have HMK:Hid (∀ V1,Keep (fun _=>False) W4 V1→Keep (fun _=>False) W4 (vI V1 W4.heap.size 1)):=fun V1 k=>⟨k.os,k.tape,k.output,by rw [kG];exact k.size,fun b hb e=>(qr V1 _ _ b (by omega)).trans (k.block b hb e)⟩
        have HMI:Hid (∀ V1,V1.heap[W4.heap.size]? = some (.cells #[.int .u8 97] 5)→Ints (fun b=>b=W4.heap.size) .u8 (vI V1 W4.heap.size 1) (some ⟨W4.heap.size,0,none⟩) [(97:Int)].length (lf [97])):=fun V1 hv=>.inr ⟨W4.heap.size,0,rfl,rfl,fun k hk=>by
          rw [Nat.zero_add,ugG V1 _ _ hv]
          match k,hk with
          | 0,_=>rfl⟩
        have HKA:Hid (Keep (fun _=>False) W4 (W4.alloc (.cells #[.int .u8 97] 5)).drew):=(Keep.alloc _ _ _).trans (Keep.drew _ _)
        have HAN:Hid ((W4.alloc (.cells #[.int .u8 97] 5)).drew.heap[W4.heap.size]? = some (.cells #[.int .u8 97] 5)):=World.alloc_heap_new W4 _
        have HKL:Hid (Keep (fun _=>False) W4 (vI (W4.alloc (.cells #[.int .u8 97] 5)).drew W4.heap.size 1)):=HMK.out _ HKA.out
        have HNL:Hid (Ints (fun b=>b=W4.heap.size) .u8 (vI (W4.alloc (.cells #[.int .u8 97] 5)).drew W4.heap.size 1) (some ⟨W4.heap.size,0,none⟩) 1 (lf [97])):=HMI.out _ HAN.out
        have HSL:Hid ((vI (W4.alloc (.cells #[.int .u8 97] 5)).drew W4.heap.size 1).heap.size=W4.heap.size+1):=by
          show _=_
          rw [kG];simp
        have yl:(vI (W4.alloc (.cells #[.int .u8 97] 5)).drew W4.heap.size 1).cell? ⟨w.heap.size,1,none⟩=some (.slice la m lc):=(HW4.out.gv.later HKL.out (fun _ e=>e.elim) 3).c1
        have yll:=ub yl
        have hlit:(convert 22 22 (.slice (some ⟨W4.heap.size,0,none⟩) 1 1)).run Tryz.prog (W4.alloc (.cells #[.int .u8 97] 5)).drew = .ok (.slice (some ⟨W4.heap.size,0,none⟩) 1 1) (vI (W4.alloc (.cells #[.int .u8 97] 5)).drew W4.heap.size 1):=ueU _ _ _ _ _ (ugH HAN.out)
        go_wp2_with fail
        go_region_law
          (first
            | (refine ym yu rfl (.const (.int .i64 0)) (.const (.int .i64 0)) 3 3 rfl (y1:=.int .i64 0) (y2:=.int .i64 0) rfl rfl ((uG 0 0 (vI (W4.alloc (.cells #[.int .u8 97] 5)).drew W4.heap.size 1)).mono ?_)
               rintro e V1 ⟨a2,c2,rfl,hbod,hkk⟩
               have KA:Hid (Keep (fun _=>False) (vI (W4.alloc (.cells #[.int .u8 97] 5)).drew W4.heap.size 1) V1):=hkk
               have HBA:Hid (BodP (New (vI (W4.alloc (.cells #[.int .u8 97] 5)).drew W4.heap.size 1) V1) V1 (.slice a2 (uf 0 0).length c2) (uf 0 0)):=hbod
               have z1:=(HW4.out.gv.later (HKL.out.trans hkk) (fun _ e=>e.elim) 3).c1
               have zl1:=ub z1
               clear hbod hkk
               refine ⟨_,rfl,?_⟩)
            | (refine ym yu rfl (.const (.int .i64 0)) (.const (.int .i64 0)) 3 3 rfl (y1:=.int .i64 0) (y2:=.int .i64 0) rfl rfl ((uG 0 0 (W4.alloc (.cells #[.int .u8 97] 5)).drew).mono ?_)
               rintro e V1 ⟨a2,c2,rfl,hbod,hkk⟩
               have KB:Hid (Keep (fun _=>False) (W4.alloc (.cells #[.int .u8 97] 5)).drew V1):=hkk
               have HBB:Hid (BodP (New (W4.alloc (.cells #[.int .u8 97] 5)).drew V1) V1 (.slice a2 (uf 0 0).length c2) (uf 0 0)):=hbod
               have z1:=(HW4.out.gv.later (HKA.out.trans hkk) (fun _ e=>e.elim) 3).c1
               have zl1:=ub z1
               have hbB:V1.heap[W4.heap.size]? = some (.cells #[.int .u8 97] 5):=(hkk.block W4.heap.size (by simp) (fun e=>e)).trans HAN.out
               have HBK:Hid (V1.heap[W4.heap.size]? = some (.cells #[.int .u8 97] 5)):=hbB
               have hmk:(convert 22 22 (.slice (some ⟨W4.heap.size,0,none⟩) 1 1)).run Tryz.prog V1 = .ok (.slice (some ⟨W4.heap.size,0,none⟩) 1 1) (vI V1 W4.heap.size 1):=ueU _ _ _ _ _ (ugH hbB)
               have z2:(vI V1 W4.heap.size 1).cell? ⟨w.heap.size,1,none⟩=some (.slice la m lc):=(World.cell?_of_block (a:=⟨w.heap.size,1,none⟩) (qr V1 W4.heap.size 1 w.heap.size (by omega))).trans z1
               have zl2:=ub z2
               clear hbB
               clear hbod hkk
               refine ⟨_,rfl,?_⟩)
            | (refine ym yu rfl (.const (.int .i64 0)) (.const (.int .i64 0)) 3 3 rfl (y1:=.int .i64 0) (y2:=.int .i64 0) rfl rfl ((uG 0 0 W4.drew).mono ?_)
               rintro e V1 ⟨a2,c2,rfl,hbod,hkk⟩
               have KC:Hid (Keep (fun _=>False) W4 V1):=(Keep.drew _ _).trans hkk
               have HBC:Hid (BodP (New W4 V1) V1 (.slice a2 (uf 0 0).length c2) (uf 0 0)):=hbod
               have z1:=(HW4.out.gv.later KC.out (fun _ e=>e.elim) 3).c1
               have zl1:=ub z1
               have hmk:(convert 22 22 (.slice (some ⟨V1.heap.size,0,none⟩) 1 1)).run Tryz.prog (V1.alloc (.cells #[.int .u8 97] 5)) = .ok (.slice (some ⟨V1.heap.size,0,none⟩) 1 1) (xv V1 #[.int .u8 97]):=uiL _ _ _ _
               have z2:(xv V1 #[.int .u8 97]).cell? ⟨w.heap.size,1,none⟩=some (.slice la m lc):=(World.cell?_of_block (a:=⟨w.heap.size,1,none⟩) (udI V1 #[.int .u8 97] w.heap.size zl1)).trans z1
               have zl2:=ub z2
               clear hbod hkk
               refine ⟨_,rfl,?_⟩)
            | (have HM:Hid (∃ G',(∀ b,b<W4.heap.size→G' b=GW4 b)∧zGVar w.heap.size w0 G' (V1.alloc (.cells #[.slice (some ⟨W4.heap.size,0,none⟩) 1 1,.bool true,.slice a2 (uf 0 0).length c2] 42)) (.slice (some ⟨g,0,none⟩) n rc) (.slice la m lc) rs ls∧Ints (zTg G' (V1.alloc (.cells #[.slice (some ⟨W4.heap.size,0,none⟩) 1 1,.bool true,.slice a2 (uf 0 0).length c2] 42)) 2) .u8 (V1.alloc (.cells #[.slice (some ⟨W4.heap.size,0,none⟩) 1 1,.bool true,.slice a2 (uf 0 0).length c2] 42)) (some ⟨W4.heap.size,0,none⟩) 1 (lf [97])∧BodP (zTg G' (V1.alloc (.cells #[.slice (some ⟨W4.heap.size,0,none⟩) 1 1,.bool true,.slice a2 (uf 0 0).length c2] 42)) (5+2*ls.length)) (V1.alloc (.cells #[.slice (some ⟨W4.heap.size,0,none⟩) 1 1,.bool true,.slice a2 (uf 0 0).length c2] 42)) (.slice a2 (uf 0 0).length c2) (uf 0 0)):=xI (z:=[97]) (N:=fun b=>b=W4.heap.size) (B:=New (vI (W4.alloc (.cells #[.int .u8 97] 5)).drew W4.heap.size 1) V1) (5+2*ls.length) HW4.out.gv ((HKL.out.trans KA.out).trans (Keep.alloc _ _ _)) ((HNL.out.later KA.out.bel).later (up V1 _)) (HBA.out.on (fun x y=>Below.heap_alloc V1 _ _ (y.2))) (fun x y=>⟨by omega,by have h2:=KA.out.size;have h3:=HSL.out;simp;omega⟩) (fun x y=>⟨by have h1:=y.1;have h2:=HKL.out.size;omega,by have h1:=y.2;simp;omega⟩) (fun x y y'=>by have h2:=y'.1;have h3:=HSL.out;omega)
               obtain ⟨G2,hold,hg2,hn2,hb2⟩:=HM.out
               refine kE rfl (.tmp 62) (.tmp 67) 24 24 rfl (v:=.slice la m lc) (y:=.slice (some ⟨V1.heap.size,0,none⟩) 1 1) (by simp [Act.eval,Act.put]) (by simp [Act.eval,Act.put]) uak (Q:=zTg G2 (V1.alloc (.cells #[.slice (some ⟨W4.heap.size,0,none⟩) 1 1,.bool true,.slice a2 (uf 0 0).length c2] 42)) 1) (n:=ls.length) (cs:=ls.flatMap vC) (news:=vC ⟨⟨[97],true,uf 0 0⟩,some ⟨W4.heap.size,0,none⟩,1,a2,c2⟩) hg2.gr.labs (xA (x:=⟨⟨[97],true,uf 0 0⟩,some ⟨W4.heap.size,0,none⟩,1,a2,c2⟩) (World.alloc_heap_new V1 _)) (by have:=HM0.out;omega) ?_
               intro v6 W6 hown hgrew hsz
               obtain ⟨a6,c6,rfl⟩:=um hown
               obtain ⟨_,y1,_,y2⟩:=vf hg2 (by omega) hgrew
               have HS5:Hid (∃ G5 xa xc a2' c2',LpS t R w0 w w.heap.size G5 (W6.setCell ⟨w.heap.size,1,none⟩ (.slice a6 (ls.length+1) c6)) (.slice (some ⟨g,0,none⟩) n rc) (.slice a6 (ls.length+1) c6) rs (ls ++ [⟨⟨[97],true,uf 0 0⟩,xa,xc,a2',c2'⟩]) i2):=by
                 obtain ⟨G5,h5⟩:=HW4.out.addLabel (x:=⟨⟨[97],true,uf 0 0⟩,some ⟨W4.heap.size,0,none⟩,1,a2,c2⟩) HR.out ((HKL.out.trans KA.out).trans (Keep.alloc _ _ _)) hold hg2 hn2 hb2 hown hgrew
                 exact ⟨G5,_,_,_,_,h5⟩
               clear hown hgrew hsz hold hg2 hn2 hb2 HM)
            | (have HM:Hid (∃ G',(∀ b,b<W4.heap.size→G' b=GW4 b)∧zGVar w.heap.size w0 G' ((vI V1 W4.heap.size 1).alloc (.cells #[.slice (some ⟨W4.heap.size,0,none⟩) 1 1,.bool true,.slice a2 (uf 0 0).length c2] 42)) (.slice (some ⟨g,0,none⟩) n rc) (.slice la m lc) rs ls∧Ints (zTg G' ((vI V1 W4.heap.size 1).alloc (.cells #[.slice (some ⟨W4.heap.size,0,none⟩) 1 1,.bool true,.slice a2 (uf 0 0).length c2] 42)) 2) .u8 ((vI V1 W4.heap.size 1).alloc (.cells #[.slice (some ⟨W4.heap.size,0,none⟩) 1 1,.bool true,.slice a2 (uf 0 0).length c2] 42)) (some ⟨W4.heap.size,0,none⟩) 1 (lf [97])∧BodP (zTg G' ((vI V1 W4.heap.size 1).alloc (.cells #[.slice (some ⟨W4.heap.size,0,none⟩) 1 1,.bool true,.slice a2 (uf 0 0).length c2] 42)) (5+2*ls.length)) ((vI V1 W4.heap.size 1).alloc (.cells #[.slice (some ⟨W4.heap.size,0,none⟩) 1 1,.bool true,.slice a2 (uf 0 0).length c2] 42)) (.slice a2 (uf 0 0).length c2) (uf 0 0)):=xI (z:=[97]) (N:=fun b=>b=W4.heap.size) (B:=New (W4.alloc (.cells #[.int .u8 97] 5)).drew V1) (5+2*ls.length) HW4.out.gv ((HMK.out V1 (HKA.out.trans KB.out)).trans (Keep.alloc _ _ _)) ((HMI.out V1 HBK.out).later (up (vI V1 W4.heap.size 1) _)) ((HBB.out.on (fun x y=>qr V1 W4.heap.size 1 x (by have h1:=y.1;simp at h1;omega))).on (fun x y=>Below.heap_alloc (vI V1 W4.heap.size 1) _ _ (by rw [kG];exact y.2))) (fun x y=>⟨by omega,by have h2:=KB.out.size;simp [kG] at h2 ⊢;omega⟩) (fun x y=>⟨by have h1:=y.1;simp at h1;omega,by have h1:=y.2;simp [kG];omega⟩) (fun x y y'=>by have h1:=y'.1;simp at h1;omega)
               obtain ⟨G2,hold,hg2,hn2,hb2⟩:=HM.out
               refine kE rfl (.tmp 62) (.tmp 67) 24 24 rfl (v:=.slice la m lc) (y:=.slice (some ⟨(vI V1 W4.heap.size 1).heap.size,0,none⟩) 1 1) (by simp [Act.eval,Act.put]) (by simp [Act.eval,Act.put]) uak (Q:=zTg G2 ((vI V1 W4.heap.size 1).alloc (.cells #[.slice (some ⟨W4.heap.size,0,none⟩) 1 1,.bool true,.slice a2 (uf 0 0).length c2] 42)) 1) (n:=ls.length) (cs:=ls.flatMap vC) (news:=vC ⟨⟨[97],true,uf 0 0⟩,some ⟨W4.heap.size,0,none⟩,1,a2,c2⟩) hg2.gr.labs (xA (x:=⟨⟨[97],true,uf 0 0⟩,some ⟨W4.heap.size,0,none⟩,1,a2,c2⟩) (World.alloc_heap_new (vI V1 W4.heap.size 1) _)) (by have:=HM0.out;omega) ?_
               intro v6 W6 hown hgrew hsz
               obtain ⟨a6,c6,rfl⟩:=um hown
               obtain ⟨_,y1,_,y2⟩:=vf hg2 (by omega) hgrew
               have HS5:Hid (∃ G5 xa xc a2' c2',LpS t R w0 w w.heap.size G5 (W6.setCell ⟨w.heap.size,1,none⟩ (.slice a6 (ls.length+1) c6)) (.slice (some ⟨g,0,none⟩) n rc) (.slice a6 (ls.length+1) c6) rs (ls ++ [⟨⟨[97],true,uf 0 0⟩,xa,xc,a2',c2'⟩]) i2):=by
                 obtain ⟨G5,h5⟩:=HW4.out.addLabel (x:=⟨⟨[97],true,uf 0 0⟩,some ⟨W4.heap.size,0,none⟩,1,a2,c2⟩) HR.out ((HMK.out V1 (HKA.out.trans KB.out)).trans (Keep.alloc _ _ _)) hold hg2 hn2 hb2 hown hgrew
                 exact ⟨G5,_,_,_,_,h5⟩
               clear hown hgrew hsz hold hg2 hn2 hb2 HM)
            | (have HM:Hid (∃ G',(∀ b,b<W4.heap.size→G' b=GW4 b)∧zGVar w.heap.size w0 G' ((xv V1 #[.int .u8 97]).alloc (.cells #[.slice (some ⟨V1.heap.size,0,none⟩) 1 1,.bool true,.slice a2 (uf 0 0).length c2] 42)) (.slice (some ⟨g,0,none⟩) n rc) (.slice la m lc) rs ls∧Ints (zTg G' ((xv V1 #[.int .u8 97]).alloc (.cells #[.slice (some ⟨V1.heap.size,0,none⟩) 1 1,.bool true,.slice a2 (uf 0 0).length c2] 42)) 2) .u8 ((xv V1 #[.int .u8 97]).alloc (.cells #[.slice (some ⟨V1.heap.size,0,none⟩) 1 1,.bool true,.slice a2 (uf 0 0).length c2] 42)) (some ⟨V1.heap.size,0,none⟩) 1 (lf [97])∧BodP (zTg G' ((xv V1 #[.int .u8 97]).alloc (.cells #[.slice (some ⟨V1.heap.size,0,none⟩) 1 1,.bool true,.slice a2 (uf 0 0).length c2] 42)) (5+2*ls.length)) ((xv V1 #[.int .u8 97]).alloc (.cells #[.slice (some ⟨V1.heap.size,0,none⟩) 1 1,.bool true,.slice a2 (uf 0 0).length c2] 42)) (.slice a2 (uf 0 0).length c2) (uf 0 0)):=xI (z:=[97]) (N:=New V1 (xv V1 #[.int .u8 97])) (B:=New W4 V1) (5+2*ls.length) HW4.out.gv ((KC.out.trans (yG V1 _)).trans (Keep.alloc _ _ _)) ((xB V1 [97] (by simp)).later (up (xv V1 #[.int .u8 97]) _)) ((HBC.out.on (fun x y=>udI V1 #[.int .u8 97] x y.2)).on (fun x y=>Below.heap_alloc (xv V1 #[.int .u8 97]) _ _ (by rw [jy];have h1:=y.2;omega))) (fun x y=>⟨by have h1:=y.1;have h2:=KC.out.size;omega,by have h1:=y.2;simp;omega⟩) (fun x y=>⟨y.1,by have h1:=y.2;simp [jy];omega⟩) (fun x y y'=>by have h1:=y.1;have h2:=y'.2;omega)
               obtain ⟨G2,hold,hg2,hn2,hb2⟩:=HM.out
               refine kE rfl (.tmp 62) (.tmp 67) 24 24 rfl (v:=.slice la m lc) (y:=.slice (some ⟨(xv V1 #[.int .u8 97]).heap.size,0,none⟩) 1 1) (by simp [Act.eval,Act.put]) (by simp [Act.eval,Act.put]) uak (Q:=zTg G2 ((xv V1 #[.int .u8 97]).alloc (.cells #[.slice (some ⟨V1.heap.size,0,none⟩) 1 1,.bool true,.slice a2 (uf 0 0).length c2] 42)) 1) (n:=ls.length) (cs:=ls.flatMap vC) (news:=vC ⟨⟨[97],true,uf 0 0⟩,some ⟨V1.heap.size,0,none⟩,1,a2,c2⟩) hg2.gr.labs (xA (x:=⟨⟨[97],true,uf 0 0⟩,some ⟨V1.heap.size,0,none⟩,1,a2,c2⟩) (World.alloc_heap_new (xv V1 #[.int .u8 97]) _)) (by have:=HM0.out;omega) ?_
               intro v6 W6 hown hgrew hsz
               obtain ⟨a6,c6,rfl⟩:=um hown
               obtain ⟨_,y1,_,y2⟩:=vf hg2 (by omega) hgrew
               have HS5:Hid (∃ G5 xa xc a2' c2',LpS t R w0 w w.heap.size G5 (W6.setCell ⟨w.heap.size,1,none⟩ (.slice a6 (ls.length+1) c6)) (.slice (some ⟨g,0,none⟩) n rc) (.slice a6 (ls.length+1) c6) rs (ls ++ [⟨⟨[97],true,uf 0 0⟩,xa,xc,a2',c2'⟩]) i2):=by
                 obtain ⟨G5,h5⟩:=HW4.out.addLabel (x:=⟨⟨[97],true,uf 0 0⟩,some ⟨V1.heap.size,0,none⟩,1,a2,c2⟩) HR.out ((KC.out.trans (yG V1 _)).trans (Keep.alloc _ _ _)) hold hg2 hn2 hb2 hown hgrew
                 exact ⟨G5,_,_,_,_,h5⟩
               clear hown hgrew hsz hold hg2 hn2 hb2 HM))
        all_goals go_goals
        all_goals go_wp2_with fail
        all_goals go_meet
        all_goals (obtain ⟨G5,xa,xc,a2',c2',h5⟩:=HS5.out;exact ⟨rfl,G5,_,_,_,_,_,h5,by rw [List.map_append];rfl⟩)
      have q7':¬ (q:Int)=7:=by omega
      rw [if_neg q7] at hp
      by_cases q8:q=8
      · rw [if_pos q8] at hp
        subst q8 hp
        go_wp2_with (first | (refine ual rfl _ rfl rfl ?_;intro V hV;have KV:Hid (Keep (fun _=>False) W4 V):=hV ▸ yG _ _;have HI:Hid (Ints (New W4 V) .u8 V (some ⟨W4.heap.size,0,none⟩) 2 (lf [122,122])):=hV ▸ xB W4 [122,122] (by simp);have hvz:=KV.out.size;skip;clear hV) | (at_builtin;have HMx:Hid (∃ G',(∀ b,b<W4.heap.size→G' b=GW4 b)∧zGVar w.heap.size w0 G' (V.alloc (.cells #[.slice (some ⟨W4.heap.size,0,none⟩) 2 2,.bool false,.slice none 0 0] 42)) (.slice (some ⟨g,0,none⟩) n rc) (.slice la m lc) rs ls∧Ints (zTg G' (V.alloc (.cells #[.slice (some ⟨W4.heap.size,0,none⟩) 2 2,.bool false,.slice none 0 0] 42)) 2) .u8 (V.alloc (.cells #[.slice (some ⟨W4.heap.size,0,none⟩) 2 2,.bool false,.slice none 0 0] 42)) (some ⟨W4.heap.size,0,none⟩) 2 (lf [122,122])∧BodP (zTg G' (V.alloc (.cells #[.slice (some ⟨W4.heap.size,0,none⟩) 2 2,.bool false,.slice none 0 0] 42)) (5+2*ls.length)) (V.alloc (.cells #[.slice (some ⟨W4.heap.size,0,none⟩) 2 2,.bool false,.slice none 0 0] 42)) (.slice none 0 0) []):=xI (z:=[122,122]) (N:=New W4 V) (B:=fun _=>False) (5+2*ls.length) HW4.out.gv (KV.out.trans (Keep.alloc _ _ _)) (HI.out.later (up V _)) (udH _ _) (fun x y=>⟨y.1,by have h1:=y.2;simp;omega⟩) (fun x y=>y.elim) (fun x y y'=>y');obtain ⟨G2,hold,hg2,hn2,hb2⟩:=HMx.out;refine uai rfl _ _ 24 24 rfl rfl rfl uak (v:=.slice la m lc) (Q:=zTg G2 (V.alloc (.cells #[.slice (some ⟨W4.heap.size,0,none⟩) 2 2,.bool false,.slice none 0 0] 42)) 1) (n:=ls.length) (cs:=ls.flatMap vC) (news:=vC ⟨⟨[122,122],false,[]⟩,some ⟨W4.heap.size,0,none⟩,2,none,0⟩) hg2.gr.labs (xA (x:=⟨⟨[122,122],false,[]⟩,some ⟨W4.heap.size,0,none⟩,2,none,0⟩) (World.alloc_heap_new V _)) (by have:=HM.out;omega) ?_;intro v6 W6 hown hgrew hsz;obtain ⟨a6,c6,rfl⟩:=um hown;obtain ⟨_,y1,_,y2⟩:=vf hg2 (by omega) hgrew;have HS5:Hid (∃ G5,LpS t R w0 w w.heap.size G5 (W6.setCell ⟨w.heap.size,1,none⟩ (.slice a6 (ls.length+1) c6)) (.slice (some ⟨g,0,none⟩) n rc) (.slice a6 (ls.length+1) c6) rs (ls ++ [⟨⟨[122,122],false,[]⟩,some ⟨W4.heap.size,0,none⟩,2,none,0⟩]) i2):=HW4.out.addLabel (x:=⟨⟨[122,122],false,[]⟩,some ⟨W4.heap.size,0,none⟩,2,none,0⟩) HR.out (KV.out.trans (Keep.alloc _ _ _)) hold hg2 hn2 hb2 hown hgrew;clear hown hgrew hsz hold hg2 hn2 hb2 HMx))
        go_meet
        obtain ⟨G5,h5⟩:=HS5.out
        exact ⟨rfl,G5,_,_,_,_,_,h5,by rw [List.map_append];rfl⟩
      have q8':¬ (q:Int)=8:=by omega
      rw [if_neg q8] at hp
      by_cases q9:q=9∧0<m
      · rw [if_pos q9] at hp
        obtain ⟨q9a,q9b⟩:=q9
        subst q9a
        obtain ⟨o,ho⟩:∃ x,a % m=x:=⟨_,rfl⟩
        rw [ho] at hp
        have hol:o<m:=ho ▸ Nat.mod_lt a q9b
        have ho':(a:Int) % (m:Int)=(o:Int):=by rw [← ho];omega
        have hol2:o≤1000:=by omega
        have hol':(o:Int)<(m:Int):=by omega
        have hm0:¬ (m:Int)=0:=by omega
        have q9'':(0:Int)<(m:Int):=by omega
        obtain ⟨xl,hxl⟩:∃ x,ls[o]? = some x:=⟨_,List.getElem?_eq_getElem (by have:=HM.out;omega)⟩
        obtain ⟨gl,cl,el,hglt,_,_,l1,l2,lf1,lf2⟩:=HW4.out.gv.gr.labelAt hxl
        obtain rfl:la=some ⟨gl,0,none⟩:=by injection el
        rw [jz hxl] at hp
        subst hp
        have hgll:=hglt.1
        have HLS:Hid ((ls.set o ⟨⟨xl.d.nm,!xl.d.has,xl.d.bd⟩,xl.na,xl.nc,xl.ba,xl.bc⟩).map (·.d)=(ls.map (·.d)).set o ⟨xl.d.nm,!xl.d.has,xl.d.bd⟩):=by
          show _=_
          rw [List.map_set]
        have HS5:Hid (LpS t R w0 w w.heap.size GW4 (W4.drew.setCell ⟨gl,o*3+1,none⟩ (.bool !xl.d.has)) (.slice (some ⟨g,0,none⟩) n rc) (.slice (some ⟨gl,0,none⟩) m lc) rs (ls.set o ⟨⟨xl.d.nm,!xl.d.has,xl.d.bd⟩,xl.na,xl.nc,xl.ba,xl.bc⟩) i2):=LpS.putL HW4.out.drewN HR.out hxl ⟨hglt.1,hglt.2⟩ (by omega) (by simp [vC]) (HW4.out.drewN.gv.gr.ln xl (List.mem_of_getElem? hxl)) (HW4.out.drewN.gv.gr.lb o xl hxl)
        clear el hglt ho hxl
        go_wp2_with fail
        trace_state
        go_region
        all_goals go_goals
        all_goals go_wp2_with fail
        all_goals go_meet
        all_goals exact ⟨rfl,GW4,_,_,_,_,_,HS5.out,by rw [HLS.out]⟩
      rw [if_neg q9] at hp
      by_cases q10:q=10
      · rw [if_pos q10] at hp
        subst q10 hp
        have HS5:Hid (LpS t R w0 w w.heap.size GW4 (W4.setCell ⟨w.heap.size,0,none⟩ (.slice none 0 0)) (.slice none 0 0) (.slice la m lc) [] ls i2):=HW4.out.none_ HR.out
        go_wp2_with fail
        go_meet
        exact ⟨rfl,GW4,_,_,_,_,_,HS5.out,rfl⟩
      have q10':¬ (q:Int)=10:=by omega
      rw [if_neg q10] at hp
      subst hp
      by_cases q9c:q=9
      · have q9':(q:Int)=9:=by omega
        have q9'':¬ (0:Int)<(m:Int):=fun e=>q9 ⟨q9c,by omega⟩
        go_wp2_with (refine ual rfl _ rfl rfl ?_;intro V hV;have KV:Hid (Keep (fun _=>False) W4 V):=hV ▸ yG _ _;have HI:Hid (Ints (New W4 V) .u8 V (some ⟨W4.heap.size,0,none⟩) 3 (lf [97,46,98])):=hV ▸ xB W4 [97,46,98] (by simp);have hvz:=KV.out.size;have y0:=(World.cell?_of_block (a:=⟨g,a*2,none⟩) (KV.out.block g hgl (fun e=>e))).trans r0;have y1:=(World.frozen?_of_block (a:=⟨g,a*2,none⟩) (KV.out.block g hgl (fun e=>e))).trans rf0;clear hV)
        have HS5:Hid (∃ G5,LpS t R w0 w w.heap.size G5 (V.setCell ⟨g,a*2,none⟩ (.slice (some ⟨W4.heap.size,0,none⟩) 3 3)) (.slice (some ⟨g,0,none⟩) n rc) (.slice la m lc) (rs.set a ⟨⟨[97,46,98],xr.d.has,xr.d.bd⟩,some ⟨W4.heap.size,0,none⟩,3,xr.ba,xr.bc⟩) ls i2):=HW4.out.name (z:=[97,46,98]) HR.out KV.out HI.out HXR.out HGT.out
        go_meet
        obtain ⟨G5,h5⟩:=HS5.out
        exact ⟨by first | rfl | (rw [q9']),G5,_,_,_,_,_,h5,by rw [HNS.out]⟩
      · have q9':¬ (q:Int)=9:=by omega
        go_wp2_with (refine ual rfl _ rfl rfl ?_;intro V hV;have KV:Hid (Keep (fun _=>False) W4 V):=hV ▸ yG _ _;have HI:Hid (Ints (New W4 V) .u8 V (some ⟨W4.heap.size,0,none⟩) 3 (lf [97,46,98])):=hV ▸ xB W4 [97,46,98] (by simp);have hvz:=KV.out.size;have y0:=(World.cell?_of_block (a:=⟨g,a*2,none⟩) (KV.out.block g hgl (fun e=>e))).trans r0;have y1:=(World.frozen?_of_block (a:=⟨g,a*2,none⟩) (KV.out.block g hgl (fun e=>e))).trans rf0;clear hV)
        have HS5:Hid (∃ G5,LpS t R w0 w w.heap.size G5 (V.setCell ⟨g,a*2,none⟩ (.slice (some ⟨W4.heap.size,0,none⟩) 3 3)) (.slice (some ⟨g,0,none⟩) n rc) (.slice la m lc) (rs.set a ⟨⟨[97,46,98],xr.d.has,xr.d.bd⟩,some ⟨W4.heap.size,0,none⟩,3,xr.ba,xr.bc⟩) ls i2):=HW4.out.name (z:=[97,46,98]) HR.out KV.out HI.out HXR.out HGT.out
        go_meet
        obtain ⟨G5,h5⟩:=HS5.out
        exact ⟨by first | rfl | (rw [q9']),G5,_,_,_,_,_,h5,by rw [HNS.out]⟩
    case rest =>
      obtain ⟨rfl,G6,rv6,lv6,rs6,ls6,i6,h6,hp6⟩:=hcut
      obtain ⟨W6,hw⟩:∃ x,x=wc:=⟨_,rfl⟩
      subst hw
      obtain ⟨ra6,rc6,rfl⟩:=um h6.gv.gr.rules
      obtain ⟨la6,lc6,rfl⟩:=um h6.gv.gr.labs
      have d0:=h6.gv.c0
      have d1:=h6.gv.c1
      obtain ⟨t0,t1,tf0,tf1⟩:=h6.tw
      have HF:Hid (DrX t R w0 p w (.returned (.agg #[.slice ra6 rs6.length rc6,.slice la6 ls6.length lc6])) ((W6.setCell ⟨w.heap.size+1,0,none⟩ (.slice ra6 rs6.length rc6)).setCell ⟨w.heap.size+1,1,none⟩ (.slice la6 ls6.length lc6))):=h6.fin HR.out hp6
      clear h6 hp6 c0 c1 cf0 cf1 r0 r1 rf0 rf1
      go_wp2
      refine bodyPost_ret (v:=.agg #[.slice ra6 rs6.length rc6,.slice la6 ls6.length lc6]) ?_ rfl ?_
      · simp [results,Tryz.f30,go_sem, *]
      · exact HF.out
end
end Go.Proofs.YthicmmhmmfhncaaGreat
