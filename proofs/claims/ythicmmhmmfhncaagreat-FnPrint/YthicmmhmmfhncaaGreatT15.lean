import Derived.Test.YthicmmhmmfhncaaGreatT10
set_option linter.unusedVariables false
set_option linter.unusedSimpArgs false
namespace Go.Proofs.YthicmmhmmfhncaaGreat
section
open Go.RowKit
open M (OpD uj Gr)
set_option maxRecDepth 100000 in
set_option maxHeartbeats 40000000 in
theorem uhS(t:Tp)(R i:Nat)(w0 w:World)(G:Nat→Nat)(ra la:Option Addr)(rc lc:Nat)(rs ls:List zNC)(h:zGrP w0 G w (.slice ra rs.length rc) (.slice la ls.length lc) rs ls)(hz:w0.heap.size≤w.heap.size)(hr:RdA t R w i)(hRw:R<w0.heap.size)(hrn:0<rs.length)(hrl:rs.length≤1000)(hll:ls.length≤1000)(hsm:∀x∈rs,0<x.d.bd.length∧yB x.d.bd.length (df x.d.bd))(p:(List zNL×List zNL)×Nat)(hp:ueV t i (rs.map (·.d)) (ls.map (·.d))=p) :
    Calls Tryz.prog 31 #[.agg #[.slice ra rs.length rc,.slice la ls.length lc],.pointer (some ⟨R,0,none⟩)] w (DrX t R w0 p w):=by
  obtain⟨G1,hS⟩:=ugI h hz hr hRw;have HSM:Hid (∀x∈rs,0<x.d.bd.length∧yB x.d.bd.length (df x.d.bd)):=hsm;have hv0:=t.v_le i;have hv1:=t.v_le (t.n i);have hv2:=t.v_le (t.n (t.n i));unfold ueV at hp;dsimp only at hp;rw[List.length_map,List.length_map]at hp;obtain⟨n,hn⟩:∃n,rs.length=n:=⟨_,rfl⟩;obtain⟨m,hm⟩:∃m,ls.length=m:=⟨_,rfl⟩;rw[hn,hm]at hp;rw[hn]at hrn hrl;rw[hm]at hll;have HN:Hid (rs.length=n):=hn;have HM:Hid (ls.length=m):=hm;rw[hn,hm]at hS;rw[hn,hm];have HR:Hid (R<w0.heap.size∧w0.heap.size≤w.heap.size):=⟨hRw,hz⟩;have hn0:¬(n:Int)=0:=by omega
  obtain⟨i1,hi1⟩:∃x,t.n i=x:=⟨_,rfl⟩;obtain⟨i2,hi2⟩:∃x,t.n i1=x:=⟨_,rfl⟩;obtain⟨i3,hi3⟩:∃x,t.n i2=x:=⟨_,rfl⟩;obtain⟨ki,hki⟩:∃x,t.v i=x:=⟨_,rfl⟩;obtain⟨k1,hk1⟩:∃x,t.v i1=x:=⟨_,rfl⟩;obtain⟨k2,hk2⟩:∃x,t.v i2=x:=⟨_,rfl⟩;obtain⟨a,ha⟩:∃x,k1%n=x:=⟨_,rfl⟩;obtain⟨b,hb⟩:∃x,k2%n=x:=⟨_,rfl⟩;obtain⟨q,hq⟩:∃x,ki%5=x:=⟨_,rfl⟩;rw[hi1,hi2,hi3,hki,hk1,hk2,ha,hb,hq]at hp;rw[hi1,hk1]at hv1;rw[hi1,hi2,hk2]at hv2;rw[hki]at hv0;have hal:a<n:=ha▸Nat.mod_lt k1 hrn;have hbl:b<n:=hb▸Nat.mod_lt k2 hrn;have hal2:a≤1000:=by omega
  have hbl2:b≤1000:=by omega
  have ha':(k1:Int)%(n:Int)=(a:Int):=by rw[←ha];omega
  have hb':(k2:Int)%(n:Int)=(b:Int):=by rw[←hb];omega
  have hq':(ki:Int)%5=(q:Int):=by omega
  have hnn:¬n=0:=by omega
  have hat:(k1:Int).tmod (n:Int)=(a:Int):=by rw[Int.tmod_eq_emod_of_nonneg (by omega)];exact ha'
  have hbt:(k2:Int).tmod (n:Int)=(b:Int):=by rw[Int.tmod_eq_emod_of_nonneg (by omega)];exact hb'
  have hql:q<5:=by omega
  have HX0:Hid (∀W,RdA t R W i→Calls Tryz.prog 27 #[.pointer (some ⟨R,0,none⟩)] W (fun e w'=>e=.returned (.int .i64 (ki:Int))∧RdOn t R i1 W w')):=fun W hW=>by have h:=uN t R i W hW;rw[hi1,hki]at h;exact h
  have HX1:Hid (∀W,RdA t R W i1→Calls Tryz.prog 27 #[.pointer (some ⟨R,0,none⟩)] W (fun e w'=>e=.returned (.int .i64 (k1:Int))∧RdOn t R i2 W w')):=fun W hW=>by have h:=uN t R i1 W hW;rw[hi2,hk1]at h;exact h
  have HX2:Hid (∀W,RdA t R W i2→Calls Tryz.prog 27 #[.pointer (some ⟨R,0,none⟩)] W (fun e w'=>e=.returned (.int .i64 (k2:Int))∧RdOn t R i3 W w')):=fun W hW=>by have h:=uN t R i2 W hW;rw[hi3,hk2]at h;exact h
  clear h hr hsm hn hm hi1 hi2 hi3 hki hk1 hk2 ha hb hq;go_enter Tryz.func31,Tryz.ntmps31;go_wp2_with fail;generalize (w.alloc (.cells #[.slice ra n rc,.slice la m lc] 26)).alloc (.cells #[.slice none 0 0,.slice none 0 0] 26)=W1 at *;have HW1:Hid (LpS t R w0 w w.heap.size G1 W1 (.slice ra n rc) (.slice la m lc) rs ls i):=hS;clear hS;refine Calls.mono (HX0.out W1 HW1.out.rd) ?_;rintro e W2 ⟨rfl,hon⟩;have HW2:Hid (LpS t R w0 w w.heap.size (uK G1 W1 3) W2 (.slice ra n rc) (.slice la m lc) rs ls i1):=HW1.out.on hon HR.out;clear hon HW1;generalize uK G1 W1 3=G2 at *;have c0:=HW2.out.gv.c0;go_wp2_with fail;simp only[hq'];go_cut [6] from 10 to 110 (fun v wc=>v=.int .i64 (a:Int)∧RdOn t R i2 W2 wc)
  case first =>
    go_region_law
      (refine yZ ufJ rfl (.tmp 13) 34 rfl (y1:=.pointer (some ⟨R,0,none⟩)) (by simp[Act.eval,Act.put]) (Calls.mono (HX1.out W2.drew (HW2.out.rd.keep (Keep.drew (fun _=>False) _) (fun _ e=>e.elim))) ?_)
       rintro e U ⟨rfl,hon⟩;have HO:Hid (RdOn t R i2 W2 U):=⟨hon.1,(Keep.drew _ _).trans hon.2⟩;have zu:=(HW2.out.gv.later HO.out.2 (fun b e=>⟨by omega,by omega⟩) 3).c0
       have zul:=ub zu;clear hon;refine⟨_,rfl,?_⟩)
    all_goals go_goals
    all_goals go_wp2_with fail
    all_goals go_meet
    all_goals exact⟨rfl,HO.out⟩
  case rest =>
    obtain⟨rfl,hon⟩:=hcut;obtain⟨W3,hw⟩:∃x,x=wc:=⟨_,rfl⟩;subst hw;have HW3:Hid (LpS t R w0 w w.heap.size (uK G2 W2 3) W3 (.slice ra n rc) (.slice la m lc) rs ls i2):=HW2.out.on hon HR.out;clear hon HW2 c0;generalize uK G2 W2 3=GW3 at *;have c1:=HW3.out.gv.c0;go_wp2_with fail;go_cut [7] from 10 to 110 (fun v wc=>v=.int .i64 (b:Int)∧RdOn t R i3 W3 wc)
    case first =>
      go_region_law
        (refine yZ ufJ rfl (.tmp 19) 34 rfl (y1:=.pointer (some ⟨R,0,none⟩)) (by simp[Act.eval,Act.put]) (Calls.mono (HX2.out W3.drew (HW3.out.rd.keep (Keep.drew (fun _=>False) _) (fun _ e=>e.elim))) ?_)
         rintro e U ⟨rfl,hon⟩;have HO:Hid (RdOn t R i3 W3 U):=⟨hon.1,(Keep.drew _ _).trans hon.2⟩;have zu:=(HW3.out.gv.later HO.out.2 (fun b e=>⟨by omega,by omega⟩) 3).c0
         have zul:=ub zu;clear hon;refine⟨_,rfl,?_⟩)
      all_goals go_goals
      all_goals go_wp2_with fail
      all_goals go_meet
      all_goals exact⟨rfl,HO.out⟩
    case rest =>
      obtain⟨rfl,hon⟩:=hcut;obtain⟨W4,hw⟩:∃x,x=wc:=⟨_,rfl⟩;subst hw;have HW4:Hid (LpS t R w0 w w.heap.size (uK GW3 W3 3) W4 (.slice ra n rc) (.slice la m lc) rs ls i3):=HW3.out.on hon HR.out;clear hon HW3 c1;generalize uK GW3 W3 3=GW4 at *;obtain⟨xr,hxr⟩:∃x,rs[a]? = some x:=⟨_,List.getElem?_eq_getElem (by have:=HN.out;omega)⟩
      have HXR:Hid (rs[a]? = some xr):=hxr;obtain⟨g,cg,eg,hgt,_,r0,r1,rf0,rf1⟩:=HW4.out.gv.gr.ruleAt hxr;obtain rfl:ra=some ⟨g,0,none⟩:=by injection eg
      have HGT:Hid (zTg GW4 W4 0 g):=hgt;have HXS:Hid (yB xr.d.bd.length (df xr.d.bd)):=(HSM.out xr (List.mem_of_getElem? hxr)).2;have HXN:Hid (0<xr.d.bd.length):=(HSM.out xr (List.mem_of_getElem? hxr)).1;have HOP:Hid (OpsA (fun _=>True) W4 xr.ba xr.d.bd.length (df xr.d.bd)):=(HW4.out.gv.gr.rb a xr hxr).ops.wide (fun _ _=>trivial)
      have c0:=HW4.out.gv.c0;have c1:=HW4.out.gv.c1;have hgl:=hgt.1;have hal':(a:Int)<(n:Int):=by omega
      rw[jz hxr]at hp;have HBS:Hid (∀D ba bc,(rs.set a ⟨⟨xr.d.nm,xr.d.has,D⟩,xr.na,xr.nc,ba,bc⟩).map (·.d)=uac (rs.map (·.d)) a D):=fun D ba bc=>by rw[List.map_set];unfold uac;rw[jz HXR.out]
      clear eg hgt hxr r0 rf0;go_upto_if 32 with fail
      go_cut [5] from 10 to 110 (fun v wc=>v=.int .i64 (q:Int)∧∃G rs' ls',LpS t R w0 w w.heap.size G wc (.slice (some ⟨g,0,none⟩) n rc) (.slice la m lc) rs' ls' i3∧((rs'.map (·.d),ls'.map (·.d)),i3)=p)
      case first =>
        by_cases q0:q=0
        · rw[if_pos q0]at hp
          subst q0 hp;go_wp2_with fail;go_region_law
            (first
              | (refine ym yu rfl (.const (.int .i64 2)) (.tmp 37) 3 3 rfl (y1:=.int .i64 2) (y2:=.int .i64 (b:Int)) rfl (by simp[Act.eval,Act.put]) ((uG 2 (b:Int) W4.drew).mono ?_)
                 rintro e V1 ⟨a1,c1,rfl,hbod,hkk⟩;have K1:Hid (Keep (fun _=>False) W4 V1):=(Keep.drew _ _).trans hkk
                 have gv1:=HW4.out.gv.later K1.out (fun _ e=>e.elim) 3
                 have z1:=gv1.c0;have zl1:=ub z1;have X1:Hid (OpsA (fun _=>True) V1 a1 (uf 2 (b:Int)).length (df (uf 2 (b:Int)))):=hbod.ops.wide (fun _ _=>trivial)
                 clear hbod hkk;clear gv1;refine⟨_,rfl,?_⟩)
              | (refine jm qG rfl (.const (.int .i64 5)) (.tmp 36) (.tmp 38) 3 37 37 rfl (y1:=.int .i64 5) (y2:=.slice xr.ba (xr.d.bd).length xr.bc) (y3:=.slice a1 (uf 2 (b:Int)).length c1) rfl (by simp[Act.eval,Act.put]) (by simp[Act.eval,Act.put]) ((uV (fun _=>True) (fun _=>True) 5 xr.ba a1 xr.bc c1 (xr.d.bd) (uf 2 (b:Int)) V1 (HOP.out.kept K1.out (fun _ _ e=>e)) HXS.out X1.out (Lil.small (uH 2 (b:Int)) (by omega)) (by simp[uf,unD,uw,ui])).mono ?_)
                 rintro e V2 ⟨a2,c2,rfl,hbod,hkk⟩;have K2:Hid (Keep (fun _=>False) W4 V2):=K1.out.trans hkk
                 have gv2:=HW4.out.gv.later K2.out (fun _ e=>e.elim) 3
                 have z2:=gv2.c0;have zl2:=ub z2;have X1:Hid (OpsA (fun _=>True) V2 a1 (uf 2 (b:Int)).length (df (uf 2 (b:Int)))):=X1.out.kept hkk (fun _ _ e=>e)
                 have hb':BodP (New W4 V2) V2 (.slice a2 (uw 5 (xr.d.bd) (uf 2 (b:Int))).length c2) (uw 5 (xr.d.bd) (uf 2 (b:Int))):=hbod.wide (fun x q=>⟨by have h1:=K1.out.size;have h2:=q.1;omega,q.2⟩)
                 obtain⟨G5,hS5⟩:=HW4.out.rule HR.out K2.out hb' HXR.out HGT.out;obtain⟨g5,_,e5,_,_,_,s1,_,sf⟩:=gv2.gr.ruleAt HXR.out;obtain rfl:g=g5:=by injection e5 with e1;injection e1 with e1;injection e1 with e1
                 have HS5:Hid (∃G5,LpS t R w0 w w.heap.size G5 (V2.setCell ⟨g,a*2+1,none⟩ (.slice a2 (uw 5 (xr.d.bd) (uf 2 (b:Int))).length c2)) (.slice (some ⟨g,0,none⟩) n rc) (.slice la m lc) (rs.set a ⟨⟨xr.d.nm,xr.d.has,uw 5 (xr.d.bd) (uf 2 (b:Int))⟩,xr.na,xr.nc,a2,c2⟩) ls i3):=⟨G5,hS5⟩;clear hb' hS5 e5;clear hbod hkk;clear gv2;refine⟨_,rfl,?_⟩))
          all_goals go_goals
          all_goals go_wp2_with fail
          all_goals go_meet
          all_goals (obtain⟨G5,h5⟩:=HS5.out;exact⟨by first|rfl|(rw[q3']),G5,_,_,h5,by rw[HBS.out]⟩)
        have q0':¬(q:Int)=0:=by omega
        rw[if_neg q0]at hp;by_cases q1:q=1
        · rw[if_pos q1]at hp
          subst q1 hp;go_wp2_with fail;go_region_law
            (first
              | (refine ym yu rfl (.const (.int .i64 2)) (.tmp 47) 3 3 rfl (y1:=.int .i64 2) (y2:=.int .i64 (b:Int)) rfl (by simp[Act.eval,Act.put]) ((uG 2 (b:Int) W4.drew).mono ?_)
                 rintro e V1 ⟨a1,c1,rfl,hbod,hkk⟩;have K1:Hid (Keep (fun _=>False) W4 V1):=(Keep.drew _ _).trans hkk
                 have gv1:=HW4.out.gv.later K1.out (fun _ e=>e.elim) 3
                 have z1:=gv1.c0;have zl1:=ub z1;have X1:Hid (OpsA (fun _=>True) V1 a1 (uf 2 (b:Int)).length (df (uf 2 (b:Int)))):=hbod.ops.wide (fun _ _=>trivial)
                 clear hbod hkk;clear gv1;refine⟨_,rfl,?_⟩)
              | (refine ym uc8 rfl (.const (.int .i64 7)) (.tmp 48) 3 37 rfl (y1:=.int .i64 7) (y2:=.slice a1 (uf 2 (b:Int)).length c1) rfl (by simp[Act.eval,Act.put]) ((vT (fun _=>True) 7 a1 c1 (uf 2 (b:Int)) V1 X1.out (Lil.small (uH 2 (b:Int)) (by omega))).mono ?_)
                 rintro e V2 ⟨a2,c2,rfl,hbod,hkk⟩;have K2:Hid (Keep (fun _=>False) W4 V2):=K1.out.trans hkk
                 have gv2:=HW4.out.gv.later K2.out (fun _ e=>e.elim) 3
                 have z2:=gv2.c0;have zl2:=ub z2;have X2:Hid (OpsA (fun _=>True) V2 a2 (unD 7 (uf 2 (b:Int))).length (df (unD 7 (uf 2 (b:Int))))):=hbod.ops.wide (fun _ _=>trivial)
                 have X1:Hid (OpsA (fun _=>True) V2 a1 (uf 2 (b:Int)).length (df (uf 2 (b:Int)))):=X1.out.kept hkk (fun _ _ e=>e)
                 clear hbod hkk;clear gv2;refine⟨_,rfl,?_⟩)
              | (refine jm qG rfl (.const (.int .i64 4)) (.tmp 49) (.tmp 50) 3 37 37 rfl (y1:=.int .i64 4) (y2:=.slice a2 (unD 7 (uf 2 (b:Int))).length c2) (y3:=.slice xr.ba (xr.d.bd).length xr.bc) rfl (by simp[Act.eval,Act.put]) (by simp[Act.eval,Act.put]) ((uV (fun _=>True) (fun _=>True) 4 a2 xr.ba c2 xr.bc (unD 7 (uf 2 (b:Int))) (xr.d.bd) V2 X2.out (Lil.small (ye 7 (uH 2 (b:Int))) (by omega)) (HOP.out.kept K2.out (fun _ _ e=>e)) HXS.out HXN.out).mono ?_)
                 rintro e V3 ⟨a3,c3,rfl,hbod,hkk⟩;have K3:Hid (Keep (fun _=>False) W4 V3):=K2.out.trans hkk
                 have gv3:=HW4.out.gv.later K3.out (fun _ e=>e.elim) 3
                 have z3:=gv3.c0;have zl3:=ub z3;have X1:Hid (OpsA (fun _=>True) V3 a1 (uf 2 (b:Int)).length (df (uf 2 (b:Int)))):=X1.out.kept hkk (fun _ _ e=>e)
                 have X2:Hid (OpsA (fun _=>True) V3 a2 (unD 7 (uf 2 (b:Int))).length (df (unD 7 (uf 2 (b:Int))))):=X2.out.kept hkk (fun _ _ e=>e)
                 have hb':BodP (New W4 V3) V3 (.slice a3 (uw 4 (unD 7 (uf 2 (b:Int))) (xr.d.bd)).length c3) (uw 4 (unD 7 (uf 2 (b:Int))) (xr.d.bd)):=hbod.wide (fun x q=>⟨by have h1:=K2.out.size;have h2:=q.1;omega,q.2⟩)
                 obtain⟨G5,hS5⟩:=HW4.out.rule HR.out K3.out hb' HXR.out HGT.out;obtain⟨g5,_,e5,_,_,_,s1,_,sf⟩:=gv3.gr.ruleAt HXR.out;obtain rfl:g=g5:=by injection e5 with e1;injection e1 with e1;injection e1 with e1
                 have HS5:Hid (∃G5,LpS t R w0 w w.heap.size G5 (V3.setCell ⟨g,a*2+1,none⟩ (.slice a3 (uw 4 (unD 7 (uf 2 (b:Int))) (xr.d.bd)).length c3)) (.slice (some ⟨g,0,none⟩) n rc) (.slice la m lc) (rs.set a ⟨⟨xr.d.nm,xr.d.has,uw 4 (unD 7 (uf 2 (b:Int))) (xr.d.bd)⟩,xr.na,xr.nc,a3,c3⟩) ls i3):=⟨G5,hS5⟩;clear hb' hS5 e5;clear hbod hkk;clear gv3;refine⟨_,rfl,?_⟩))
          all_goals go_goals
          all_goals go_wp2_with fail
          all_goals go_meet
          all_goals (obtain⟨G5,h5⟩:=HS5.out;exact⟨by first|rfl|(rw[q3']),G5,_,_,h5,by rw[HBS.out]⟩)
        have q1':¬(q:Int)=1:=by omega
        rw[if_neg q1]at hp;by_cases q2:q=2
        · rw[if_pos q2]at hp
          subst q2 hp;go_wp2_with fail;go_region_law
            (first
              | (refine ym uc8 rfl (.const (.int .i64 6)) (.tmp 59) 3 37 rfl (y1:=.int .i64 6) (y2:=.slice xr.ba (xr.d.bd).length xr.bc) rfl (by simp[Act.eval,Act.put]) ((vT (fun _=>True) 6 xr.ba xr.bc (xr.d.bd) W4.drew (HOP.out.kept (Keep.drew _ _) (fun _ _ e=>e)) HXS.out).mono ?_)
                 rintro e V1 ⟨a1,c1,rfl,hbod,hkk⟩;have K1:Hid (Keep (fun _=>False) W4 V1):=(Keep.drew _ _).trans hkk
                 have gv1:=HW4.out.gv.later K1.out (fun _ e=>e.elim) 3
                 have z1:=gv1.c0;have zl1:=ub z1;have hb':BodP (New W4 V1) V1 (.slice a1 (unD 6 (xr.d.bd)).length c1) (unD 6 (xr.d.bd)):=hbod.wide (fun x q=>⟨by have h1:=Nat.le_refl W4.heap.size;have h2:=q.1;exact h2,q.2⟩)
                 obtain⟨G5,hS5⟩:=HW4.out.rule HR.out K1.out hb' HXR.out HGT.out;obtain⟨g5,_,e5,_,_,_,s1,_,sf⟩:=gv1.gr.ruleAt HXR.out;obtain rfl:g=g5:=by injection e5 with e1;injection e1 with e1;injection e1 with e1
                 have HS5:Hid (∃G5,LpS t R w0 w w.heap.size G5 (V1.setCell ⟨g,a*2+1,none⟩ (.slice a1 (unD 6 (xr.d.bd)).length c1)) (.slice (some ⟨g,0,none⟩) n rc) (.slice la m lc) (rs.set a ⟨⟨xr.d.nm,xr.d.has,unD 6 (xr.d.bd)⟩,xr.na,xr.nc,a1,c1⟩) ls i3):=⟨G5,hS5⟩;clear hb' hS5 e5;clear hbod hkk;clear gv1;refine⟨_,rfl,?_⟩))
          all_goals go_goals
          all_goals go_wp2_with fail
          all_goals go_meet
          all_goals (obtain⟨G5,h5⟩:=HS5.out;exact⟨by first|rfl|(rw[q3']),G5,_,_,h5,by rw[HBS.out]⟩)
        have q2':¬(q:Int)=2:=by omega
        rw[if_neg q2]at hp;by_cases q3:q=3∧0<m
        · rw[if_pos q3]at hp
          obtain⟨q3a,q3b⟩:=q3;subst q3a;have q3'':(0:Int)<(m:Int):=by omega
          obtain⟨o,ho⟩:∃x,b%m=x:=⟨_,rfl⟩;rw[ho]at hp;have hol:o<m:=ho▸Nat.mod_lt b q3b;have ho':(b:Int)%(m:Int)=(o:Int):=by rw[←ho];omega
          have hol2:o≤1000:=by omega
          have hol':(o:Int)<(m:Int):=by omega
          have hm0:¬(m:Int)=0:=by omega
          obtain⟨xl,hxl⟩:∃x,ls[o]? = some x:=⟨_,List.getElem?_eq_getElem (by have:=HM.out;omega)⟩
          obtain⟨gl,cl,el,hglt,_,_,l1,l2,lf1,lf2⟩:=HW4.out.gv.gr.labelAt hxl;obtain rfl:la=some ⟨gl,0,none⟩:=by injection el
          have HXL0:Hid (ls[o]? = some xl):=hxl;have HW5:Hid (LpS t R w0 w w.heap.size GW4 (W4.setCell ⟨gl,o*3+1,none⟩ (.bool true)) (.slice (some ⟨g,0,none⟩) n rc) (.slice (some ⟨gl,0,none⟩) m lc) rs (ls.set o ⟨⟨xl.d.nm,true,xl.d.bd⟩,xl.na,xl.nc,xl.ba,xl.bc⟩) i3):=HW4.out.putL HR.out hxl hglt (by omega) (by simp[vC]) (HW4.out.gv.gr.ln xl (List.mem_of_getElem? hxl)) (HW4.out.gv.gr.lb o xl hxl)
          have HXL:Hid ((ls.set o ⟨⟨xl.d.nm,true,xl.d.bd⟩,xl.na,xl.nc,xl.ba,xl.bc⟩)[o]? = some ⟨⟨xl.d.nm,true,xl.d.bd⟩,xl.na,xl.nc,xl.ba,xl.bc⟩):=List.getElem?_set_self (List.getElem?_eq_some_iff.1 hxl).1;have HGL:Hid (zTg GW4 (W4.setCell ⟨gl,o*3+1,none⟩ (.bool true)) 1 gl):=⟨by rw[ul];exact hglt.1,hglt.2⟩
          have hgll:=hglt.1;obtain⟨lsa,hlsa⟩:∃l,ls.set o ⟨⟨xl.d.nm,true,xl.d.bd⟩,xl.na,xl.nc,xl.ba,xl.bc⟩=l:=⟨_,rfl⟩;have HLSA:Hid (lsa.map (·.d)=(ls.map (·.d)).set o ⟨xl.d.nm,true,xl.d.bd⟩):=by
            show _=_;rw[←hlsa,List.map_set]
          rw[hlsa]at HW5 HXL;have HPP:Hid (p=p):=rfl;clear hglt el hxl ho hlsa;go_upto_region 14 with fail
          generalize W4.setCell ⟨gl,o*3+1,none⟩ (.bool true)=W5 at *;have m1:=HW5.out.gv.c1;have hgl5:=HGL.out.1;clear c0 c1 r1 rf1 l1 l2 lf1 lf2 hgl HOP HGT;go_cut [9] from 10 to 110 (fun v wc=>v=.int .i64 (o:Int)∧∃G a3 c3,LpS t R w0 w w.heap.size G wc (.slice (some ⟨g,0,none⟩) n rc) (.slice (some ⟨gl,0,none⟩) m lc) rs (lsa.set o ⟨⟨xl.d.nm,true,uw 4 (uf 0 0) (uf 2 (a:Int))⟩,xl.na,xl.nc,a3,c3⟩) i3)
          case first =>
            go_region_law
              (first
                | (refine ym yu rfl (.const (.int .i64 0)) (.const (.int .i64 0)) 3 3 rfl (y1:=.int .i64 0) (y2:=.int .i64 0) rfl rfl ((uG 0 0 W5.drew).mono ?_)
                   rintro e V1 ⟨a1,c1,rfl,hbod,hkk⟩;have K1:Hid (Keep (fun _=>False) W5 V1):=(Keep.drew _ _).trans hkk
                   have gv1:=HW5.out.gv.later K1.out (fun _ e=>e.elim) 3
                   have z1:=gv1.c1;have zl1:=ub z1;have X1:Hid (OpsA (fun _=>True) V1 a1 (uf 0 0).length (df (uf 0 0))):=hbod.ops.wide (fun _ _=>trivial)
                   clear hbod hkk;clear gv1;refine⟨_,rfl,?_⟩)
                | (refine ym yu rfl (.const (.int .i64 2)) (.tmp 85) 3 3 rfl (y1:=.int .i64 2) (y2:=.int .i64 (a:Int)) rfl (by simp[Act.eval,Act.put]) ((uG 2 (a:Int) V1).mono ?_)
                   rintro e V2 ⟨a2,c2,rfl,hbod,hkk⟩;have K2:Hid (Keep (fun _=>False) W5 V2):=K1.out.trans hkk
                   have gv2:=HW5.out.gv.later K2.out (fun _ e=>e.elim) 3
                   have z2:=gv2.c1;have zl2:=ub z2;have X2:Hid (OpsA (fun _=>True) V2 a2 (uf 2 (a:Int)).length (df (uf 2 (a:Int)))):=hbod.ops.wide (fun _ _=>trivial)
                   have X1:Hid (OpsA (fun _=>True) V2 a1 (uf 0 0).length (df (uf 0 0))):=X1.out.kept hkk (fun _ _ e=>e)
                   clear hbod hkk;clear gv2;refine⟨_,rfl,?_⟩)
                | (refine jm qG rfl (.const (.int .i64 4)) (.tmp 84) (.tmp 86) 3 37 37 rfl (y1:=.int .i64 4) (y2:=.slice a1 (uf 0 0).length c1) (y3:=.slice a2 (uf 2 (a:Int)).length c2) rfl (by simp[Act.eval,Act.put]) (by simp[Act.eval,Act.put]) ((uV (fun _=>True) (fun _=>True) 4 a1 a2 c1 c2 (uf 0 0) (uf 2 (a:Int)) V2 X1.out (Lil.small (uH 0 0) (by omega)) X2.out (Lil.small (uH 2 (a:Int)) (by omega)) (by simp[uf,unD,uw,ui])).mono ?_)
                   rintro e V3 ⟨a3,c3,rfl,hbod,hkk⟩;have K3:Hid (Keep (fun _=>False) W5 V3):=K2.out.trans hkk
                   have gv3:=HW5.out.gv.later K3.out (fun _ e=>e.elim) 3
                   have z3:=gv3.c1;have zl3:=ub z3;have X1:Hid (OpsA (fun _=>True) V3 a1 (uf 0 0).length (df (uf 0 0))):=X1.out.kept hkk (fun _ _ e=>e)
                   have X2:Hid (OpsA (fun _=>True) V3 a2 (uf 2 (a:Int)).length (df (uf 2 (a:Int)))):=X2.out.kept hkk (fun _ _ e=>e)
                   have hb':BodP (New W5 V3) V3 (.slice a3 (uw 4 (uf 0 0) (uf 2 (a:Int))).length c3) (uw 4 (uf 0 0) (uf 2 (a:Int))):=hbod.wide (fun x q=>⟨by have h1:=K2.out.size;have h2:=q.1;omega,q.2⟩)
                   obtain⟨G5,hS5⟩:=HW5.out.label HR.out K3.out hb' HXL.out HGL.out;obtain⟨g5,_,e5,_,_,_,_,s1,_,sf⟩:=gv3.gr.labelAt HXL.out;obtain rfl:gl=g5:=by injection e5 with e1;injection e1 with e1;injection e1 with e1
                   have HS5:Hid (∃G5,LpS t R w0 w w.heap.size G5 (V3.setCell ⟨gl,o*3+2,none⟩ (.slice a3 (uw 4 (uf 0 0) (uf 2 (a:Int))).length c3)) (.slice (some ⟨g,0,none⟩) n rc) (.slice (some ⟨gl,0,none⟩) m lc) rs (lsa.set o ⟨⟨xl.d.nm,true,uw 4 (uf 0 0) (uf 2 (a:Int))⟩,xl.na,xl.nc,a3,c3⟩) i3):=⟨G5,hS5⟩;clear hb' hS5 e5;clear hbod hkk;clear gv3;refine⟨_,rfl,?_⟩))
            all_goals go_goals
            all_goals go_wp2_with fail
            all_goals go_meet
            all_goals (obtain⟨G5,h5⟩:=HS5.out;exact⟨rfl,G5,_,_,h5⟩)
          case rest =>
            obtain⟨rfl,G6,a3,c3,h6⟩:=hcut;obtain⟨W6,hw⟩:∃x,x=wc:=⟨_,rfl⟩;subst hw;obtain⟨lsb,hlsb⟩:∃l,lsa.set o ⟨⟨xl.d.nm,true,uw 4 (uf 0 0) (uf 2 (a:Int))⟩,xl.na,xl.nc,a3,c3⟩=l:=⟨_,rfl⟩;have HLSB:Hid (lsb.map (·.d)=(ls.map (·.d)).set o ⟨(kW (ls.map (·.d)) o).nm,true,uw 4 (uf 0 0) (uf 2 (a:Int))⟩):=by
              show _=_;rw[←hlsb,List.map_set,HLSA.out,List.set_set,jz HXL0.out]
            rw[hlsb]at h6;have HW6:Hid (LpS t R w0 w w.heap.size G6 W6 (.slice (some ⟨g,0,none⟩) n rc) (.slice (some ⟨gl,0,none⟩) m lc) rs lsb i3):=h6;obtain⟨g7,_,e7,hgt,_,_,_,_,_⟩:=h6.gv.gr.ruleAt HXR.out;obtain rfl:g=g7:=by injection e7 with e1;injection e1 with e1;injection e1 with e1
            have HGT:Hid (zTg G6 W6 0 g):=hgt;have HOP:Hid (OpsA (fun _=>True) W6 xr.ba xr.d.bd.length (df xr.d.bd)):=(h6.gv.gr.rb a xr HXR.out).ops.wide (fun _ _=>trivial)
            have n0:=h6.gv.c0;have n1:=h6.gv.c1;have hgl6:=hgt.1;subst hp;clear h6 e7 hgt hlsb m1 hgl5 HW5;go_wp2_with fail;go_region_law
              (first
                | (refine ym yu rfl (.const (.int .i64 3)) (.tmp 94) 3 3 rfl (y1:=.int .i64 3) (y2:=.int .i64 (o:Int)) rfl (by simp[Act.eval,Act.put]) ((uG 3 (o:Int) W6.drew).mono ?_)
                   rintro e V1 ⟨a1,c1,rfl,hbod,hkk⟩;have K1:Hid (Keep (fun _=>False) W6 V1):=(Keep.drew _ _).trans hkk
                   have gv1:=HW6.out.gv.later K1.out (fun _ e=>e.elim) 3
                   have z1:=gv1.c0;have zl1:=ub z1;have X1:Hid (OpsA (fun _=>True) V1 a1 (uf 3 (o:Int)).length (df (uf 3 (o:Int)))):=hbod.ops.wide (fun _ _=>trivial)
                   clear hbod hkk;clear gv1;refine⟨_,rfl,?_⟩)
                | (refine jm qG rfl (.const (.int .i64 5)) (.tmp 93) (.tmp 95) 3 37 37 rfl (y1:=.int .i64 5) (y2:=.slice xr.ba (xr.d.bd).length xr.bc) (y3:=.slice a1 (uf 3 (o:Int)).length c1) rfl (by simp[Act.eval,Act.put]) (by simp[Act.eval,Act.put]) ((uV (fun _=>True) (fun _=>True) 5 xr.ba a1 xr.bc c1 (xr.d.bd) (uf 3 (o:Int)) V1 (HOP.out.kept K1.out (fun _ _ e=>e)) HXS.out X1.out (Lil.small (uH 3 (o:Int)) (by omega)) (by simp[uf,unD,uw,ui])).mono ?_)
                   rintro e V2 ⟨a2,c2,rfl,hbod,hkk⟩;have K2:Hid (Keep (fun _=>False) W6 V2):=K1.out.trans hkk
                   have gv2:=HW6.out.gv.later K2.out (fun _ e=>e.elim) 3
                   have z2:=gv2.c0;have zl2:=ub z2;have X1:Hid (OpsA (fun _=>True) V2 a1 (uf 3 (o:Int)).length (df (uf 3 (o:Int)))):=X1.out.kept hkk (fun _ _ e=>e)
                   have hb':BodP (New W6 V2) V2 (.slice a2 (uw 5 (xr.d.bd) (uf 3 (o:Int))).length c2) (uw 5 (xr.d.bd) (uf 3 (o:Int))):=hbod.wide (fun x q=>⟨by have h1:=K1.out.size;have h2:=q.1;omega,q.2⟩)
                   obtain⟨G5,hS5⟩:=HW6.out.rule HR.out K2.out hb' HXR.out HGT.out;obtain⟨g5,_,e5,_,_,_,s1,_,sf⟩:=gv2.gr.ruleAt HXR.out;obtain rfl:g=g5:=by injection e5 with e1;injection e1 with e1;injection e1 with e1
                   have HS5:Hid (∃G5,LpS t R w0 w w.heap.size G5 (V2.setCell ⟨g,a*2+1,none⟩ (.slice a2 (uw 5 (xr.d.bd) (uf 3 (o:Int))).length c2)) (.slice (some ⟨g,0,none⟩) n rc) (.slice (some ⟨gl,0,none⟩) m lc) (rs.set a ⟨⟨xr.d.nm,xr.d.has,uw 5 (xr.d.bd) (uf 3 (o:Int))⟩,xr.na,xr.nc,a2,c2⟩) lsb i3):=⟨G5,hS5⟩;clear hb' hS5 e5;clear hbod hkk;clear gv2;refine⟨_,rfl,?_⟩))
            all_goals go_goals
            all_goals go_wp2_with fail
            all_goals go_meet
            all_goals (obtain⟨G5,h5⟩:=HS5.out;exact⟨rfl,G5,_,_,h5,by rw[HBS.out,HLSB.out]⟩)
        rw[if_neg q3]at hp;subst hp;by_cases q3c:q=3
        · have q3':(q:Int)=3:=by omega
          have q3'':¬(0:Int)<(m:Int):=fun e=>q3 ⟨q3c,by omega⟩
          go_wp2_with fail;go_region_law
            (first
              | (refine yZ uc9 rfl (.const (.int .i64 97)) 3 rfl (y1:=.int .i64 97) rfl ((uL 97 W4.drew).mono ?_)
                 rintro e V1 ⟨rfl,hA⟩;have K1:Hid (Keep (fun _=>False) W4 V1):=(Keep.drew _ _).trans (hA▸Keep.alloc _ _ _)
                 have I1:Hid (Ints (fun _=>True) .i64 V1 (some ⟨W4.drew.heap.size,0,none⟩) (ur 97).length (lf (ur 97))):=hA▸xO _ 97 97 3
                 clear hA;have gv1:=HW4.out.gv.later K1.out (fun _ e=>e.elim) 3
                 have z1:=gv1.c0;have zl1:=ub z1;clear gv1;refine⟨_,rfl,?_⟩)
              | (refine yZ uaL rfl (.tmp 102) 49 rfl (y1:=.slice (some ⟨W4.drew.heap.size,0,none⟩) 2 2) (by simp[Act.eval,Act.put]) ((uU (fun _=>True) (some ⟨W4.drew.heap.size,0,none⟩) 2 (ur 97) V1 I1.out (by simp[ur])).mono ?_)
                 rintro e V2 ⟨a2,c2,rfl,hbod,hkk⟩;have K2:Hid (Keep (fun _=>False) W4 V2):=K1.out.trans hkk
                 have gv2:=HW4.out.gv.later K2.out (fun _ e=>e.elim) 3
                 have z2:=gv2.c0;have zl2:=ub z2;have X2:Hid (OpsA (fun _=>True) V2 a2 (ui (ur 97)).length (df (ui (ur 97)))):=hbod.ops.wide (fun _ _=>trivial)
                 clear hbod hkk;clear gv2;refine⟨_,rfl,?_⟩)
              | (refine ym uc8 rfl (.const (.int .i64 6)) (.tmp 103) 3 37 rfl (y1:=.int .i64 6) (y2:=.slice a2 (ui (ur 97)).length c2) rfl (by simp[Act.eval,Act.put]) ((vT (fun _=>True) 6 a2 c2 (ui (ur 97)) V2 X2.out (Lil.small (uF (s:=ur 97) (by simp[ur])) (by omega))).mono ?_)
                 rintro e V3 ⟨a3,c3,rfl,hbod,hkk⟩;have K3:Hid (Keep (fun _=>False) W4 V3):=K2.out.trans hkk
                 have gv3:=HW4.out.gv.later K3.out (fun _ e=>e.elim) 3
                 have z3:=gv3.c0;have zl3:=ub z3;have X3:Hid (OpsA (fun _=>True) V3 a3 (unD 6 (ui (ur 97))).length (df (unD 6 (ui (ur 97))))):=hbod.ops.wide (fun _ _=>trivial)
                 have X2:Hid (OpsA (fun _=>True) V3 a2 (ui (ur 97)).length (df (ui (ur 97)))):=X2.out.kept hkk (fun _ _ e=>e)
                 clear hbod hkk;clear gv3;refine⟨_,rfl,?_⟩)
              | (refine ym yu rfl (.const (.int .i64 2)) (.tmp 105) 3 3 rfl (y1:=.int .i64 2) (y2:=.int .i64 (b:Int)) rfl (by simp[Act.eval,Act.put]) ((uG 2 (b:Int) V3).mono ?_)
                 rintro e V4 ⟨a4,c4,rfl,hbod,hkk⟩;have K4:Hid (Keep (fun _=>False) W4 V4):=K3.out.trans hkk
                 have gv4:=HW4.out.gv.later K4.out (fun _ e=>e.elim) 3
                 have z4:=gv4.c0;have zl4:=ub z4;have X4:Hid (OpsA (fun _=>True) V4 a4 (uf 2 (b:Int)).length (df (uf 2 (b:Int)))):=hbod.ops.wide (fun _ _=>trivial)
                 have X2:Hid (OpsA (fun _=>True) V4 a2 (ui (ur 97)).length (df (ui (ur 97)))):=X2.out.kept hkk (fun _ _ e=>e)
                 have X3:Hid (OpsA (fun _=>True) V4 a3 (unD 6 (ui (ur 97))).length (df (unD 6 (ui (ur 97))))):=X3.out.kept hkk (fun _ _ e=>e)
                 clear hbod hkk;clear gv4;refine⟨_,rfl,?_⟩)
              | (refine jm qG rfl (.const (.int .i64 4)) (.tmp 104) (.tmp 106) 3 37 37 rfl (y1:=.int .i64 4) (y2:=.slice a3 (unD 6 (ui (ur 97))).length c3) (y3:=.slice a4 (uf 2 (b:Int)).length c4) rfl (by simp[Act.eval,Act.put]) (by simp[Act.eval,Act.put]) ((uV (fun _=>True) (fun _=>True) 4 a3 a4 c3 c4 (unD 6 (ui (ur 97))) (uf 2 (b:Int)) V4 X3.out (Lil.small (ye 6 (uF (s:=ur 97) (by simp[ur]))) (by omega)) X4.out (Lil.small (uH 2 (b:Int)) (by omega)) (by simp[uf,unD,uw,ui])).mono ?_)
                 rintro e V5 ⟨a5,c5,rfl,hbod,hkk⟩;have K5:Hid (Keep (fun _=>False) W4 V5):=K4.out.trans hkk
                 have gv5:=HW4.out.gv.later K5.out (fun _ e=>e.elim) 3
                 have z5:=gv5.c0;have zl5:=ub z5;have X2:Hid (OpsA (fun _=>True) V5 a2 (ui (ur 97)).length (df (ui (ur 97)))):=X2.out.kept hkk (fun _ _ e=>e)
                 have X3:Hid (OpsA (fun _=>True) V5 a3 (unD 6 (ui (ur 97))).length (df (unD 6 (ui (ur 97))))):=X3.out.kept hkk (fun _ _ e=>e)
                 have X4:Hid (OpsA (fun _=>True) V5 a4 (uf 2 (b:Int)).length (df (uf 2 (b:Int)))):=X4.out.kept hkk (fun _ _ e=>e)
                 have hb':BodP (New W4 V5) V5 (.slice a5 (uw 4 (unD 6 (ui (ur 97))) (uf 2 (b:Int))).length c5) (uw 4 (unD 6 (ui (ur 97))) (uf 2 (b:Int))):=hbod.wide (fun x q=>⟨by have h1:=K4.out.size;have h2:=q.1;omega,q.2⟩)
                 obtain⟨G5,hS5⟩:=HW4.out.rule HR.out K5.out hb' HXR.out HGT.out;obtain⟨g5,_,e5,_,_,_,s1,_,sf⟩:=gv5.gr.ruleAt HXR.out;obtain rfl:g=g5:=by injection e5 with e1;injection e1 with e1;injection e1 with e1
                 have HS5:Hid (∃G5,LpS t R w0 w w.heap.size G5 (V5.setCell ⟨g,a*2+1,none⟩ (.slice a5 (uw 4 (unD 6 (ui (ur 97))) (uf 2 (b:Int))).length c5)) (.slice (some ⟨g,0,none⟩) n rc) (.slice la m lc) (rs.set a ⟨⟨xr.d.nm,xr.d.has,uw 4 (unD 6 (ui (ur 97))) (uf 2 (b:Int))⟩,xr.na,xr.nc,a5,c5⟩) ls i3):=⟨G5,hS5⟩;clear hb' hS5 e5;clear hbod hkk;clear gv5;refine⟨_,rfl,?_⟩))
          all_goals go_goals
          all_goals go_wp2_with fail
          all_goals go_meet
          all_goals (obtain⟨G5,h5⟩:=HS5.out;exact⟨by first|rfl|(rw[q3']),G5,_,_,h5,by rw[HBS.out]⟩)
        · have q3':¬(q:Int)=3:=by omega
          go_wp2_with fail;go_region_law
            (first
              | (refine yZ uc9 rfl (.const (.int .i64 97)) 3 rfl (y1:=.int .i64 97) rfl ((uL 97 W4.drew).mono ?_)
                 rintro e V1 ⟨rfl,hA⟩;have K1:Hid (Keep (fun _=>False) W4 V1):=(Keep.drew _ _).trans (hA▸Keep.alloc _ _ _)
                 have I1:Hid (Ints (fun _=>True) .i64 V1 (some ⟨W4.drew.heap.size,0,none⟩) (ur 97).length (lf (ur 97))):=hA▸xO _ 97 97 3
                 clear hA;have gv1:=HW4.out.gv.later K1.out (fun _ e=>e.elim) 3
                 have z1:=gv1.c0;have zl1:=ub z1;clear gv1;refine⟨_,rfl,?_⟩)
              | (refine yZ uaL rfl (.tmp 102) 49 rfl (y1:=.slice (some ⟨W4.drew.heap.size,0,none⟩) 2 2) (by simp[Act.eval,Act.put]) ((uU (fun _=>True) (some ⟨W4.drew.heap.size,0,none⟩) 2 (ur 97) V1 I1.out (by simp[ur])).mono ?_)
                 rintro e V2 ⟨a2,c2,rfl,hbod,hkk⟩;have K2:Hid (Keep (fun _=>False) W4 V2):=K1.out.trans hkk
                 have gv2:=HW4.out.gv.later K2.out (fun _ e=>e.elim) 3
                 have z2:=gv2.c0;have zl2:=ub z2;have X2:Hid (OpsA (fun _=>True) V2 a2 (ui (ur 97)).length (df (ui (ur 97)))):=hbod.ops.wide (fun _ _=>trivial)
                 clear hbod hkk;clear gv2;refine⟨_,rfl,?_⟩)
              | (refine ym uc8 rfl (.const (.int .i64 6)) (.tmp 103) 3 37 rfl (y1:=.int .i64 6) (y2:=.slice a2 (ui (ur 97)).length c2) rfl (by simp[Act.eval,Act.put]) ((vT (fun _=>True) 6 a2 c2 (ui (ur 97)) V2 X2.out (Lil.small (uF (s:=ur 97) (by simp[ur])) (by omega))).mono ?_)
                 rintro e V3 ⟨a3,c3,rfl,hbod,hkk⟩;have K3:Hid (Keep (fun _=>False) W4 V3):=K2.out.trans hkk
                 have gv3:=HW4.out.gv.later K3.out (fun _ e=>e.elim) 3
                 have z3:=gv3.c0;have zl3:=ub z3;have X3:Hid (OpsA (fun _=>True) V3 a3 (unD 6 (ui (ur 97))).length (df (unD 6 (ui (ur 97))))):=hbod.ops.wide (fun _ _=>trivial)
                 have X2:Hid (OpsA (fun _=>True) V3 a2 (ui (ur 97)).length (df (ui (ur 97)))):=X2.out.kept hkk (fun _ _ e=>e)
                 clear hbod hkk;clear gv3;refine⟨_,rfl,?_⟩)
              | (refine ym yu rfl (.const (.int .i64 2)) (.tmp 105) 3 3 rfl (y1:=.int .i64 2) (y2:=.int .i64 (b:Int)) rfl (by simp[Act.eval,Act.put]) ((uG 2 (b:Int) V3).mono ?_)
                 rintro e V4 ⟨a4,c4,rfl,hbod,hkk⟩;have K4:Hid (Keep (fun _=>False) W4 V4):=K3.out.trans hkk
                 have gv4:=HW4.out.gv.later K4.out (fun _ e=>e.elim) 3
                 have z4:=gv4.c0;have zl4:=ub z4;have X4:Hid (OpsA (fun _=>True) V4 a4 (uf 2 (b:Int)).length (df (uf 2 (b:Int)))):=hbod.ops.wide (fun _ _=>trivial)
                 have X2:Hid (OpsA (fun _=>True) V4 a2 (ui (ur 97)).length (df (ui (ur 97)))):=X2.out.kept hkk (fun _ _ e=>e)
                 have X3:Hid (OpsA (fun _=>True) V4 a3 (unD 6 (ui (ur 97))).length (df (unD 6 (ui (ur 97))))):=X3.out.kept hkk (fun _ _ e=>e)
                 clear hbod hkk;clear gv4;refine⟨_,rfl,?_⟩)
              | (refine jm qG rfl (.const (.int .i64 4)) (.tmp 104) (.tmp 106) 3 37 37 rfl (y1:=.int .i64 4) (y2:=.slice a3 (unD 6 (ui (ur 97))).length c3) (y3:=.slice a4 (uf 2 (b:Int)).length c4) rfl (by simp[Act.eval,Act.put]) (by simp[Act.eval,Act.put]) ((uV (fun _=>True) (fun _=>True) 4 a3 a4 c3 c4 (unD 6 (ui (ur 97))) (uf 2 (b:Int)) V4 X3.out (Lil.small (ye 6 (uF (s:=ur 97) (by simp[ur]))) (by omega)) X4.out (Lil.small (uH 2 (b:Int)) (by omega)) (by simp[uf,unD,uw,ui])).mono ?_)
                 rintro e V5 ⟨a5,c5,rfl,hbod,hkk⟩;have K5:Hid (Keep (fun _=>False) W4 V5):=K4.out.trans hkk
                 have gv5:=HW4.out.gv.later K5.out (fun _ e=>e.elim) 3
                 have z5:=gv5.c0;have zl5:=ub z5;have X2:Hid (OpsA (fun _=>True) V5 a2 (ui (ur 97)).length (df (ui (ur 97)))):=X2.out.kept hkk (fun _ _ e=>e)
                 have X3:Hid (OpsA (fun _=>True) V5 a3 (unD 6 (ui (ur 97))).length (df (unD 6 (ui (ur 97))))):=X3.out.kept hkk (fun _ _ e=>e)
                 have X4:Hid (OpsA (fun _=>True) V5 a4 (uf 2 (b:Int)).length (df (uf 2 (b:Int)))):=X4.out.kept hkk (fun _ _ e=>e)
                 have hb':BodP (New W4 V5) V5 (.slice a5 (uw 4 (unD 6 (ui (ur 97))) (uf 2 (b:Int))).length c5) (uw 4 (unD 6 (ui (ur 97))) (uf 2 (b:Int))):=hbod.wide (fun x q=>⟨by have h1:=K4.out.size;have h2:=q.1;omega,q.2⟩)
                 obtain⟨G5,hS5⟩:=HW4.out.rule HR.out K5.out hb' HXR.out HGT.out;obtain⟨g5,_,e5,_,_,_,s1,_,sf⟩:=gv5.gr.ruleAt HXR.out;obtain rfl:g=g5:=by injection e5 with e1;injection e1 with e1;injection e1 with e1
                 have HS5:Hid (∃G5,LpS t R w0 w w.heap.size G5 (V5.setCell ⟨g,a*2+1,none⟩ (.slice a5 (uw 4 (unD 6 (ui (ur 97))) (uf 2 (b:Int))).length c5)) (.slice (some ⟨g,0,none⟩) n rc) (.slice la m lc) (rs.set a ⟨⟨xr.d.nm,xr.d.has,uw 4 (unD 6 (ui (ur 97))) (uf 2 (b:Int))⟩,xr.na,xr.nc,a5,c5⟩) ls i3):=⟨G5,hS5⟩;clear hb' hS5 e5;clear hbod hkk;clear gv5;refine⟨_,rfl,?_⟩))
          all_goals go_goals
          all_goals go_wp2_with fail
          all_goals go_meet
          all_goals (obtain⟨G5,h5⟩:=HS5.out;exact⟨by first|rfl|(rw[q3']),G5,_,_,h5,by rw[HBS.out]⟩)
      case rest =>
        obtain⟨rfl,G6,rs',ls',h6,hp6⟩:=hcut;obtain⟨W6,hw⟩:∃x,x=wc:=⟨_,rfl⟩;subst hw;have d0:=h6.gv.c0;have d1:=h6.gv.c1;obtain⟨t0,t1,tf0,tf1⟩:=h6.tw;have HF:Hid (DrX t R w0 p w (.returned (.agg #[.slice (some ⟨g,0,none⟩) n rc,.slice la m lc])) ((W6.setCell ⟨w.heap.size+1,0,none⟩ (.slice (some ⟨g,0,none⟩) n rc)).setCell ⟨w.heap.size+1,1,none⟩ (.slice la m lc))):=h6.fin HR.out hp6;clear h6 hp6;go_wp2;refine bodyPost_ret (v:=.agg #[.slice (some ⟨g,0,none⟩) n rc,.slice la m lc]) ?_ rfl ?_
        · simp[results,Tryz.f31,go_sem, *]
        · exact HF.out
end
end Go.Proofs.YthicmmhmmfhncaaGreat
