import Derived.Test.YthicmmhmmfhncaaGreatT31
set_option linter.unusedVariables false
set_option linter.unusedSimpArgs false
namespace Go.Proofs.YthicmmhmmfhncaaGreat
section
open Go.RowKit
open M (OpD uj Gr)
attribute [local go_sem] ubd ube ubf ubg ubh ubi ubj ubk ubl ubm ubn ubo ubp ubq ubr ubs ubt ubu ubv ubw ubx uby ubz ubA ubB ubC ubD ubE ubF ubG ubH ubI ubJ ubK ubL ubM ubN ubO ubP ubQ ubR ubS ubT ubU ubV ubW ubX ubY ubZ ub0 ub1 ub2 ub3 ub4 ub5 ub6
theorem uk0{w V:World}{b1 b2:Nat}{rs ls:List (List Int)}{u u':Value}{Pa Pb P O:Nat→Prop}{D D' D0:List OpD}(hV:AoC w b1 b2 rs ls u' Pb D')(hstb:Stay Pb w V)(hPb:∀b,Pb b→b<V.heap.size∧¬O b)(hO:∀b,O b→b<V.heap.size)(hPa:∀b,Pa b→b<V.heap.size∧¬O b)(hap:∀b,Pa b→¬Pb b)(ha:∀b,Pa b→P b)(hb:∀b,Pb b→P b)
    (hN:Nm2 V b1 b2 rs ls) (n1:¬O b1) (n2:¬O b2) (n3:¬P b1) (n4:¬P b2) (hl:D0.length+D.length+D'.length≤1000000) {U:World} {a2:Option Addr} {c2 m2:Nat} (hm:m2=(D0++D).length) (hB:BodP (fun b=>O b∨Pa b∨New V U b) U (.slice a2 m2 c2) (D0++D)) (hK:Keep (fun b=>O b∨Pa b) V U) :
    Calls Tryz.prog 41 #[.agg #[.map (some b1),.map (some b2)],.slice a2 m2 c2,u'] U (fun e X=>∃a3 c3 m3,e=.returned (.slice a3 m3 c3)∧Hid (BodP (fun b=>(O b∨Pa b∨New V U b)∨Pb b∨New U X b) X (.slice a3 m3 c3) (D0++D++D'))∧Hid (Keep (fun b=>O b∨P b) V X)∧Hid (∀b,(O b∨Pa b∨New V U b)∨Pb b∨New U X b→b<X.heap.size)∧Hid (∀b,(O b∨Pa b∨New V U b)∨Pb b∨New U X b→O b∨P b∨New V X b)):=by
  have zs:=hK.size;have b1l:=hN.rules.lt;have b2l:=hN.labs.lt;refine (hV U (fun b=>O b∨Pa b∨New V U b) a2 c2 m2 (D0++D) (fun b q=>(hK.block b (hPb b q).1 (fun z=>z.elim (hPb b q).2 (fun y=>hap b y q))).trans (hstb b q)) (fun b q=>⟨by have:=(hPb b q).1;omega,?_⟩) (fun b q=>?_) (hN.on (hK.block b1 b1l (fun z=>z.elim n1 (fun y=>n3 (ha _ y)))) (hK.block b2 b2l (fun z=>z.elim n2 (fun y=>n4 (ha _ y))))) (fun z=>?_) (fun z=>?_) (fun z=>n3 (hb _ z)) (fun z=>n4 (hb _ z)) hB hm (by rw[List.length_append];exact hl)).mono ?_
  · rintro (z | z | z)
    · exact (hPb b q).2 z
    · exact hap b z q
    · have:=z.1;have:=(hPb b q).1;omega
  · rcases q with q | q | q
    · have:=hO b q;omega
    · have:=(hPa b q).1;omega
    · exact q.2
  · rcases z with z | z | z
    · exact n1 z
    · exact n3 (ha _ z)
    · have:=z.1;omega
  · rcases z with z | z | z
    · exact n2 z
    · exact n4 (ha _ z)
    · have:=z.1;omega
  · rintro e X ⟨a3,c3,m3,rfl,hm3,hB3,hK3⟩
    have zx:=hK3.size;refine⟨a3,c3,m3,rfl,hB3,?_,fun b q=>?_,fun b q=>?_⟩
    · refine⟨hK3.os.trans hK.os,hK3.tape.trans hK.tape,hK3.output.trans hK.output,by omega,fun b hb' hc=>(hK3.block b (by omega) (fun q=>?_)).trans (hK.block b hb' (fun q=>hc (q.imp id (ha b))))⟩
      rcases q with (q | q | q) | q
      · exact hc (.inl q)
      · exact hc (.inr (ha b q))
      · have:=q.1;omega
      · exact hc (.inr (hb b q))
    · rcases q with (q | q | q) | q | q
      · have:=hO b q;omega
      · have:=(hPa b q).1;omega
      · have:=q.2;omega
      · have:=(hPb b q).1;omega
      · exact q.2
    · rcases q with (q | q | q) | q | q
      · exact .inl q
      · exact .inr (.inl (ha b q))
      · exact .inr (.inr ⟨q.1,by have:=q.2;omega⟩)
      · exact .inr (.inl (hb b q))
      · exact .inr (.inr ⟨by have:=q.1;omega,q.2⟩)
set_option maxHeartbeats 2000000 in
set_option maxRecDepth 100000 in
theorem uoD(w:World)(b1 b2:Nat)(rs ls:List (List Int))(ty ty':TypeId)(u u':Value)(Pa Pb P:Nat→Prop)(D D':List OpD)(hU:AoC w b1 b2 rs ls (.iface ty u) Pa D)(hV:AoC w b1 b2 rs ls (.iface ty' u') Pb D')(ha:∀b,Pa b→P b)(hb:∀b,Pb b→P b)(hap:∀b,Pa b→¬Pb b):AoC w b1 b2 rs ls (.iface 121 (.agg #[.iface ty u,.iface ty' u'])) P (uw 4 D D'):=by
  intro W O a c n D0 hst hP hO hN n1 n2 n3 n4 hB hn hl;have hl':D0.length+D.length+D'.length+1≤1000000:=by
    have h:=hl;simp only[uw,List.length_append,List.length_singleton]at h;omega
  obtain⟨V,hVe⟩:∃V,V=((W.alloc (.cells #[.map (some b1),.map (some b2)] 59)).alloc (.cells #[.iface ty u,.iface ty' u'] 121)).drew:=⟨_,rfl⟩;have ka:Keep (fun _=>False) W V:=by
    rw[hVe];exact ((Keep.alloc _ _ _).trans (Keep.alloc _ _ _)).trans (Keep.drew _ _)
  have zs:=ka.size;have HKV:Hid (Keep (fun b=>O b∨P b) W V):=ka.mono (fun b q=>q.elim)
  have hNV:Nm2 V b1 b2 rs ls:=hN.on (ka.block b1 hN.rules.lt (fun z=>z)) (ka.block b2 hN.labs.lt (fun z=>z))
  have hPV:∀b,P b→b<V.heap.size∧¬O b:=fun b q=>⟨by have:=(hP b q).1;omega,(hP b q).2⟩
  have hOV:∀b,O b→b<V.heap.size:=fun b q=>by have:=hO b q;omega
  have hstV:Stay P w V:=fun b q=>(ka.block b (hP b q).1 (fun z=>z)).trans (hst b q)
  have HC1:Hid (Calls Tryz.prog 41 #[.agg #[.map (some b1),.map (some b2)],.slice a n c,.iface ty u] V (ufp O Pa (D0++D) V)) :=
    hU V O a c n D0 (fun b q=>hstV b (ha b q)) (fun b q=>hPV b (ha b q)) hOV hNV n1 n2 (fun z=>n3 (ha _ z)) (fun z=>n4 (ha _ z)) (hB.on (fun b q=>ka.block b (hO b q) (fun z=>z))) hn (by omega)
  have HC2:Hid (∀(U:World) (a2:Option Addr) (c2 m2:Nat),m2=(D0++D).length→BodP (fun b=>O b∨Pa b∨New V U b) U (.slice a2 m2 c2) (D0++D)→Keep (fun b=>O b∨Pa b) V U→Calls Tryz.prog 41 #[.agg #[.map (some b1),.map (some b2)],.slice a2 m2 c2,.iface ty' u'] U (fun e X=>∃a3 c3 m3,e=.returned (.slice a3 m3 c3)∧Hid (BodP (fun b=>(O b∨Pa b∨New V U b)∨Pb b∨New U X b) X (.slice a3 m3 c3) (D0++D++D'))∧Hid (Keep (fun b=>O b∨P b) V X)∧Hid (∀b,(O b∨Pa b∨New V U b)∨Pb b∨New U X b→b<X.heap.size)∧Hid (∀b,(O b∨Pa b∨New V U b)∨Pb b∨New U X b→O b∨P b∨New V X b))):=fun U a2 c2 m2 h1 h2 h3 =>
    uk0 (u:=.iface ty u) hV (fun b q=>hstV b (hb b q)) (fun b q=>hPV b (hb b q)) hOV (fun b q=>hPV b (ha b q)) hap ha hb hNV n1 n2 n3 n4 (by omega) h1 h2 h3
  have HL:Hid ((D0++D++D').length+1≤16777216):=by
    have h:(D0++D++D').length+1≤16777216:=by rw[List.length_append,List.length_append];omega
    exact h
  have HX:Hid (∀U,Keep (fun b=>O b∨Pa b) V U→U.cell? ⟨W.heap.size,0,none⟩=some (.map (some b1))∧U.cell? ⟨W.heap.size,1,none⟩=some (.map (some b2))∧U.cell? ⟨W.heap.size+1,1,none⟩=some (.iface ty' u')):=fun U hk=>by
    have e1:V.heap[W.heap.size]? = some (.cells #[.map (some b1),.map (some b2)] 59):=by
      rw[hVe];show ((W.alloc (.cells #[.map (some b1),.map (some b2)] 59)).alloc (.cells #[.iface ty u,.iface ty' u'] 121)).heap[W.heap.size]? = _;rw[Below.heap_alloc _ _ _ (by simp),World.alloc_heap_new]
    have e2:V.heap[W.heap.size+1]? = some (.cells #[.iface ty u,.iface ty' u'] 121):=by
      rw[hVe];have:=World.alloc_heap_new (W.alloc (.cells #[.map (some b1),.map (some b2)] 59)) (.cells #[.iface ty u,.iface ty' u'] 121);rw[show (W.alloc (.cells #[.map (some b1),.map (some b2)] 59)).heap.size=W.heap.size+1 by simp]at this
      exact this
    have q1:=(hk.block W.heap.size (Array.getElem?_eq_some_iff.1 e1).1 (fun q=>by
      rcases q with q | q
      · have:=hO _ q;omega
      · have:=(hP _ (ha _ q)).1;omega)).trans e1
    have q2:=(hk.block (W.heap.size+1) (Array.getElem?_eq_some_iff.1 e2).1 (fun q=>by
      rcases q with q | q
      · have:=hO _ q;omega
      · have:=(hP _ (ha _ q)).1;omega)).trans e2
    exact⟨ud q1 rfl,ud q1 rfl,ud q2 rfl⟩
  clear hB hO hst hP hN hl hn hU hV hl' ka hNV hPV hOV hstV zs hap;rw[hVe]at HC1 HC2 HX HKV;clear hVe;go_enter Tryz.func41,Tryz.ntmps41;go_wp2_with fail;go_region_law (first
    | (refine jm ucZ rfl (.tmp 52) (.tmp 53) (.tmp 55) 59 37 63 rfl (y1:=.agg #[.map (some b1),.map (some b2)]) (y2:=.slice a n c) (y3:=.iface ty u) (by first|rfl | simp[Act.eval,Act.put]) (by first|rfl | simp[Act.eval,Act.put]) (by first|rfl | simp[Act.eval,Act.put]) (Calls.mono HC1.out ?_)
       rintro e U ⟨a2,c2,m2,rfl,hm2,hB2,hK2⟩;have HCC:=HC2.out U a2 c2 m2 hm2 hB2 hK2;obtain⟨x0,x1,x2⟩:=HX.out U hK2;have lx0:=ub x0;have lx2:=ub x2;have HCC:Hid _:=HCC;clear hm2 hB2 hK2;refine⟨_,rfl,?_⟩)
    | (refine jm ucZ rfl (.tmp 51) (.tmp 56) (.tmp 58) 59 37 63 rfl (y1:=.agg #[.map (some b1),.map (some b2)]) (y2:=.slice a2 m2 c2) (y3:=.iface ty' u') (by first|rfl | simp[Act.eval,Act.put]) (by first|rfl | simp[Act.eval,Act.put]) (by first|rfl | simp[Act.eval,Act.put]) (Calls.mono HCC.out ?_)
       rintro e X ⟨a3,c3,m3,rfl,hB3,hK3,hO3,hI3⟩;clear x0 x1 x2 lx0 lx2;refine⟨_,rfl,?_⟩))
  all_goals (
    go_wp2_with (at_builtin;refine aoS rfl _ _ rfl (opd 4 0) rfl rfl rfl rfl rfl (by first|rfl | simp) hB3.out (S:=fun _=>False) hO3.out (fun b q=>q.elim) (.inl ⟨rfl,rfl,rfl⟩) HL.out ?_;intro a' c' n' W3 hn' hB' hK')
    go_ret;have hfin:=qi (HKV.out.trans hK3.out) (fun b q=>q.elim) (fun b q=>(hI3.out b q).imp id (fun q=>q.imp id (fun q=>⟨Nat.le_trans HKV.out.size q.1,q.2⟩))) hn'.out hB'.out hK'.out
    rw[List.append_assoc,List.append_assoc]at hfin;rw[uw,List.append_assoc];exact hfin)
end
end Go.Proofs.YthicmmhmmfhncaaGreat
