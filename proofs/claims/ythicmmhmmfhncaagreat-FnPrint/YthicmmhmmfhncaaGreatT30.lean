import Derived.Test.YthicmmhmmfhncaaGreatT28
import Derived.Test.YthicmmhmmfhncaaGreatT29
import Derived.Carry
import Derived.Test.YthicmmhmmfhncaaGreatT25
import Derived.Test.YthicmmhmmfhncaaGreatT19
import Derived.Lib.ConvBytes
import Derived.Maps.RangeWalk
set_option linter.unusedVariables false
set_option linter.unusedSimpArgs false
namespace Go.Proofs.YthicmmhmmfhncaaGreat
section
open Go.RowKit
open M (OpD uj Gr)
theorem jM{C:Nat→Prop}{w W W':World}{b:Nat}(k:Keep C w W)(g:W.grownBy W' (some b))(h:w.heap.size≤b):Keep C w W' :=
 ⟨g.os.trans k.os,g.tape.trans k.tape,g.output.trans k.output,Nat.le_trans k.size g.size,fun x hx hc=>(g.block x (Nat.lt_of_lt_of_le hx k.size) (fun e=>by injection e with e;omega)).trans (k.block x hx hc)⟩
def NmQ(qs:List Rl):Prop:=∀q∈qs,BytL q.name.nm∧q.name.nm.length≤1000000
def uk7(qs:List Rl)(w:World)(e:Ending)(w':World):Prop :=
 Keep (fun _=>False) w w'∧((xF [] qs=none∧∃b1 b2,e=.returned (.tuple #[.map (some b1),.map (some b2)])∧New w w' b1∧New w w' b2∧b1≠b2∧MapN w' b1 (ue qs) (ixN (ue qs))∧MapN w' b2 (uB qs) (ixN (uB qs)))∨(∃p:Nat,xF [] qs=some p∧e=.panicked (flt 6 (p:Nat))))
def fdI(qs:List Rl)(w:World)(v:Value)(wr:World):Prop :=
 ∃k:Nat,k≤qs.length∧v=.int .i64 (k:Nat)∧xF [] qs=xF (qs.take k) (qs.drop k)∧Keep (fun _=>False) w wr∧w.heap.size+2≤wr.heap.size∧MapN wr w.heap.size (ue (qs.take k)) (ixN (ue (qs.take k)))∧MapN wr (w.heap.size+1) (uB (qs.take k)) (ixN (uB (qs.take k)))
set_option maxHeartbeats 1000000 in
set_option maxRecDepth 100000 in
theorem ufq(rb:Nat)(t:Tx)(r:Rv)(k:Tok)(sa:Option Addr)(sc i:Nat)(qs:List Rl)(A B N D T:Nat→Prop)(w:World)(hD:DS rb t r k sa sc i [] qs A B N D T w)(hq:NmQ qs):Calls Tryz.prog 42 #[.pointer (some ⟨rb,0,none⟩)] w (uk7 qs w):=by
 have HD:Hid (DS rb t r k sa sc i [] qs A B N D T w):=hD;have HQ:Hid (NmQ qs):=hq;have hmm:=@run_makeMap Tryz.prog;obtain⟨cs,hcs,hdt⟩:=hD.row;have hql:=hD.len;simp only[List.length_nil,Nat.add_zero]at hql;obtain⟨ra,rc,hv6⟩:=um hcs;have c6:w.cell? ⟨rb,6,none⟩=some (.slice ra qs.length rc):=by
  have h:w.cell? ⟨rb,6,none⟩=some r.v6:=ud hD.st.blk rfl;rw[hv6]at h;exact h
 have hrb:=hD.st.blk.lt;have HCS:Hid (∀k q,qs[k]? = some q→∃g v,ra=some ⟨g,0,none⟩∧g<w.heap.size∧(∃ty u,v=.iface ty u)∧∀j,j<4→w.cell? ⟨g,k*4+j,none⟩=(dfC q v)[j]?):=fun k q hq=>by
  have hk:=(List.getElem?_eq_some_iff.1 hq).1;obtain⟨g,c,e,hg,hc⟩:=uoP hcs hdt.len (by omega)
  obtain⟨v,P,h1,h2,h3⟩:=hdt.at hq;rw[hv6]at e;injection e with e1 _ _
  exact⟨g,v,e1,(hD.da g hg).1,TrA.iface _ h1,fun j hj=>by rw[hc k hk j hj];exact h3 j hj⟩
 clear hD hcs hdt hv6 hq;go_enter Tryz.func42,Tryz.ntmps42;go_wp2;go_loopw [16] (fdI qs w) (fun v _=>qs.length-(intOf v).toNat)
 case atStart =>
  have hz:((w.alloc (.map #[] 0)).alloc (.map #[] 0)).heap.size=w.heap.size+2:=by simp
  refine⟨0,Nat.zero_le _,rfl,rfl,(Keep.alloc _ _ _).trans (Keep.alloc _ _ _),by omega,?_,?_⟩
  ·exact (MapN.made w _).on (Below.heap_alloc _ _ _ (by simp))
  ·have:=MapN.made (w.alloc (.map #[] 0)) (ixN [])
   rw[show (w.alloc (.map #[] 0)).heap.size=w.heap.size+1 by simp]at this
   exact this
 case round =>
  obtain⟨m,hm,rfl,hE,hK,hz,hM1,hM2⟩:=hrel;have HE:Hid (xF [] qs=xF (qs.take m) (qs.drop m)):=hE;have HK:Hid (Keep (fun _=>False) w wr):=hK
  have HM1:Hid (MapN wr w.heap.size (ue (qs.take m)) (ixN (ue (qs.take m)))):=hM1;have HM2:Hid (MapN wr (w.heap.size+1) (uB (qs.take m)) (ixN (uB (qs.take m)))):=hM2;clear hE hM1 hM2;by_cases hlt:m<qs.length
  ·obtain⟨q,hq⟩:∃q,qs[m]? = some q:=⟨_,List.getElem?_eq_getElem hlt⟩
   obtain⟨g,v,rfl,hg,⟨ty,u,rfl⟩,hc⟩:=HCS.out m q hq;have y0:wr.cell? ⟨g,m*4,none⟩=some (.string (str q.name.nm.length (lf q.name.nm))):=(hK.cell (p:=⟨g,m*4+0,none⟩) hg (fun z=>z)).trans (hc 0 (by omega))
   have y1:wr.cell? ⟨g,m*4+1,none⟩=some (.int .i64 (q.name.at_:Nat)):=(hK.cell (p:=⟨g,m*4+1,none⟩) hg (fun z=>z)).trans (hc 1 (by omega))
   have y2:wr.cell? ⟨g,m*4+2,none⟩=some (.bool q.car.isSome):=(hK.cell (p:=⟨g,m*4+2,none⟩) hg (fun z=>z)).trans (hc 2 (by omega))
   have y3:wr.cell? ⟨g,m*4+3,none⟩=some (.iface ty u):=(hK.cell (p:=⟨g,m*4+3,none⟩) hg (fun z=>z)).trans (hc 3 (by omega))
   have HST:Hid (xF (qs.take m) (qs.drop m)=if q.name.nm∈(if q.car.isSome then uB (qs.take m) else ue (qs.take m)) then some q.name.at_ else xF (qs.take (m+1)) (qs.drop (m+1))):=uoO hq
   have hgr:g<wr.heap.size:=by have:=hK.size;omega
   have hlt':(m:Int)<(qs.length:Int):=by omega
   have HZ:Hid (BytL q.name.nm∧q.name.nm.length≤1000000):=HQ.out q (List.mem_of_getElem? hq);have HTK:Hid (qs.take (m+1)=qs.take m++[q]):=xe hq;clear hc hK hq;cases hcar:q.car.isSome with
   |false =>
    have HCAR:Hid (q.car.isSome=false):=hcar;rw[hcar]at y2;clear hcar;have HMK:Hid (MapN (wr.alloc (.cells #[.string (str q.name.nm.length (lf q.name.nm)),.int .i64 (q.name.at_:Nat),.bool false,.iface ty u] 80)) (w.heap.size) (ue (qs.take m)) (ixN (ue (qs.take m)))):=HM1.out.alloc _;have HMO:Hid (MapN (wr.alloc (.cells #[.string (str q.name.nm.length (lf q.name.nm)),.int .i64 (q.name.at_:Nat),.bool false,.iface ty u] 80)) (w.heap.size+1) (uB (qs.take m)) (ixN (uB (qs.take m)))):=HM2.out.alloc _;have HKA:Hid (Keep (fun _=>False) w (wr.alloc (.cells #[.string (str q.name.nm.length (lf q.name.nm)),.int .i64 (q.name.at_:Nat),.bool false,.iface ty u] 80))):=HK.out.trans (Keep.alloc _ _ _)
    by_cases hin:q.name.nm∈ue (qs.take m)
    ·have HBV:Hid (decide (q.name.nm∈ue (qs.take m))=true):=decide_eq_true hin
     have HFI:Hid (uk7 qs w (.panicked (flt 6 (q.name.at_:Nat))) (wr.alloc (.cells #[.string (str q.name.nm.length (lf q.name.nm)),.int .i64 (q.name.at_:Nat),.bool false,.iface ty u] 80))):=by
      refine⟨HKA.out,.inr ⟨q.name.at_,?_,rfl⟩⟩;rw[HE.out,HST.out,HCAR.out];simp only[if_true,Bool.false_eq_true,if_false];rw[if_pos hin]
     clear hin;go_wp2_with (at_lookup;refine ueH _ rfl _ _ rfl (w.heap.size) (ue (qs.take m)) (ixN (ue (qs.take m))) q.name.nm rfl HMK.out rfl HZ.out.1 HZ.out.2 true HBV.out ?_);exact⟨rfl,HFI.out⟩
    ·have HIN:Hid (q.name.nm ∉ ue (qs.take m)):=hin
     have HBV:Hid (decide (q.name.nm∈ue (qs.take m))=false):=decide_eq_false hin;have hll:(ue (qs.take m)).length≤m:=by
      unfold ue;rw[List.length_map];exact Nat.le_trans (List.length_filter_le _ _) (by rw[List.length_take];omega)
     have HLL:Hid ((ue (qs.take m)).length+1≤1000000):=by
      have h:(ue (qs.take m)).length+1≤1000000:=by omega
      exact h
     have HLM:Hid ((ue (qs.take m)).length≤1000000):=by
      have h:(ue (qs.take m)).length≤1000000:=by omega
      exact h
     have HI:Hid (∀W',MapN W' (w.heap.size) (kU (ue (qs.take m)) q.name.nm) (ub8 (ixN (ue (qs.take m))) q.name.nm (ue (qs.take m)).length)→(wr.alloc (.cells #[.string (str q.name.nm.length (lf q.name.nm)),.int .i64 (q.name.at_:Nat),.bool false,.iface ty u] 80)).grownBy W' (some (w.heap.size))→fdI qs w (.int .i64 ((m:Int)+1)) W'):=fun W' h1 h2=>by
      refine⟨m+1,hlt,by simp,?_,jM HKA.out h2 (by omega),?_,?_,?_⟩
      ·rw[HE.out,HST.out,HCAR.out]
       simp only[if_true,Bool.false_eq_true,if_false];rw[if_neg HIN.out]
      ·have:=h2.size
       have e:(wr.alloc (.cells #[.string (str q.name.nm.length (lf q.name.nm)),.int .i64 (q.name.at_:Nat),.bool false,.iface ty u] 80)).heap.size=wr.heap.size+1:=by simp
       omega
      ·rw[HTK.out,jN,HCAR.out]
       simp only[if_true,Bool.false_eq_true,if_false];exact h1.snoc (w:=w) HIN.out
      ·rw[HTK.out,ucA,HCAR.out]
       simp only[if_true,Bool.false_eq_true,if_false];exact HMO.out.on (h2.block _ HMO.out.lt (by simp))
     clear hin hll;go_wp2_with (first
      | (at_lookup;refine ueH _ rfl _ _ rfl (w.heap.size) (ue (qs.take m)) (ixN (ue (qs.take m))) q.name.nm rfl HMK.out rfl HZ.out.1 HZ.out.2 false HBV.out ?_)
      | (at_len;refine ulf _ rfl _ rfl (w.heap.size) (ue (qs.take m)) (ixN (ue (qs.take m))) rfl HMK.out ?_)
      | (at_mapUpdate;refine unf _ rfl _ _ _ rfl (w.heap.size) (ue (qs.take m)) (ixN (ue (qs.take m))) q.name.nm (ue (qs.take m)).length rfl HMK.out rfl rfl HZ.out.1 HZ.out.2 HLL.out HLM.out ?_;intro W' hM' hg';have HI2:Hid (fdI qs w (.int .i64 ((m:Int)+1)) W'):=HI.out W' hM' hg';clear hM' hg'))
     go_roundw;all_goals first
      |exact HI2.out
      | (simp[intOf];omega)
   |true =>
    have HCAR:Hid (q.car.isSome=true):=hcar;rw[hcar]at y2;clear hcar;have HMK:Hid (MapN (wr.alloc (.cells #[.string (str q.name.nm.length (lf q.name.nm)),.int .i64 (q.name.at_:Nat),.bool true,.iface ty u] 80)) (w.heap.size+1) (uB (qs.take m)) (ixN (uB (qs.take m)))):=HM2.out.alloc _;have HMO:Hid (MapN (wr.alloc (.cells #[.string (str q.name.nm.length (lf q.name.nm)),.int .i64 (q.name.at_:Nat),.bool true,.iface ty u] 80)) (w.heap.size) (ue (qs.take m)) (ixN (ue (qs.take m)))):=HM1.out.alloc _;have HKA:Hid (Keep (fun _=>False) w (wr.alloc (.cells #[.string (str q.name.nm.length (lf q.name.nm)),.int .i64 (q.name.at_:Nat),.bool true,.iface ty u] 80))):=HK.out.trans (Keep.alloc _ _ _)
    by_cases hin:q.name.nm∈uB (qs.take m)
    ·have HBV:Hid (decide (q.name.nm∈uB (qs.take m))=true):=decide_eq_true hin
     have HFI:Hid (uk7 qs w (.panicked (flt 6 (q.name.at_:Nat))) (wr.alloc (.cells #[.string (str q.name.nm.length (lf q.name.nm)),.int .i64 (q.name.at_:Nat),.bool true,.iface ty u] 80))):=by
      refine⟨HKA.out,.inr ⟨q.name.at_,?_,rfl⟩⟩;rw[HE.out,HST.out,HCAR.out];simp only[if_true,Bool.false_eq_true,if_false];rw[if_pos hin]
     clear hin;go_wp2_with (at_lookup;refine ueH _ rfl _ _ rfl (w.heap.size+1) (uB (qs.take m)) (ixN (uB (qs.take m))) q.name.nm rfl HMK.out rfl HZ.out.1 HZ.out.2 true HBV.out ?_);exact⟨rfl,HFI.out⟩
    ·have HIN:Hid (q.name.nm ∉ uB (qs.take m)):=hin
     have HBV:Hid (decide (q.name.nm∈uB (qs.take m))=false):=decide_eq_false hin;have hll:(uB (qs.take m)).length≤m:=by
      unfold uB;rw[List.length_map];exact Nat.le_trans (List.length_filter_le _ _) (by rw[List.length_take];omega)
     have HLL:Hid ((uB (qs.take m)).length+1≤1000000):=by
      have h:(uB (qs.take m)).length+1≤1000000:=by omega
      exact h
     have HLM:Hid ((uB (qs.take m)).length≤1000000):=by
      have h:(uB (qs.take m)).length≤1000000:=by omega
      exact h
     have HI:Hid (∀W',MapN W' (w.heap.size+1) (kU (uB (qs.take m)) q.name.nm) (ub8 (ixN (uB (qs.take m))) q.name.nm (uB (qs.take m)).length)→(wr.alloc (.cells #[.string (str q.name.nm.length (lf q.name.nm)),.int .i64 (q.name.at_:Nat),.bool true,.iface ty u] 80)).grownBy W' (some (w.heap.size+1))→fdI qs w (.int .i64 ((m:Int)+1)) W'):=fun W' h1 h2=>by
      refine⟨m+1,hlt,by simp,?_,jM HKA.out h2 (by omega),?_,?_,?_⟩
      ·rw[HE.out,HST.out,HCAR.out]
       simp only[if_true,Bool.false_eq_true,if_false];rw[if_neg HIN.out]
      ·have:=h2.size
       have e:(wr.alloc (.cells #[.string (str q.name.nm.length (lf q.name.nm)),.int .i64 (q.name.at_:Nat),.bool true,.iface ty u] 80)).heap.size=wr.heap.size+1:=by simp
       omega
      ·rw[HTK.out,jN,HCAR.out]
       simp only[if_true,Bool.false_eq_true,if_false];exact HMO.out.on (h2.block _ HMO.out.lt (by simp))
      ·rw[HTK.out,ucA,HCAR.out]
       simp only[if_true,Bool.false_eq_true,if_false];exact h1.snoc (w:=w) HIN.out
     clear hin hll;go_wp2_with (first
      | (at_lookup;refine ueH _ rfl _ _ rfl (w.heap.size+1) (uB (qs.take m)) (ixN (uB (qs.take m))) q.name.nm rfl HMK.out rfl HZ.out.1 HZ.out.2 false HBV.out ?_)
      | (at_len;refine ulf _ rfl _ rfl (w.heap.size+1) (uB (qs.take m)) (ixN (uB (qs.take m))) rfl HMK.out ?_)
      | (at_mapUpdate;refine unf _ rfl _ _ _ rfl (w.heap.size+1) (uB (qs.take m)) (ixN (uB (qs.take m))) q.name.nm (uB (qs.take m)).length rfl HMK.out rfl rfl HZ.out.1 HZ.out.2 HLL.out HLM.out ?_;intro W' hM' hg';have HI2:Hid (fdI qs w (.int .i64 ((m:Int)+1)) W'):=HI.out W' hM' hg';clear hM' hg'))
     go_roundw;all_goals first
      |exact HI2.out
      | (simp[intOf];omega)
  ·have hmq:m=qs.length:=by omega
   have HFI:Hid (uk7 qs w (.returned (.tuple #[.map (some w.heap.size),.map (some (w.heap.size+1))])) wr):=by
    have h1:=HM1.out;have h2:=HM2.out;have h3:=HE.out;rw[hmq,List.take_of_length_le (Nat.le_refl _)]at h1 h2 h3;rw[List.drop_of_length_le (Nat.le_refl _)]at h3;exact⟨HK.out,.inl ⟨h3,_,_,rfl,⟨Nat.le_refl _,by omega⟩,⟨by omega,by omega⟩,by omega,h1,h2⟩⟩
   have hge:¬((m:Int)<(qs.length:Int)):=by omega
   clear hmq;go_wp2;refine bodyPost_ret (v:=.tuple #[.map (some w.heap.size),.map (some (w.heap.size+1))]) ?_ rfl ?_
   ·simp[results,Tryz.f42,go_sem]
   ·exact HFI.out
end
section
section
open Go.RowKit Go.Maps Go.Sort Go.Shelf
theorem Tryz.sorts68(m:Nat):AnyZ.SortsIn Tryz.prog Tryz.sorted68_ren Fence.wide m :=
 ⟨fun blk off cap ss W hH hblk hsz=>callsIn_wide.2 (AnyM.slices_Sort_string Tryz.sort86 blk off cap ss W hH hblk hsz),
 fun p cap W=>callsIn_wide.2 (AnyM.slices_Sort_string_none Tryz.sort86 p cap W)⟩
theorem Tryz.maps_Keys_69(mb:Option Nat)(W:World):CallsIn Fence.wide 5 Tryz.prog 75 #[.map mb] W fun e w'=>e=.returned (.func (.func 95) #[] #[.pointer (some ⟨W.heap.size,0,none⟩)])∧w'=W.alloc (.cells #[.map mb] 57) :=
 AnyZ.keys_in Tryz.keys69 Fence.wide 5 trivial rfl mb W
set_option maxHeartbeats 1000000 in
theorem Tryz.slices_Sorted_keys_68_69{H:Type}(b nn:Nat)(D0:DataW H)(R:Value→Option (DataW H×List MemPlace))(w:World)(hown:w.ownsMap Tryz.prog 9 R b nn D0)(hmax:Maps.size D0≤maxLen)(hbytes:Maps.size D0*16≤140737488355328) :
  CallsIn Fence.wide 5 Tryz.prog 74 #[.func (.func 95) #[] #[.pointer (some ⟨w.heap.size,0,none⟩)]] (w.alloc (.cells #[.map (some b)] 57)) fun e w'=>∃(v:Value) (ss:List (List UInt8)),e=.returned v∧ss.Perm (strKeys D0) ∧
   w'.ownsRow (w.alloc (.cells #[.map (some b)] 57)).heap.size 9 1 v ss.length ((ss.mergeSort (fun x y=>decide (x≤y))).map encStr)∧(v=.slice none 0 0↔ss = [])∧Below (w.alloc (.cells #[.map (some b)] 57)).heap.size (w.alloc (.cells #[.map (some b)] 57)) w':=by
 have hbl:=hown.lt;have hseq:SeqGives Fence.wide 2 Tryz.prog 95 #[.pointer (some ⟨w.heap.size,0,none⟩)] encStr (fun ss=>ss.Perm (strKeys D0)) (Maps.size D0) (w.alloc (.cells #[.map (some b)] 57)) :=
  AnyZ.keys_gives (ρ:=Tryz.keys69_ren) { Tryz.keys69 with } Fence.wide _ trivial rfl (by omega) w.heap.size b nn D0 _ (by simp) (by simp) (by
   obtain⟨es,clock,hb,Ft,hs,hD⟩:=hown;exact⟨es,clock,(Below.heap_alloc _ _ b hbl).trans hb,Ft,hs,hD⟩)
 exact AnyZ.sorted_in Tryz.sorted68 Fence.wide 5 trivial trivial trivial trivial rfl (by omega) (Tryz.sorts68 _) (enters_of Tryz.func94 (by kernel_rfl) rfl) 95 #[.pointer (some ⟨w.heap.size,0,none⟩)] trivial (enters_of Tryz.func95 (by kernel_rfl) rfl) _ _ hmax hbytes _ hseq
end
open Go.RowKit
open M (OpD uj Gr)
def u8(z:List Int):List UInt8:=(str z.length (lf z)).data.toList
def i8(x:List UInt8):List Int:=x.map (fun b=>(b.toNat:Int))
theorem uc4(z:List Int):xT z=.string (u8 z):=rfl
theorem ulv(z:List Int):encStr (u8 z)=.string (str z.length (lf z)):=by
 unfold encStr u8;simp
theorem upU(z:List Int):u8 z=u8s z.length (lf z):=yU _ _
theorem ugj{z:List Int}(h:BytL z):i8 (u8 z)=z:=by
 rw[upU];unfold i8 u8s;rw[List.map_map];refine List.ext_getElem? (fun i=>?_)
 rw[List.getElem?_map];by_cases hi:i<z.length
 ·rw[List.getElem?_range hi,List.getElem?_eq_getElem hi]
  have e:lf z i=z[i]:=by unfold lf;rw[List.getD_eq_getElem?_getD,List.getElem?_eq_getElem hi];rfl
  have hb:=h z[i] (List.getElem_mem hi);simp only[Option.map_some,Function.comp,e]
  congr 1
  rw[UInt8.toNat_ofNat'];omega
 ·rw[List.getElem?_eq_none (by simp;omega),List.getElem?_eq_none (by omega)]
  rfl
theorem uoT{y z:List Int}(hy:BytL y)(hz:BytL z)(h:u8 y=u8 z):y=z:=by rw[←ugj hy,h,ugj hz]
theorem uoq:∀{x y:List UInt8},ltB (i8 x) (i8 y)→x<y
 |_,[],h=>absurd h (uda _)
 | [],y::s,_=>List.Lex.nil
 |x::r,y::s,h=>by
  rcases h with h | ⟨e,h⟩
  ·refine List.Lex.rel ?_
   have h:(x.toNat:Int)<(y.toNat:Int):=h;exact UInt8.lt_iff_toNat_lt.2 (by omega)
  ·have e:(x.toNat:Int)=(y.toNat:Int):=e
   have e:x=y:=UInt8.toNat_inj.1 (by omega)
   subst e;exact List.Lex.cons (uoq h)
theorem ulw:∀{S:List (List UInt8)},S.Pairwise (fun a b=>leB a b=true)→S.Nodup→Asc (S.map i8)
 | [],_,_=>trivial
 |x::r,h,hn=>by
  obtain⟨h1,h2⟩:=List.pairwise_cons.1 h;obtain⟨n1,n2⟩:=List.nodup_cons.1 hn;refine⟨fun y hy=>?_,ulw h2 n2⟩
  obtain⟨z,hz,rfl⟩:=List.mem_map.1 hy;rcases ufT (i8 x) (i8 z) with q | q | q
  ·exact q
  ·have hxz:x=z:=by
    have hinj:∀a b:List UInt8,i8 a=i8 b→a=b:=fun a b e=>by
     unfold i8 at e;exact (List.map_inj_right (fun p q e=>UInt8.toNat_inj.1 (by have e:(p.toNat:Int)=(q.toNat:Int):=e;omega))).1 e
    exact hinj _ _ q
   exact absurd (by rw[hxz];exact hz) n1
  ·have:=h1 z hz
   simp only[leB,decide_eq_true_eq]at this;exact absurd (uoq q) this
theorem ujG{w:World}{b:Nat}{ks:List (List Int)}{n:Nat}{D:DataW Unit}(hown:ujz w b n D)(h3:∀l,Maps.has D l=true↔∃z∈ks,l=xT z)(hb:∀z∈ks,BytL z)(hn:ks.Nodup){ss:List (List UInt8)}(hp:ss.Perm (strKeys D)) :
  ∃ls,ls.Perm ks∧Asc ls∧ss.mergeSort leB=ls.map u8:=by
 obtain⟨es,hD,hpw,_⟩:=hown.entries uhv;obtain⟨es',hD',hko⟩:=hown.keysOf;obtain rfl:es=es':=by rw[hD]at hD';simpa using hD'
 have hnd:(ks.map u8).Nodup:=by
  refine List.pairwise_map.2 (hn.imp_of_mem (fun {p q} hp' hq' hne e=>hne (uoT (hb p hp') (hb q hq') e)))
 have hq:(ks.map u8).Perm (strKeys D):=by
  rw[hD];refine perm_strKeys hpw (fun p hp=>by obtain⟨v,hv⟩:=hko p hp;obtain⟨x,_,hx,_⟩:=Maps.keyOf_str Tryz.underlying9 hv;exact⟨x,hx⟩) hnd (fun x=>?_)
  rw[←hD,h3];constructor
  ·intro hx
   obtain⟨z,hz,rfl⟩:=List.mem_map.1 hx;exact⟨z,hz,rfl⟩
  ·rintro⟨z,hz,e⟩
   injection e with e
   exact List.mem_map.2 ⟨z,hz,e.symm⟩
 have tr:∀a b c:List UInt8,leB a b=true→leB b c=true→leB a c=true:=fun a b c h1 h2=>by simp only[leB,decide_eq_true_eq]at *;exact List.le_trans h1 h2
 have tot:∀a b:List UInt8,(leB a b||leB b a)=true:=fun a b=>by simp only[leB,Bool.or_eq_true,decide_eq_true_eq];exact List.le_total a b
 have pm:(ss.mergeSort leB).Perm (ks.map u8):=((List.mergeSort_perm ss leB).trans hp).trans hq.symm;have e1:(ks.map u8).map i8=ks:=by
  rw[List.map_map]
  conv=>rhs;rw[←List.map_id ks]
  exact List.map_congr_left (fun z hz=>ugj (hb z hz))
 have hS:∀x∈ss.mergeSort leB,u8 (i8 x)=x:=fun x hx=>by
  obtain⟨z,hz,rfl⟩:=List.mem_map.1 (pm.mem_iff.1 hx);rw[ugj (hb z hz)]
 refine⟨(ss.mergeSort leB).map i8,?_,ulw (List.pairwise_mergeSort tr tot ss) (pm.nodup_iff.2 hnd),?_⟩
 ·have:=pm.map i8
  rw[e1]at this;exact this
 ·rw[List.map_map]
  conv=>lhs;rw[←List.map_id (ss.mergeSort leB)]
  exact List.map_congr_left (fun x hx=>(hS x hx).symm)
theorem ujH{w:World}{b:Nat}{ks:List (List Int)}{g:List Int→Nat}(h:MapN w b ks g):Calls Tryz.prog 73 #[.map (some b)] w fun e w'=>e=.returned (.map (some w.heap.size))∧MapN w' w.heap.size ks g∧Keep (fun _=>False) w w':=by
 obtain⟨D,h1,h2⟩:=h.own;refine (AnyW.maps_Clone_owns Tryz.clone67 9 _ b _ D w h1).mono ?_;rintro e w' ⟨rfl,ho,_,hB⟩;exact⟨rfl,⟨⟨D,ho,h2⟩,h.byt,h.sml,h.len,h.nd⟩,(YthicmmhmmfhncaaGreat.Below.kept hB)⟩
theorem uhB{w:World}{b:Nat}{ks:List (List Int)}{g:List Int→Nat}(h:MapN w b ks g) :
  Calls Tryz.prog 74 #[.func (.func 95) #[] #[.pointer (some ⟨w.heap.size,0,none⟩)]] (w.alloc (.cells #[.map (some b)] 57)) fun e w'=>∃a c ls,e=.returned (.slice a ls.length c)∧ls.Perm ks∧Asc ls∧Keep (fun _=>False) w w'∧∀k z,ls[k]? = some z→∃g',a=some ⟨g',0,none⟩∧New w w' g'∧w'.cell? ⟨g',k,none⟩=some (.string (str z.length (lf z))):=by
 obtain⟨D,h1,h2,h3,h4⟩:=h.own;have hl:=h.len;refine (callsIn_wide.1 (Tryz.slices_Sorted_keys_68_69 b _ D _ w h1 (by rw[h2];unfold maxLen;omega) (by rw[h2];omega))).mono ?_
 rintro e w' ⟨v,ss,rfl,hp,hrow,hnil,hB⟩;obtain⟨ls,q1,q2,q3⟩:=ujG h1 h3 h.byt h.nd hp;have q3:ss.mergeSort (fun x y=>decide (x≤y))=ls.map u8:=q3
 rw[q3]at hrow;have hls:ls.length=ss.length:=by
  have:=congrArg List.length q3;rw[List.length_mergeSort,List.length_map]at this;omega
 have hz:(w.alloc (.cells #[.map (some b)] 57)).heap.size=w.heap.size+1:=by simp
 have hk:Keep (fun _=>False) w w':=(Keep.alloc _ _ _).trans (YthicmmhmmfhncaaGreat.Below.kept hB)
 obtain⟨_,⟨rfl,hn⟩|⟨g',cap,cur,rfl,hg,hc,_,_,_,ht⟩⟩:=hrow
 ·refine⟨none,0,ls,by rw[hls,hn],q1,q2,hk,fun k z hk'=>?_⟩
  have:=(List.getElem?_eq_some_iff.1 hk').1;omega
 ·refine⟨some ⟨g',0,none⟩,cap,ls,by rw[hls],q1,q2,hk,fun k z hk'=>⟨g',rfl,⟨by omega,(Array.getElem?_eq_some_iff.1 hc).1⟩,?_⟩⟩
  have hkl:=(List.getElem?_eq_some_iff.1 hk').1;have e:cur[k]? = some (.string (str z.length (lf z))):=by
   rw[←Array.getElem?_toList,←List.getElem?_take_of_lt (j:=ss.length*1) (by omega),ht,List.getElem?_map,List.getElem?_map,hk']
   show some (encStr (u8 z))=_;rw[ulv]
  simp only[World.cell?,hc];exact e
end
section
open Go.RowKit
open M (OpD uj Gr)
theorem uhY{ns ls:List (List Int)}{qs:List Rl}{q:Rl}(hq:q.car=none)(z:List Int):vN ns ls (qs++[q]) z=vN ns ls qs z:=by
 unfold vN;rw[List.find?_append];simp[hq]
theorem ugU{ns ls:List (List Int)}{qs:List Rl}{q:Rl}{z:List Int}(hz:q.name.nm≠z):vN ns ls (qs++[q]) z=vN ns ls qs z:=by
 unfold vN;rw[List.find?_append];simp[hz]
theorem udT{ns ls:List (List Int)}{qs:List Rl}{q:Rl}(hc:q.car.isSome=true)(hn:∀s∈qs,xS s q=false):vN ns ls (qs++[q]) q.name.nm=⟨q.name.nm,true,q.body.ops ns ls⟩:=by
 unfold vN;have h0:qs.find? (fun s=>s.car.isSome&&decide (s.name.nm=q.name.nm))=none:=by
  rw[List.find?_eq_none];intro s hs;have:=hn s hs;unfold xS at this;rw[hc]at this;simp at this ⊢;intro h;exact this h
 rw[List.find?_append,h0];simp[hc]
theorem uiS:∀{l:List (List Int)},Asc l→∀(i j:Nat) (z:List Int),l[i]? = some z→l[j]? = some z→i=j
 | [],_,i,j,z,hi,_=>by simp at hi
 |x::r,h,0,0,z,_,_=>rfl
 |x::r,h,0,j+1,z,hi,hj=>by
  simp at hi hj;subst hi;exact absurd (h.1 _ (List.mem_of_getElem? hj)) (jb _)
 |x::r,h,i+1,0,z,hi,hj=>by
  simp at hi hj;subst hj;exact absurd (h.1 _ (List.mem_of_getElem? hi)) (jb _)
 |x::r,h,i+1,j+1,z,hi,hj=>by
  simp at hi hj;rw[uiS h.2 i j z hi hj]
theorem ugV{ns ls:List (List Int)}{qs:List Rl}{q:Rl}(hq:q.car=none):uS ns ls (qs++[q])=uS ns ls qs:=List.map_congr_left (fun z _=>uhY hq z)
theorem uhZ{ns ls:List (List Int)}{qs:List Rl}{q:Rl}{k:Nat}(ha:Asc ls)(hk:ls[k]? = some q.name.nm)(hc:q.car.isSome=true)(hn:∀s∈qs,xS s q=false):uS ns ls (qs++[q])=(uS ns ls qs).set k ⟨q.name.nm,true,q.body.ops ns ls⟩:=by
 refine List.ext_getElem? (fun i=>?_)
 unfold uS;have hkl:k<ls.length:=(List.getElem?_eq_some_iff.1 hk).1;by_cases e:i=k
 ·subst e
  rw[List.getElem?_set_self (by rw[List.length_map];exact hkl),List.getElem?_map,hk]
  show some _=some _;rw[udT hc hn]
 ·rw[List.getElem?_set_ne (by omega),List.getElem?_map,List.getElem?_map]
  cases hi:ls[i]? with
  |none=>rfl
  |some z =>
   show some _=some _;rw[ugU (fun q=>e (uiS ha i k _ hi (by rw[hk,q])))]
theorem uaP{ns ls:List (List Int)}{qs:List Rl}{q:Rl}:uP ns ls (qs++[q])=uP ns ls qs++(if q.car.isSome then [] else [qu ns ls q]):=by
 unfold uP;rw[List.filter_append,List.map_append];cases hc:q.car<;>simp[hc]
theorem jE(ns ls:List (List Int))(qs:List Rl)(z:List Int):(vN ns ls qs z).nm=z:=by
 unfold vN;split<;>rfl
def SmNL(x:NL):Prop:=x.nm.length≤1048576∧BytL x.nm∧SmD x.bd
theorem SmNL.node{x:NL}(h:SmNL x):yL (node x):=⟨h.1,h.2.1.byt,h.2.2.small⟩
theorem uh0{rs ls:List NL}(h1:rs.length≤1048576)(h2:ls.length≤1048576)(hr:∀x∈rs,SmNL x)(hl:∀x∈ls,SmNL x):yb (gram rs ls):=by
 have at_:∀(l:List NL) (i:Nat),i<l.length→(∀x∈l,SmNL x)→yL (node (l.getD i default)):=fun l i hi h=>by
  rw[List.getD_eq_getElem?_getD,List.getElem?_eq_getElem hi];exact (h _ (List.getElem_mem hi)).node
 exact⟨h1,h2,fun i hi=>at_ rs i hi hr,fun i hi=>at_ ls i hi hl⟩
theorem umf{qs:List Rl}{q:Rl}(hq:q∈qs):wtT q.body.tk≤wtT (qs.flatMap Rl.tk):=by
 obtain⟨l1,l2,rfl⟩:=List.append_of_mem hq;rw[List.flatMap_append,List.flatMap_cons,xV,xV];have e:wtT q.tk=wtT q.car.toList+(q.name.nm.length+1+(q.eq.nm.length+1+(wtT q.body.tk+wtT [q.semi]))):=by
  unfold Rl.tk;rw[xV,wtT,wtT,xV]
 omega
theorem ufO{n:Nat}{qs:List Rl}{q:Rl}(ns ls:List (List Int))(hq:q∈qs)(hok:q.ok)(hw:wtT (qs.flatMap Rl.tk)≤8000)(hT:∀x∈q.body.tk,TokF n x)(hn:n≤4000):SmD (q.body.ops ns ls):=by
 have h1:=(uo9 ns ls q.body).2 hok.2.2.2.1;have h2:=umf hq;exact⟨by omega,upa _ _ _ 1048576 (by omega) (fun x hx=>((hT x hx).ok (by omega)).2.2)⟩
end
section
open Go.RowKit
open M (OpD uj Gr)
theorem ujy(w:World)(s:ByteArray):(convert 9 22 (.string s)).run Tryz.prog w=.ok (.slice (some ⟨w.heap.size,0,none⟩) s.size (grownCap w s.size 0 5)) (Lib.bytesWorld w 5 s) :=
 Lib.run_convert_string_bytes (P:=Tryz.prog) w 9 22 5 s Tryz.underlying9 Tryz.underlying22 Tryz.underlying5
theorem uld(w:World){z:List Int}(hz:BytL z):∃nc W',(convert 9 22 (.string (str z.length (lf z)))).run Tryz.prog w=.ok (.slice (some ⟨w.heap.size,0,none⟩) z.length nc) W'∧OwnC (fun b=>b=w.heap.size) W' (.slice (some ⟨w.heap.size,0,none⟩) z.length nc) 1 z.length (uz .u8 (lf z) z.length)∧Keep (fun _=>False) w W'∧W'.heap.size=w.heap.size+1:=by
 have hr:=ujy w (str z.length (lf z));have hs:=yC z.length (lf z);rw[hs]at hr;have hsz:=Lib.bytesWorld_size w 5 (str z.length (lf z));have hcap:z.length≤grownCap w z.length 0 5:=grownCap_ge _ _ _ _;have hbc:(Lib.bytesCells w 5 (str z.length (lf z))).size=grownCap w z.length 0 5:=by
  have hs':(str z.length (lf z)).data.size=z.length:=hs;unfold Lib.bytesCells;rw[Array.size_append,Array.size_map,Array.size_replicate,hs',hs];omega
 refine⟨_,_,hr,.inr ⟨w.heap.size,_,rfl,rfl,by rw[xy,Nat.mul_one],hcap,fun j hj=>?_,fun j hj=>⟨?_,?_⟩⟩,⟨rfl,rfl,rfl,by omega,fun k hk _=>Lib.bytesWorld_at_old w 5 _ k hk⟩,hsz⟩
 ·rw[xy]at hj
  rw[Lib.bytesWorld_cell w 5 _ j (by rw[hs];exact hj),ub9 hj]
  have e:=ugj hz;have e2:(i8 (u8 z))[j]? = z[j]?:=by rw[e]
  unfold i8 u8 at e2;rw[List.getElem?_map,List.getElem?_eq_getElem hj]at e2;have hj':j<(str z.length (lf z)).data.toList.length:=by rw[Array.length_toList];show j<(str z.length (lf z)).size;rw[hs];exact hj
  rw[List.getElem?_eq_getElem hj']at e2;simp only[Option.map_some,Option.some.injEq]at e2;rw[List.getD_eq_getElem?_getD,List.getElem?_eq_getElem hj'];simp only[Option.getD_some];rw[e2,show lf z j=z[j] by unfold lf;rw[List.getD_eq_getElem?_getD,List.getElem?_eq_getElem hj];rfl]
 ·simp only[World.cell?,Lib.bytesWorld_at_new]
  rw[Array.getElem?_eq_getElem (by omega)]
  rfl
 ·simp only[World.frozen?,Lib.bytesWorld_at_new]
  simp;omega
theorem uoo{ops:Array Oper}{rest:List Oper}{o:Oper}{a:Act}{P':Exit→Act→World→Prop}{w:World}(hgd:o.guard=none)(x:Operand)(ho:o.op=.convert 9 22 x)(z:List Int)(hx:a.eval x=.string (str z.length (lf z)))(hz:BytL z)
  (h:∀nc W',Hid (OwnC (fun b=>b=w.heap.size) W' (.slice (some ⟨w.heap.size,0,none⟩) z.length nc) 1 z.length (uz .u8 (lf z) z.length))→Hid (Keep (fun _=>False) w W')→Hid (W'.heap.size=w.heap.size+1)→wpList Tryz.prog ops P' rest (a.put o.dst (.slice (some ⟨w.heap.size,0,none⟩) z.length nc)) W'):wpList Tryz.prog ops P' (o::rest) a w:=by
 refine wpList_plain hgd fun K hK=>?_
 obtain⟨nc,W',hr,h1,h2,h3⟩:=uld w hz;unfold Oper.wp execOp;simp only[ho,Sem.run_bind,Sem.run_pure,Result.andThen_ok,hx,hr];exact hK _ _ (h nc W' h1 h2 h3)
structure BG(w0:World)(G:Nat→Nat)(w:World)(rv lv:Value)(rs ls:List GC):Prop where
 rules:OwnC (Tg G w 0) w rv 2 rs.length (rs.flatMap ncR)
 labs:OwnC (Tg G w 1) w lv 3 ls.length (ls.flatMap ncL)
 rn:∀i x,rs[i]? = some x→OwnC (Tg G w (4+4*i)) w (.slice x.na x.d.nm.length x.nc) 1 x.d.nm.length (uz .u8 (lf x.d.nm) x.d.nm.length)
 ln:∀i x,ls[i]? = some x→OwnC (Tg G w (5+4*i)) w (.slice x.na x.d.nm.length x.nc) 1 x.d.nm.length (uz .u8 (lf x.d.nm) x.d.nm.length)
 rb:∀i x,rs[i]? = some x→BodP (Tg G w (6+4*i)) w (.slice x.ba x.d.bd.length x.bc) x.d.bd
 lb:∀i x,ls[i]? = some x→BodP (Tg G w (7+4*i)) w (.slice x.ba x.d.bd.length x.bc) x.d.bd
 new:∀b,G b≠3→w0.heap.size≤b
theorem qC{G:Nat→Nat}{w w':World}(hs:∀b,b<w.heap.size→G b≠3→w'.heap[b]? = w.heap[b]?){t:Nat}(ht:t≠3):Stay (Tg G w t) w w':=fun b hb=>hs b hb.1 (by rw[hb.2];exact ht)
theorem qD{G G':Nat→Nat}{w w':World}(hz:w.heap.size≤w'.heap.size)(hG:∀b,b<w.heap.size→G b≠3→G' b=G b){t:Nat}(ht:t≠3):∀b,Tg G w t b→Tg G' w' t b:=fun b hb=>⟨by have:=hb.1;omega,(hG b hb.1 (by rw[hb.2];exact ht)).trans hb.2⟩
theorem BG.on{w0 w w':World}{G G':Nat→Nat}{rv lv:Value}{rs ls:List GC}(h:BG w0 G w rv lv rs ls)(hz:w.heap.size≤w'.heap.size)(hs:∀b,b<w.heap.size→G b≠3→w'.heap[b]? = w.heap[b]?)(hG:∀b,b<w.heap.size→G b≠3→G' b=G b)(hn:∀b,G' b≠3→w0.heap.size≤b):BG w0 G' w' rv lv rs ls :=
 ⟨uo (h.rules.on (qC hs (by omega))) (qD hz hG (by omega)),uo (h.labs.on (qC hs (by omega))) (qD hz hG (by omega)),
  fun i x hx=>uo ((h.rn i x hx).on (qC hs (by omega))) (qD hz hG (by omega)),fun i x hx=>uo ((h.ln i x hx).on (qC hs (by omega))) (qD hz hG (by omega)),
  fun i x hx=>((h.rb i x hx).on (qC hs (by omega))).wide (qD hz hG (by omega)),fun i x hx=>((h.lb i x hx).on (qC hs (by omega))).wide (qD hz hG (by omega)),hn⟩
noncomputable def tagS (G:Nat→Nat) (S:Nat→Prop) (t:Nat):Nat→Nat:=by
 classical
 exact fun b=>if S b then t else G b
theorem uaz{G:Nat→Nat}{S:Nat→Prop}{t b:Nat}(h:S b):tagS G S t b=t:=by unfold tagS;simp only[if_pos h]
theorem yo{G:Nat→Nat}{S:Nat→Prop}{t b:Nat}(h:¬S b):tagS G S t b=G b:=by unfold tagS;simp only[if_neg h]
theorem BG.tag{w0 w:World}{G:Nat→Nat}{rv lv:Value}{rs ls:List GC}(h:BG w0 G w rv lv rs ls)(S:Nat→Prop)(t:Nat)(hS:∀b,S b→G b=3∧w0.heap.size≤b):BG w0 (tagS G S t) w rv lv rs ls :=
 h.on (Nat.le_refl _) (fun _ _ _=>rfl) (fun b _ hb=>yo (fun z=>hb (hS b z).1)) (fun b hb=>by
  by_cases z:S b
  ·exact (hS b z).2
  ·rw[yo z]at hb;exact h.new b hb)
theorem BG.keep{w0 w w':World}{G:Nat→Nat}{rv lv:Value}{rs ls:List GC}{C:Nat→Prop}(h:BG w0 G w rv lv rs ls)(k:Keep C w w')(hC:∀b,C b→G b=3):BG w0 G w' rv lv rs ls :=
 h.on k.size (fun b hb hg=>k.block b hb (fun q=>hg (hC b q))) (fun _ _ _=>rfl) h.new
theorem BG.addRule{w0 W2 W4:World}{G:Nat→Nat}{rv v4 lv:Value}{rs ls:List GC}{x:GC}(h:BG w0 G W2 rv lv rs ls)(hz:w0.heap.size≤W2.heap.size)(hn:OwnC (Tg G W2 (4+4*rs.length)) W2 (.slice x.na x.d.nm.length x.nc) 1 x.d.nm.length (uz .u8 (lf x.d.nm) x.d.nm.length))(hb:BodP (Tg G W2 (6+4*rs.length)) W2 (.slice x.ba x.d.bd.length x.bc) x.d.bd)
  (own:OwnC (fun b=>Tg G W2 0 b∨W2.heap.size≤b) W4 v4 2 (rs.length+1) (rs.flatMap ncR++ncR x)) (g4:Grew (Tg G W2 0) W2 W4):BG w0 (ufM G W2 0) W4 v4 lv (rs++[x]) ls:=by
 have z4:=g4.size;have st:∀{t:Nat},t≠0→Stay (Tg G W2 t) W2 W4:=fun {t} ht b hb=>g4.block b hb.1 (fun q=>ht (hb.2.symm.trans q.2))
 have wd:∀t b,Tg G W2 t b→Tg (ufM G W2 0) W4 t b:=uiR z4 (fun b hb=>vW hb)
 refine⟨?_,uo (h.labs.on (st (by omega))) (wd 1),fun i y hy=>?_,fun i y hy=>uo ((h.ln i y hy).on (st (by omega))) (wd _),fun i y hy=>?_,fun i y hy=>((h.lb i y hy).on (st (by omega))).wide (wd _),fun b hb=>?_⟩
 ·have e1:(rs++[x]).length=rs.length+1:=by simp
  have e2:(rs++[x]).flatMap ncR=rs.flatMap ncR++ncR x:=by simp
  rw[e1,e2];rcases own with⟨_,q,_⟩|⟨g,cap,e,hq,h3,h4,h5,h6⟩
  ·omega
  refine .inr ⟨g,cap,e,?_,h3,h4,h5,h6⟩;have hg:g<W4.heap.size:=by
   have hlen:0<(rs.flatMap ncR++ncR x).length:=by rw[h3];omega
   have h:=h5 0 hlen;rw[List.getElem?_eq_getElem hlen]at h;exact ub h
  rcases hq with q | q
  ·exact wd 0 g q
  ·exact⟨hg,jD q⟩
 ·by_cases e:i<rs.length
  ·rw[List.getElem?_append_left e]at hy
   exact uo ((h.rn i y hy).on (st (by omega))) (wd _)
  ·rw[List.getElem?_append_right (by omega)]at hy
   have hi:i=rs.length:=by
    have:=(List.getElem?_eq_some_iff.1 hy).1;simp at this;omega
   subst hi;simp at hy;subst hy;exact uo (hn.on (st (by omega))) (wd _)
 ·by_cases e:i<rs.length
  ·rw[List.getElem?_append_left e]at hy
   exact ((h.rb i y hy).on (st (by omega))).wide (wd _)
  ·rw[List.getElem?_append_right (by omega)]at hy
   have hi:i=rs.length:=by
    have:=(List.getElem?_eq_some_iff.1 hy).1;simp at this;omega
   subst hi;simp at hy;subst hy;exact (hb.on (st (by omega))).wide (wd _)
 ·by_cases e:b<W2.heap.size
  ·rw[vW e]at hb;exact h.new b hb
  ·omega
theorem BG.putL{w0 w:World}{G:Nat→Nat}{rv:Value}{rs ls:List GC}{g n c i j:Nat}{x y:GC}{u:Value}(h:BG w0 G w rv (.slice (some ⟨g,0,none⟩) n c) rs ls)(hx:ls[i]? = some x)(hj:j<3)(hy:ncL y=(ncL x).set j u)(hg:Tg G w 1 g)(hn:OwnC (Tg G w (5+4*i)) w (.slice y.na y.d.nm.length y.nc) 1 y.d.nm.length (uz .u8 (lf y.d.nm) y.d.nm.length))(hb:BodP (Tg G w (7+4*i)) w (.slice y.ba y.d.bd.length y.bc) y.d.bd) :
  BG w0 G (w.setCell ⟨g,i*3+j,none⟩ u) rv (.slice (some ⟨g,0,none⟩) n c) rs (ls.set i y):=by
 have hi:=(List.getElem?_eq_some_iff.1 hx).1;have st:∀{t:Nat},t≠1→Stay (Tg G w t) w (w.setCell ⟨g,i*3+j,none⟩ u):=fun {t} ht b hb=>Below.heap_setCell _ _ _ _ (fun e=>ht (by rw[←hb.2,e];exact hg.2))
 have wd:∀t b,Tg G w t b→Tg G (w.setCell ⟨g,i*3+j,none⟩ u) t b:=uiR (by rw[ul];exact Nat.le_refl _) (fun b hb=>rfl)
 have hn0:n=ls.length:=by
  rcases h.labs with⟨e,_⟩|⟨g',cap,e,_⟩
  ·cases e
  ·injection e
 refine⟨uo (h.rules.on (st (by omega))) (wd 0),?_,fun k z hz=>uo ((h.rn k z hz).on (st (by omega))) (wd _),fun k z hz=>?_,fun k z hz=>((h.rb k z hz).on (st (by omega))).wide (wd _),fun k z hz=>?_,h.new⟩
 ·have hr:=h.labs
  rw[hn0]at hr ⊢;have:=uo (OwnC.put hr (j:=i*3+j) (by rw[yA ncL 3 yW];omega) u) (wd 1)
  rw[kI ncL 3 yW ls i j x y u hx hj hy]at this;rw[List.length_set];exact this
 ·rcases getElem?_set' hx hz with⟨rfl,rfl⟩|⟨_,q⟩
  ·exact uo (hn.on (st (by omega))) (wd _)
  ·exact uo ((h.ln k z q).on (st (by omega))) (wd _)
 ·rcases getElem?_set' hx hz with⟨rfl,rfl⟩|⟨_,q⟩
  ·exact (hb.on (st (by omega))).wide (wd _)
  ·exact ((h.lb k z q).on (st (by omega))).wide (wd _)
theorem BG.labelAt{w0 w:World}{G:Nat→Nat}{rv lv:Value}{rs ls:List GC}(h:BG w0 G w rv lv rs ls){i:Nat}{x:GC}(hx:ls[i]? = some x):∃g c,lv=.slice (some ⟨g,0,none⟩) ls.length c∧Tg G w 1 g∧ls.length≤c∧w.cell? ⟨g,i*3,none⟩=some (.slice x.na x.d.nm.length x.nc)∧w.cell? ⟨g,i*3+1,none⟩=some (.bool x.d.has)∧w.cell? ⟨g,i*3+2,none⟩=some (.slice x.ba x.d.bd.length x.bc)∧w.frozen? ⟨g,i*3,none⟩=false∧w.frozen? ⟨g,i*3+1,none⟩=false∧w.frozen? ⟨g,i*3+2,none⟩=false:=by
 have hi:=(List.getElem?_eq_some_iff.1 hx).1;obtain⟨g,c,e,hq,hc,hcell⟩:=h.labs.at_ (by omega)
 rw[yA ncL 3 yW]at hcell;have h0:=hcell (i*3) (by omega)
 have h1:=hcell (i*3+1) (by omega)
 have h2:=hcell (i*3+2) (by omega)
 have f0:=vn ncL 3 yW ls i 0 x hx (by omega)
 have f1:=vn ncL 3 yW ls i 1 x hx (by omega)
 have f2:=vn ncL 3 yW ls i 2 x hx (by omega)
 exact⟨g,c,e,hq,hc,h0.1.trans f0,h1.1.trans f1,h2.1.trans f2,h0.2,h1.2,h2.2⟩
def jq(t:Nat):Nat:=if t<2 then t else if t<4 then 3 else if t%4<2 then 2 else if t%4=2 then 4+2*(t / 4-1) else 5+2*(t / 4-1)
theorem BG.grP{w0 w:World}{G:Nat→Nat}{rv lv:Value}{rs ls:List GC}(h:BG w0 G w rv lv rs ls):GrP w0 (fun b=>jq (G b)) w rv lv rs ls:=by
 have wd:∀{t s:Nat},jq t=s→∀b,Tg G w t b→Tg (fun b=>jq (G b)) w s b:=fun {t s} e b hb=>⟨hb.1,by show jq (G b)=s;rw[hb.2,e]⟩
 have e4:∀i,jq (4+4*i)=2:=fun i=>by unfold jq;rw[if_neg (by omega),if_neg (by omega),if_pos (by omega)]
 have e5:∀i,jq (5+4*i)=2:=fun i=>by unfold jq;rw[if_neg (by omega),if_neg (by omega),if_pos (by omega)]
 have e6:∀i,jq (6+4*i)=4+2*i:=fun i=>by unfold jq;rw[if_neg (by omega),if_neg (by omega),if_neg (by omega),if_pos (by omega)];omega
 have e7:∀i,jq (7+4*i)=5+2*i:=fun i=>by unfold jq;rw[if_neg (by omega),if_neg (by omega),if_neg (by omega),if_neg (by omega)];omega
 refine⟨uo h.rules (wd rfl),uo h.labs (wd rfl),fun x hx=>?_,fun x hx=>?_,fun i x hx=>(h.rb i x hx).wide (wd (e6 i)),fun i x hx=>(h.lb i x hx).wide (wd (e7 i)),fun b hb=>h.new b (fun e=>hb (by show jq (G b)=3;rw[e];rfl))⟩
 ·obtain⟨i,hi⟩:=List.getElem?_of_mem hx
  exact jA (uo (h.rn i x hi) (wd (e4 i)))
 ·obtain⟨i,hi⟩:=List.getElem?_of_mem hx
  exact jA (uo (h.ln i x hi) (wd (e5 i)))
end
section
open Go.RowKit
open M (OpD uj Gr)
def RgN(w:World)(b r:Nat)(ks:List (List Int))(g:List Int→Nat)(todo:List Int→Prop)(cnt:Nat):Prop :=
 ∃D left,w.ranges Tryz.prog 9 (plainElem (H:=Unit) Tryz.prog 3) b r ks.length D left cnt∧(∀l,Maps.has D l=true↔∃z∈ks,l=xT z)∧(∀z∈ks,D.atKey (xT z) (.lit (.int .i64 0))=.lit (.int .i64 (g z:Nat)))∧(∀z∈ks,(left (xT z)=true↔todo z))∧∀l,left l=true→Maps.has D l=true
theorem RgN.left{w:World}{b r:Nat}{ks:List (List Int)}{g:List Int→Nat}{todo:List Int→Prop}{cnt:Nat}(h:RgN w b r ks g todo cnt):w.rangeLeft b r=cnt:=by
 obtain⟨D,left,h,_⟩:=h;exact h.left_eq
theorem RgN.lt{w:World}{b r:Nat}{ks:List (List Int)}{g:List Int→Nat}{todo:List Int→Prop}{cnt:Nat}(h:RgN w b r ks g todo cnt):b<w.heap.size∧r<w.heap.size:=by
 obtain⟨D,left,h,_⟩:=h;exact⟨h.owns.lt,h.lt⟩
theorem RgN.on{w w':World}{b r:Nat}{ks:List (List Int)}{g:List Int→Nat}{todo:List Int→Prop}{cnt:Nat}(h:RgN w b r ks g todo cnt)(hb:w'.heap[b]? = w.heap[b]?)(hr:w'.heap[r]? = w.heap[r]?):RgN w' b r ks g todo cnt:=by
 obtain⟨D,left,h,h2⟩:=h;refine⟨D,left,?_,h2⟩;obtain⟨es,clock,since,seen,c0,h1,F,hs,hD,h3,rest⟩:=h;exact⟨es,clock,since,seen,c0,hb.trans h1,F,hs,hD,hr.trans h3,rest⟩
section
variable (w:World) {ops:Array Oper} {rest:List Oper} {o:Oper} {a:Act} {Q:Exit→Act→World→Prop}
theorem uoR(hg:o.guard=none)(m:Operand)(hop:o.op=Op.range 57 m)(b:Nat)(ks:List (List Int))(g:List Int→Nat)(hm:a.eval m=.map (some b))(h:MapN w b ks g){r:Nat}(hr:r=w.heap.size)
  (hK:∀W',Hid (RgN W' b r ks g (fun _=>True) ks.length)→Hid (w.grownBy W' none)→Hid (W'.heap.size=w.heap.size+1)→wpList Tryz.prog ops Q rest (a.put o.dst (.pointer (some ⟨r,0,none⟩))) W'):wpList Tryz.prog ops Q (o::rest) a w:=by
 subst hr;obtain⟨D,h1,h2,h3,h4⟩:=h.own;refine wpList_range_own w hg m 57 hop 9 3 uhv Tryz.underlying57 _ b _ D hm h1 (fun W' a1 a2 a3=>hK W' ?_ a2 a3)
 rw[h2]at a1;exact⟨D,_,a1,h3,h4,fun z hz=>⟨fun _=>trivial,fun _=>(h3 _).2 ⟨z,hz,rfl⟩⟩,fun l q=>q⟩
theorem upS(hg:o.guard=none)(it:Operand)(hop:o.op=Op.next it false)(b r:Nat)(ks:List (List Int))(g:List Int→Nat)(todo:List Int→Prop)(cnt:Nat)(hit:a.eval it=.pointer (some ⟨r,0,none⟩))(h:RgN w b r ks g todo cnt)(hb:∀z∈ks,BytL z){F:List Int→World→Prop}(hF:∀z W',z∈ks→w.grownBy W' (some r)→F z W')
  (hDone:Hid (∀z∈ks,¬todo z)→wpList Tryz.prog ops Q rest (a.put o.dst (.tuple #[.bool false])) w)
  (hMore:∀(z:List Int) (W':World) (cnt':Nat),Hid (z∈ks)→Hid (todo z)→Hid (RgN W' b r ks g (fun y=>todo y∧y≠z) cnt')→Hid (cnt'<cnt)→Hid (w.grownBy W' (some r))→Hid (W'.heap.size=w.heap.size)→(Instr.entry (.pointer (some ⟨r,0,none⟩))).run Tryz.prog W'=.ok (.tuple #[.string (str z.length (lf z)),.int .i64 (g z:Nat)]) W'→F z W' →
   wpList Tryz.prog ops Q rest (a.put o.dst (.tuple #[.bool true,.string (str z.length (lf z)),.int .i64 (g z:Nat)])) W'):wpList Tryz.prog ops Q (o::rest) a w:=by
 obtain⟨D,left,h1,h3,h4,h5,h6⟩:=h;refine wpList_next_ranges w hg it hop 9 uhv _ encStr (Value.int .i64) (fun key kl hkey=>by obtain⟨x,hx,_⟩:=Maps.keyOf_str Tryz.underlying9 hkey;exact⟨x,hx⟩) (fun v y hv=>by obtain⟨c,rfl,_⟩:=plainElem_int_inv Tryz.underlying3 hv;exact⟨c,rfl⟩) b r _ D left cnt hit h1 (fun _ hl=>hDone (fun z hz q=>?_)) (fun x c kl y W' cnt' hkey hlk hv hat hrg hlt hgr hsz hen=>?_)
 ·have:=(h5 z hz).2 q
  rw[hl]at this;cases this
 ·obtain⟨x',ex,rfl,_⟩:=Maps.keyOf_str Tryz.underlying9 hkey
  obtain rfl:x=x':=encStr_inj ex;obtain⟨z,hz,ez⟩:=(h3 _).1 (h6 _ hlk);have ez':x=u8 z:=Lit.string.inj ez;subst ez';obtain⟨c',ec,ey,_⟩:=plainElem_int_inv Tryz.underlying3 hv;cases ec
  have hc:c=(g z:Nat):=by
   have e1:=hat (.lit (.int .i64 0));rw[←uc4,h4 z hz,ey]at e1;have e2:(DataW.lit (.int .i64 ((g z:Nat):Int)):DataW Unit)=.lit (.int .i64 c):=e1;have e3:=DataW.lit.inj e2;exact (Lit.int.inj e3).2.symm
  subst hc;rw[ulv]at hen ⊢;refine hMore z W' cnt' hz ((h5 z hz).1 (by rw[uc4];exact hlk)) ⟨D,_,hrg,h3,h4,fun y hy=>?_,fun l q=>h6 l (by simp only[Bool.and_eq_true]at q;exact q.1)⟩ hlt hgr hsz hen (hF z W' hz hgr)
  by_cases e:y=z
  ·subst e
   simp only[uc4,ne_eq,not_true,and_false,iff_false,Bool.and_eq_true,Bool.not_eq_true',not_and];intro _;simp[Lit.sameKey]
  ·have hne:(xT y).sameKey (.string (u8 z))=false:=Maps.sameKey_ne (fun q=>e (udp (hb y hy) (hb z hz) (by rw[uc4 z];exact q)))
   rw[hne];simp only[Bool.not_false,Bool.and_true];exact (h5 y hy).trans ⟨fun q=>⟨q,e⟩,fun q=>q.1⟩
end
def gc0:GC:=⟨⟨[],false,[]⟩,none,0,none,0⟩
theorem ujC(w:World)(n:Nat)(t:TypeId):OwnC (fun b=>b=w.heap.size) (w.alloc (.cells (madeCells #[.slice none 0 0,.bool false,.slice none 0 0] (n*3)) t)) (.slice (some ⟨w.heap.size,0,none⟩) n n) 3 n ((List.replicate n gc0).flatMap ncL):=by
 have hb:=World.alloc_heap_new w (.cells (madeCells #[.slice none 0 0,.bool false,.slice none 0 0] (n*3)) t);have hl:((List.replicate n gc0).flatMap ncL).length=n*3:=by rw[yA ncL 3 yW,List.length_replicate]
 have hc:∀j,j<n*3→(madeCells #[.slice none 0 0,.bool false,.slice none 0 0] (n*3))[j]? = ((List.replicate n gc0).flatMap ncL)[j]?:=fun j hj=>by
  have h1:(List.replicate n gc0)[j / 3]? = some gc0:=by rw[List.getElem?_replicate,if_pos (by omega)]
  have h2:=vn ncL 3 yW (List.replicate n gc0) (j / 3) (j%3) gc0 h1 (by omega)
  rw[show j / 3*3+j%3=j by omega]at h2
  rw[h2];unfold madeCells;rw[Array.getElem?_map,Array.getElem?_range];rw[if_pos hj];have h3:j%3=0∨j%3=1∨j%3=2:=by omega
  rcases h3 with e | e | e
  ·simp[e,ncL,gc0]
  ·simp[e,ncL,gc0]
  ·simp[e,ncL,gc0]
 refine .inr ⟨w.heap.size,n,rfl,rfl,hl,Nat.le_refl _,fun j hj=>?_,fun j hj=>⟨?_,?_⟩⟩
 ·simp only[World.cell?,hb]
  exact hc j (by omega)
 ·simp only[World.cell?,hb]
  rw[Array.getElem?_eq_getElem (by rw[size_madeCells];omega)]
  rfl
 ·simp only[World.frozen?,hb]
  simp
end
end Go.Proofs.YthicmmhmmfhncaaGreat
