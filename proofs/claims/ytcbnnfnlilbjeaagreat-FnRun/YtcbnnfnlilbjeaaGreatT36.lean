import Derived.Test.YtcbnnfnlilbjeaaGreatT34
import Derived.Test.YtcbnnfnlilbjeaaGreatT35
import Derived.Deep.MidRow
set_option linter.unusedVariables false
set_option linter.unusedSimpArgs false
namespace Go.Proofs.YtcbnnfnlilbjeaaGreat
section
open Go.RowKit
open M (OpD NodeD Gr InsD)
structure NoteIs(b:Nat)(s:MSt)(ia:Option Addr)(il ic:Nat)(most:Int)(ka:Option Addr)(kn kc:Nat)(la:Option Addr)(ln lc:Nat)(w:World)(e:Ending)(w':World):Prop where
 val:∃v,e=.returned v
 c:MacC w' b s ia il ic most ka kn kc la ln lc
 kept:Kept (fun x=>x=b) w w'
theorem infoArr:(Tryz.prog.info? 66).map (fun i=>(i.zero,i.size))=some (some (.agg (madeCells #[.bool false] 256)),256):=by kernel_rfl
theorem made_get{v:Value}{n i:Nat}(h:i<n):(madeCells #[v] n)[i]? = some v:=by
 simp[madeCells,h,Nat.mod_one]
theorem kept_below{P:Nat→Prop}{w Y W:World}(h:Below w.heap.size w Y)(k:Kept P Y W):Kept P w W :=
 ⟨k.os.trans h.os,k.tape.trans h.tape,k.output.trans h.output,Nat.le_trans h.size k.size,fun x hx hn=>(k.block x (Nat.lt_of_lt_of_le hx h.size) hn).trans (h.block x hx)⟩
theorem kept_trans{P:Nat→Prop}{w Y W:World}(h:Kept P w Y)(k:Kept P Y W):Kept P w W :=
 ⟨k.os.trans h.os,k.tape.trans h.tape,k.output.trans h.output,Nat.le_trans h.size k.size,fun x hx hn=>(k.block x (Nat.lt_of_lt_of_le hx h.size) hn).trans (h.block x hx hn)⟩
theorem MacC.add{w w':World}{b:Nat}{s:MSt}{ia:Option Addr}{il ic:Nat}{most:Int}{ka:Option Addr}{kn kc:Nat}{la:Option Addr}{ln lc:Nat}{N:Nat→Bool}{e:Ending}(h:MacC w b s ia il ic most ka kn kc la ln lc)(k:AddIs b 7 N w e w'):MacC w' b { s with exp:=N } ia il ic most ka kn kc la ln lc :=
 ⟨(k.rest 0 (by omega)).trans h.c0,(k.rest 1 (by omega)).trans h.c1,(k.rest 2 (by omega)).trans h.c2,(k.rest 3 (by omega)).trans h.c3,(k.rest 4 (by omega)).trans h.c4,(k.rest 5 (by omega)).trans h.c5,(k.rest 6 (by omega)).trans h.c6,k.mem,(k.rest 263 (by omega)).trans h.c8,(k.rest 264 (by omega)).trans h.c9,(k.rest 265 (by omega)).trans h.c10,fun j=>(k.frz j).trans (h.fz j)⟩
theorem MacC.clear{w:World}{b:Nat}{s:MSt}{ia:Option Addr}{il ic:Nat}{most:Int}{ka:Option Addr}{kn kc:Nat}{la:Option Addr}{ln lc:Nat}(h:MacC w b s ia il ic most ka kn kc la ln lc)(vs:List Value)(hl:vs.length=256)(hv:∀i,i<256→vs[i]? = some (.bool false)):MacC (w.setCells b 7 vs) b { s with exp:=fun _=>false } ia il ic most ka kn kc la ln lc:=by
 have out:∀j,(j<7∨263≤j)→(w.setCells b 7 vs).cell? ⟨b,j,none⟩=w.cell? ⟨b,j,none⟩:=fun j hj=>World.cell?_setCells_out b vs 7 w ⟨b,j,none⟩ (fun _ _=>by rw[hl];show j<7∨7+256≤j;omega)
 refine⟨(out 0 (by omega)).trans h.c0,(out 1 (by omega)).trans h.c1,(out 2 (by omega)).trans h.c2,(out 3 (by omega)).trans h.c3,(out 4 (by omega)).trans h.c4,(out 5 (by omega)).trans h.c5,(out 6 (by omega)).trans h.c6,fun i hi=>?_,(out 263 (by omega)).trans h.c8,(out 264 (by omega)).trans h.c9,(out 265 (by omega)).trans h.c10,fun j=>(World.frozen?_setCells _ _ _ _ _).trans (h.fz j)⟩
 rw[World.cell?_setCells_in b vs 7 w (fun k hk=>by rw[h.ex k (by omega)];rfl) i (by omega)]
 have:=hv i hi;rw[List.getElem?_eq_getElem (by omega)]at this
 exact this
theorem kept_setCells{w W:World}{b:Nat}(h:Kept (fun x=>x=b) w W)(j:Nat)(vs:List Value):Kept (fun x=>x=b) w (W.setCells b j vs):=by
 obtain⟨o1,o2,o3⟩:=setCells_os b vs j W;exact⟨o1.trans h.os,o2.trans h.tape,o3.trans h.output,by rw[setCells_size];exact h.size,fun x hx hn=>(setCells_block b vs j W x hn).trans (h.block x hx hn)⟩
set_option maxRecDepth 100000 in
set_option maxHeartbeats 8000000 in
theorem note_any(Q:Nat→Prop)(b:Nat)(s:MSt)(ia:Option Addr)(il ic:Nat)(most:Int)(ka:Option Addr)(kn kc:Nat)(la:Option Addr)(ln lc:Nat)(a:Option Addr)(n c:Nat)(S:Nat→Int)(w:World)(hc:MacC w b s ia il ic most ka kn kc la ln lc)(hS:Ints Q .i64 w a n S)(hq:¬Q b)(hlt:∀x,Q x→x<w.heap.size)(hn:n≤1048576) :
  Calls Tryz.prog 104 #[.pointer (some ⟨b,0,none⟩),.slice a n c] w (NoteIs b (s.note n S) ia il ic most ka kn kc la ln lc w):=by
 have HC:Hid (MacC w b s ia il ic most ka kn kc la ln lc):=hc;have HS:Hid (Ints Q .i64 w a n S):=hS;have HQ:Hid (¬Q b):=hq;have HLT:Hid (∀x,Q x→x<w.heap.size):=hlt;have lb:b<w.heap.size:=lt_of_cell hc.c0;have c3:=hc.c3;have c6:=hc.c6;have hz:=(zero_of_info (P:=Tryz.prog) infoArr).1;clear hc hS hq hlt;by_cases hgt:(s.far:Int)<(s.pos:Int)
 ·have HE:Hid (s.note n S={ s with far:=s.pos,exp:=fun i=>hasN n S (i:Int) }):=by show _=_;unfold MSt.note;rw[if_pos (by omega)]
  have f6:=HC.out.fz 6;go_enter Tryz.func104,Tryz.ntmps104;go_wp2;go_quiet (fail);have hY:Below w.heap.size w (w.drewN nq):=below_drewN (Below.refl _ _) nq;generalize w.drewN nq=Y at *;have HY:Hid (Below w.heap.size w Y):=hY;have HCY:Hid (MacC Y b s ia il ic most ka kn kc la ln lc):=HC.out.on (hY.block b lb);have lbY:b<Y.heap.size:=Nat.lt_of_lt_of_le lb hY.size;clear hY c3 c6 f6;have c3:=HCY.out.c3;have c6:=HCY.out.c6;have f6:=HCY.out.fz 6;have hsz:(madeCells #[Value.bool false] 256).size=256:=size_madeCells _ _;have hcl:=run_storeCells_cells (P:=Tryz.prog) b 7 (madeCells #[Value.bool false] 256).toList 0 (Y.setCell ⟨b,6,none⟩ (.int .i64 (s.pos:Int))) (fun j hj=>by
    rw[Array.length_toList,hsz]at hj;rw[Nat.add_zero,cell_set_other (by omega),HCY.out.ex j hj];rfl) (fun j hj=>(World.frozen?_setCell _ _ _ _).trans (HCY.out.fz _)) (fun v hv=>by
    obtain⟨i,hi,e⟩:=List.mem_iff_getElem.1 hv;have h1:=made_get (v:=.bool false) (n:=256) (i:=i) (by rw[Array.length_toList,hsz]at hi;exact hi)
    rw[←Array.getElem?_toList,List.getElem?_eq_getElem hi,e]at h1;injection h1 with h1
    rw[h1];rfl)
  rw[Nat.add_zero]at hcl;go_wp2;generalize hZ:(Y.setCell ⟨b,6,none⟩ (.int .i64 (s.pos:Int))).setCells b 7 (madeCells #[Value.bool false] 256).toList=Z;have hCZ:MacC Z b { s with far:=s.pos,exp:=fun _=>false } ia il ic most ka kn kc la ln lc:=by
   rw[←hZ];exact (HCY.out.set6 s.pos).clear _ (by rw[Array.length_toList,hsz]) (fun i hi=>by rw[Array.getElem?_toList];exact made_get hi)
  have hKZ:Kept (fun x=>x=b) w Z:=by
   rw[←hZ];exact kept_below HY.out (kept_setCells (kept_set (kept_refl _ Y) 6 _) 7 _)
  clear hZ hcl hsz c3 c6 f6 hz HCY;have lbZ:b<Z.heap.size:=lt_of_cell hCZ.c0;have c3:Z.cell? ⟨b,3,none⟩=some (.int .i64 (s.pos:Int)):=hCZ.c3;have c6:Z.cell? ⟨b,6,none⟩=some (.int .i64 (s.pos:Int)):=hCZ.c6;have heq:((s.pos:Int)==(s.pos:Int))=true:=by simp
  go_quiet (fail);have HCZ:Hid (MacC (Z.drewN nq) b { s with far:=s.pos,exp:=fun _=>false } ia il ic most ka kn kc la ln lc):=hCZ.on rfl
  have HKZ:Hid (Kept (fun x=>x=b) w (Z.drewN nq)):=kept_drewN hKZ _
  generalize Z.drewN nq=Z2 at *;clear hCZ hKZ c3 c6;go_wp2_with fail;have hS2:Ints Q .i64 Z2 a n S:=HS.out.on (fun x hx=>HKZ.out.block x (by have:=HLT.out x hx;exact this) (fun e=>HQ.out (e▸hx)))
  refine (addBytes_any Q b 7 _ a n c S _ hn hS2 HCZ.out.ex HCZ.out.fz).mono ?_;rintro e W hAd;obtain⟨v,rfl⟩:=hAd.val;have HAD:Hid (AddIs b 7 _ Z2 _ W):=hAd;clear hAd;go_wp2;refine bodyPost_ret (results_none rfl _ _ _) rfl ?_;rw[HE.out];refine⟨⟨_,rfl⟩,?_,kept_trans HKZ.out HAD.out.kept⟩;have h:=HCZ.out.add HAD.out;simp only[Bool.or_false]at h;exact h
 ·have hgt':¬(s.far:Int)<(s.pos:Int):=hgt
  by_cases heq:s.pos=s.far
  ·have HE:Hid (s.note n S={ s with exp:=fun i=>hasN n S (i:Int)||s.exp i }):=by show _=_;unfold MSt.note;rw[if_neg (by omega),if_pos heq]
   have heq':((s.pos:Int)==(s.far:Int))=true:=by simp[heq]
   clear heq;go_enter Tryz.func104,Tryz.ntmps104;go_wp2;go_quiet (fail);have hY:Below w.heap.size w (w.drewN nq):=below_drewN (Below.refl _ _) nq;generalize w.drewN nq=Z at *;have hCZ:MacC Z b s ia il ic most ka kn kc la ln lc:=HC.out.on (hY.block b lb);have hKZ:Kept (fun x=>x=b) w Z:=Kept.of hY
   have lbZ:b<Z.heap.size:=Nat.lt_of_lt_of_le lb hY.size;clear hY c3 c6;have c3:=hCZ.c3;have c6:=hCZ.c6;go_wp2;go_quiet (fail);have HCZ:Hid (MacC (Z.drewN nq) b s ia il ic most ka kn kc la ln lc):=hCZ.on rfl;have HKZ:Hid (Kept (fun x=>x=b) w (Z.drewN nq)):=kept_drewN hKZ _
   generalize Z.drewN nq=Z2 at *;clear hCZ hKZ c3 c6;go_wp2_with fail;have hS2:Ints Q .i64 Z2 a n S:=HS.out.on (fun x hx=>HKZ.out.block x (by have:=HLT.out x hx;exact this) (fun e=>HQ.out (e▸hx)))
   refine (addBytes_any Q b 7 _ a n c S _ hn hS2 HCZ.out.ex HCZ.out.fz).mono ?_;rintro e W hAd;obtain⟨v,rfl⟩:=hAd.val;have HAD:Hid (AddIs b 7 _ Z2 _ W):=hAd;clear hAd;go_wp2;refine bodyPost_ret (results_none rfl _ _ _) rfl ?_;rw[HE.out];exact⟨⟨_,rfl⟩,HCZ.out.add HAD.out,kept_trans HKZ.out HAD.out.kept⟩
  ·have HE:Hid (s.note n S=s):=by show _=_;unfold MSt.note;rw[if_neg (by omega),if_neg heq]
   have heq':((s.pos:Int)==(s.far:Int))=false:=by simp;omega
   clear heq;go_enter Tryz.func104,Tryz.ntmps104;go_wp2;go_quiet (fail);have hY:Below w.heap.size w (w.drewN nq):=below_drewN (Below.refl _ _) nq;generalize w.drewN nq=Z at *;have hCZ:MacC Z b s ia il ic most ka kn kc la ln lc:=HC.out.on (hY.block b lb);have hKZ:Kept (fun x=>x=b) w Z:=Kept.of hY
   have lbZ:b<Z.heap.size:=Nat.lt_of_lt_of_le lb hY.size;clear hY c3 c6;have c3:=hCZ.c3;have c6:=hCZ.c6;go_wp2;go_quiet (fail);have HCZ:Hid (MacC (Z.drewN nq) b s ia il ic most ka kn kc la ln lc):=hCZ.on rfl;have HKZ:Hid (Kept (fun x=>x=b) w (Z.drewN nq)):=kept_drewN hKZ _
   generalize Z.drewN nq=Z2 at *;clear hCZ hKZ c3 c6;go_wp2;refine bodyPost_ret (results_none rfl _ _ _) rfl ?_;rw[HE.out];exact⟨⟨_,rfl⟩,HCZ.out,HKZ.out⟩
end
end Go.Proofs.YtcbnnfnlilbjeaaGreat
