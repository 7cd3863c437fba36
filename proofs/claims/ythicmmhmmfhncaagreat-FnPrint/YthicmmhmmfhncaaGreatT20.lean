import Derived.Test.YthicmmhmmfhncaaGreatT18
import Derived.Test.YthicmmhmmfhncaaGreatT19
set_option linter.unusedVariables false
set_option linter.unusedSimpArgs false
namespace Go.Proofs.YthicmmhmmfhncaaGreat
section
open Go.RowKit
open M (OpD uj Gr)
def flt(code at_:Int):List PanicEntry:=[{ v:=.iface 47 (.agg #[.int .i64 code,.int .i64 at_]),recovered:=false }]
structure Rv where
  ta:Option Addr
  tc:Nat
  v2:Value
  v3:Value
  v4:Value
  v5:Value
  v6:Value
  v7:Value
  v8:Value
abbrev rbc(t:Tx)(r:Rv)(i:Int):Array Value:=#[.slice r.ta t.n r.tc,.int .i64 i,r.v2,r.v3,r.v4,r.v5,r.v6,r.v7,r.v8]
def RB(rb:Nat)(t:Tx)(r:Rv)(i:Nat)(w:World):Prop:=w.heap[rb]? = some (.cells (rbc t r (i:Nat)) 55)
theorem RB.set{rb:Nat}{t:Tx}{r:Rv}{i:Nat}{w:World}(h:RB rb t r i w){x:Int}(j:Nat)(hx:x=(j:Nat)):RB rb t r j (w.setCell ⟨rb,1,none⟩ (.int .i64 x)):=by
  subst hx;exact xp (.int .i64 (j:Nat)) h
theorem RB.lt{rb:Nat}{t:Tx}{r:Rv}{i:Nat}{w:World}(h:RB rb t r i w):rb<w.heap.size:=(Array.getElem?_eq_some_iff.1 h).1
theorem RB.keep{rb:Nat}{t:Tx}{r:Rv}{i:Nat}{w w':World}(h:RB rb t r i w)(k:Keep (fun _=>False) w w'):RB rb t r i w':=(k.block rb h.lt (fun q=>q)).trans h
def TxQ(rb:Nat)(w:World)(a:Option Addr)(t:Tx):Prop:=Ints (fun b=>b<w.heap.size∧b≠rb) .u8 w a t.n t.T
theorem TxQ.keep{rb:Nat}{w w':World}{a:Option Addr}{t:Tx}(h:TxQ rb w a t)(k:Keep (fun b=>b=rb) w w'):TxQ rb w' a t:=by
  rcases h with h | ⟨b,off,e,hq,h⟩
  · exact .inl h
  · exact .inr ⟨b,off,e,⟨Nat.lt_of_lt_of_le hq.1 k.size,hq.2⟩,fun i hi=>(k.cell (p:=⟨b,off+i,none⟩) hq.1 hq.2).trans (h i hi)⟩
theorem TxQ.at{rb:Nat}{w:World}{a:Option Addr}{t:Tx}(h:TxQ rb w a t){i:Nat}(hi:i<t.n):∃b off,a=some ⟨b,off,none⟩∧(b<w.heap.size∧b≠rb)∧∀j,j<t.n→w.cell? ⟨b,off+j,none⟩=some (.int .u8 (t.T j)):=by
  rcases h with h | h
  · omega
  · exact h
def ScIs(res:Option (Int×Nat))(fr:Int)(rb:Nat)(t:Tx)(r:Rv)(w:World)(e:Ending)(w':World):Prop :=
  Keep (fun b=>b=rb) w w'∧((∃c j,res=some (c,j)∧e=.returned (.int .u8 c)∧RB rb t r j w')∨(res=none∧e=.panicked (flt 5 fr)))
theorem yh{rb:Nat}{w w':World}(k:Keep (fun _=>False) w w'):Keep (fun b=>b=rb) w w':=k.mono (fun b q=>q.elim)
theorem yO{rb:Nat}{w W:World}(k:Keep (fun b=>b=rb) w W)(o:Nat)(v:Value):Keep (fun b=>b=rb) w (W.setCell ⟨rb,o,none⟩ v):=k.trans (Keep.setCell (C:=fun b=>b=rb) _ _ _ rfl)
theorem qZ{rb:Nat}{w W:World}(k:Keep (fun b=>b=rb) w W)(m:Nat):Keep (fun b=>b=rb) w (W.drewN m):=k.trans (yh (uE W m))
def ucR(t:Tx)(i:Nat):Option (Int×Nat):=if i<t.n then some (t.T i,i+1) else none
set_option maxHeartbeats 1000000 in
set_option maxRecDepth 100000 in
theorem uaf(rb:Nat)(t:Tx)(r:Rv)(i:Nat)(fr:Int)(w:World)(hB:RB rb t r i w)(hT:TxQ rb w r.ta t)(hi:i≤t.n) :
    Calls Tryz.prog 100 #[.pointer (some ⟨rb,0,none⟩),.int .i64 fr] w (ScIs (ucR t i) fr rb t r w):=by
  have hn:=t.le;have HB:Hid (RB rb t r i w):=hB;have HT:Hid (TxQ rb w r.ta t):=hT;clear hB hT;have c0:w.cell? ⟨rb,0,none⟩=some (.slice r.ta t.n r.tc):=ud HB.out rfl;have c1:w.cell? ⟨rb,1,none⟩=some (.int .i64 (i:Nat)):=ud HB.out rfl;go_enter Tryz.func100,Tryz.ntmps100;by_cases hlt:i<t.n
  · have hne:((i:Int)==(t.n:Int))=false:=by simp;omega
    obtain⟨b,off,e,hq,hcell⟩:=HT.out.at hlt;have cT:=hcell i hlt;rw[e]at c0;have hbne:¬b=rb:=hq.2;have hbne':¬rb=b:=fun q=>hq.2 q.symm
    have f1:w.frozen? ⟨rb,1,none⟩=false:=ut HB.out;have hlt':(i:Int)<t.n:=by omega
    have hsub:((i:Int)+1)-1=(i:Int):=by omega
    have hwr:IntKind.i64.wrap ((i:Int)+1-1)=(i:Int):=by rw[hsub];exact ume (by omega) (by omega)
    have HFI:Hid (∀n m,ScIs (ucR t i) fr rb t r w (.returned (.int .u8 (t.T i))) (((w.drewN n).setCell ⟨rb,1,none⟩ (.int .i64 ((i:Int)+1))).drewN m)):=fun n m =>
      ⟨qZ (yO (yh (uE w n)) _ _) m,.inl ⟨_,_,if_pos hlt,rfl,((HB.out.keep (uE w n)).set (i+1) (by simp)).keep (uE _ m)⟩⟩
    clear hcell hq e;go_upto_region 1 with fail
    go_quiet (fail);go_upto_region 4 with fail
    have HV:Hid (∀V,V=(w.drewN nq).setCell ⟨rb,1,none⟩ (.int .i64 ((i:Int)+1))→RB rb t r (i+1) V∧TxQ rb V r.ta t):=fun V hV=>by
      subst hV;exact⟨(HB.out.keep (uE w nq)).set (i+1) (by simp),HT.out.keep (yO (yh (uE w nq)) _ _)⟩
    have HFI2:Hid (∀V,V=(w.drewN nq).setCell ⟨rb,1,none⟩ (.int .i64 ((i:Int)+1))→∀m,ScIs (ucR t i) fr rb t r w (.returned (.int .u8 (t.T i))) (V.drewN m)):=fun V hV m=>by subst hV;exact HFI.out nq m
    obtain⟨V,hV⟩:∃V,V=(w.drewN nq).setCell ⟨rb,1,none⟩ (.int .i64 ((i:Int)+1)):=⟨_,rfl⟩;obtain⟨hBV,hTV⟩:=HV.out V hV;have HF3:Hid (∀m,ScIs (ucR t i) fr rb t r w (.returned (.int .u8 (t.T i))) (V.drewN m)):=HFI2.out V hV;rw[←hV];obtain⟨b',off',e',_,hcell'⟩:=hTV.at hlt;have dT:=hcell' i hlt;have d0:V.cell? ⟨rb,0,none⟩=some (.slice r.ta t.n r.tc):=ud hBV rfl;have d1:V.cell? ⟨rb,1,none⟩=some (.int .i64 ((i+1:Nat):Int)):=ud hBV rfl;have hsub':((i+1:Nat):Int)-1=(i:Int):=by omega
    have hwr':IntKind.i64.wrap (((i+1:Nat):Int)-1)=(i:Int):=by rw[hsub'];exact ume (by omega) (by omega)
    rw[e']at d0;clear hV hBV hTV hcell' e' HV HFI HFI2 c0 c1 cT f1 HB HT;go_quiet (fail);go_wp2;go_ret;exact HF3.out _
  · obtain rfl:i=t.n:=by omega
    go_upto_region 1 with fail
    go_quiet (fail);go_wp2;exact⟨rfl,yh (uE w _),.inr ⟨by unfold ucR;rw[if_neg hlt],rfl⟩⟩
def ujF(d:Bool)(j:Nat)(rb:Nat)(t:Tx)(r:Rv)(w:World)(e:Ending)(w':World):Prop :=
  Keep (fun b=>b=rb) w w'∧e=.returned (.bool d)∧RB rb t r j w'
set_option maxHeartbeats 1000000 in
set_option maxRecDepth 100000 in
theorem uaA(rb:Nat)(t:Tx)(r:Rv)(i:Nat)(c:Int)(w:World)(hB:RB rb t r i w)(hT:TxQ rb w r.ta t)(hi:i≤t.n) :
    Calls Tryz.prog 86 #[.pointer (some ⟨rb,0,none⟩),.int .u8 c] w (ujF (decide (i<t.n∧t.T i=c)) (if i<t.n∧t.T i=c then i+1 else i) rb t r w):=by
  have hn:=t.le;have HB:Hid (RB rb t r i w):=hB;have HT:Hid (TxQ rb w r.ta t):=hT;clear hB hT;have c0:w.cell? ⟨rb,0,none⟩=some (.slice r.ta t.n r.tc):=ud HB.out rfl;have c1:w.cell? ⟨rb,1,none⟩=some (.int .i64 (i:Nat)):=ud HB.out rfl;have f1:w.frozen? ⟨rb,1,none⟩=false:=ut HB.out;have NO:Hid (¬(i<t.n∧t.T i=c)→∀n,ujF (decide (i<t.n∧t.T i=c)) (if i<t.n∧t.T i=c then i+1 else i) rb t r w (.returned (.bool false)) (w.drewN n)):=fun h n =>
    ⟨yh (uE w n),by rw[decide_eq_false h],by rw[if_neg h];exact HB.out.keep (uE w n)⟩
  have YES:Hid ((i<t.n∧t.T i=c)→∀n,ujF (decide (i<t.n∧t.T i=c)) (if i<t.n∧t.T i=c then i+1 else i) rb t r w (.returned (.bool true)) ((w.drewN n).setCell ⟨rb,1,none⟩ (.int .i64 ((i:Int)+1)))):=fun h n =>
    ⟨yO (yh (uE w n)) _ _,by rw[decide_eq_true h],by rw[if_pos h];exact (HB.out.keep (uE w n)).set (i+1) (by simp)⟩
  generalize decide (i<t.n∧t.T i=c)=dd at *;generalize (if i<t.n∧t.T i=c then i+1 else i)=jj at *
  go_enter Tryz.func86,Tryz.ntmps86;by_cases hlt:i<t.n
  · have hne:((i:Int)==(t.n:Int))=false:=by simp;omega
    obtain⟨b,off,e,hq,hcell⟩:=HT.out.at hlt;have cT:=hcell i hlt;have hlt':(i:Int)<t.n:=by omega
    rw[e]at c0;clear hcell hq e;by_cases hc:t.T i=c
    · have Y:=Hid.out YES ⟨hlt,hc⟩
      have Y:Hid (∀n,ujF dd jj rb t r w (.returned (.bool true)) ((w.drewN n).setCell ⟨rb,1,none⟩ (.int .i64 ((i:Int)+1)))):=Y;rw[hc]at cT;clear hc NO YES;go_upto_region 1 with fail
      go_quiet (fail);go_wp2;go_ret;exact Y.out _
    · have Y:Hid (∀n,ujF dd jj rb t r w (.returned (.bool false)) (w.drewN n)):=NO.out (fun q=>hc q.2)
      have hc':(t.T i != c)=true:=by simpa using hc
      clear NO YES hc;go_upto_region 1 with fail
      go_quiet (fail);go_wp2;go_ret;exact Y.out _
  · have Y:Hid (∀n,ujF dd jj rb t r w (.returned (.bool false)) (w.drewN n)):=NO.out (fun q=>hlt q.1)
    obtain rfl:i=t.n:=by omega
    clear NO YES;go_upto_region 1 with fail
    go_quiet (fail);go_wp2;go_ret;exact Y.out _
theorem ugf{x:Int}(h:0≤x)(h':x≤255):IntKind.u8.wrap x=x:=by
  rw[IntKind.wrap_u8];omega
def jP(t:Tx)(i:Nat):Option (Int×Nat):=if i<t.n then (match ucc (t.T i) with | some x=>some ((x:Int),i+1) | none=>none) else none
theorem ScIs.fail{res:Option (Int×Nat)}{fr:Int}{rb:Nat}{t:Tx}{r:Rv}{w w':World}(k:Keep (fun b=>b=rb) w w')(h:res=none):ScIs res fr rb t r w (.panicked (flt 5 fr)) w':=⟨k,.inr ⟨h,rfl⟩⟩
theorem ScIs.good{res:Option (Int×Nat)}{fr:Int}{rb:Nat}{t:Tx}{r:Rv}{w w':World}{c:Int}{j:Nat}(k:Keep (fun b=>b=rb) w w')(h:res=some (c,j))(hB:RB rb t r j w'):ScIs res fr rb t r w (.returned (.int .u8 c)) w':=⟨k,.inl ⟨c,j,h,rfl,hB⟩⟩
theorem uc2(c:Int):ucc c=if 48≤c∧c≤57 then some (c-48).toNat else if 97≤c∧c≤102 then some (c-87).toNat else if 65≤c∧c≤70 then some (c-55).toNat else none:=rfl
set_option maxHeartbeats 2000000 in
set_option maxRecDepth 100000 in
theorem uaB(rb:Nat)(t:Tx)(r:Rv)(i:Nat)(fr:Int)(w:World)(hB:RB rb t r i w)(hT:TxQ rb w r.ta t)(hi:i≤t.n) :
    Calls Tryz.prog 109 #[.pointer (some ⟨rb,0,none⟩),.int .i64 fr] w (ScIs (jP t i) fr rb t r w):=by
  go_enter Tryz.func109,Tryz.ntmps109;go_wp2_with fail;refine (uaf rb t r i fr w hB hT hi).mono ?_;clear hB hT;rintro e W ⟨hk,⟨c,j,hres,rfl,hB'⟩|⟨hres,rfl⟩⟩
  · have hlt:i<t.n:=by
      unfold ucR at hres;split at hres
      · assumption
      · cases hres
    unfold ucR at hres;rw[if_pos hlt]at hres;injection hres with hres
    injection hres with e1 e2
    subst e2;have HK:Hid (Keep (fun b=>b=rb) w W):=hk
    have HB:Hid (RB rb t r (i+1) W):=hB';have hb:=t.byt i;rw[e1]at hb;have HE:Hid (jP t i=match ucc c with | some x=>some ((x:Int),i+1) | none=>none):=by
      show _=_;unfold jP;rw[if_pos hlt,e1]
    clear hk hB' e1;obtain⟨hb0,hb1⟩:=hb;by_cases a1:48≤c<;>by_cases a2:c≤57<;>by_cases a3:97≤c<;>by_cases a4:c≤102<;>by_cases a5:65≤c<;>by_cases a6:c≤70
    all_goals first
      |omega
      | (have w1:IntKind.u8.wrap (c-48)=c-48:=ugf (by omega) (by omega)
         go_wp2;go_ret;exact ScIs.good HK.out (by rw[HE.out,uc2,if_pos ⟨a1,a2⟩];simp only;congr 2;omega) HB.out)
      | (have w1:IntKind.u8.wrap (c-97)=c-97:=ugf (by omega) (by omega)
         have w2:IntKind.u8.wrap (c-97+10)=c-97+10:=ugf (by omega) (by omega)
         go_wp2;go_ret;exact ScIs.good HK.out (by rw[HE.out,uc2,if_neg (by omega),if_pos ⟨a3,a4⟩];simp only;congr 2;omega) HB.out)
      | (have w1:IntKind.u8.wrap (c-65)=c-65:=ugf (by omega) (by omega)
         have w2:IntKind.u8.wrap (c-65+10)=c-65+10:=ugf (by omega) (by omega)
         go_wp2;go_ret;exact ScIs.good HK.out (by rw[HE.out,uc2,if_neg (by omega),if_neg (by omega),if_pos ⟨a5,a6⟩];simp only;congr 2;omega) HB.out)
      | (go_wp2
         exact⟨rfl,ScIs.fail HK.out (by rw[HE.out,uc2,if_neg (by omega),if_neg (by omega),if_neg (by omega)])⟩)
  · have hlt:¬i<t.n:=fun q=>by unfold ucR at hres;rw[if_pos q]at hres;cases hres
    go_wp2;exact⟨rfl,ScIs.fail hk (by unfold jP;rw[if_neg hlt])⟩
end
section
open Go.RowKit
open M (OpD uj Gr)
theorem upK:∀h l:Fin 16,bits BinOp.or IntKind.u8 ((h.val:Int)*16) (l.val:Int)=(h.val:Int)*16+l.val:=by decide +kernel
theorem uqj{h l:Int}(h0:0≤h)(h1:h≤15)(l0:0≤l)(l1:l≤15):bits BinOp.or IntKind.u8 (h*16) l=h*16+l:=by
 have:=upK ⟨h.toNat,by omega⟩ ⟨l.toNat,by omega⟩
 simp only[show ((h.toNat:Nat):Int)=h by omega,show ((l.toNat:Nat):Int)=l by omega]at this
 exact this
def jp(t:Tx)(i:Nat):Option (Int×Nat) :=
 if i<t.n then
  (if t.T i=110 then some (10,i+1) else if t.T i=116 then some (9,i+1) else if t.T i=114 then some (13,i+1) else if ucd (t.T i) then some (t.T i,i+1)
  else if t.T i=120 then (match jP t (i+1) with | none=>none | some (h,j)=>match jP t j with | none=>none | some (l,j')=>some (h*16+l,j'))
  else none)
 else none
theorem ueE{t:Tx}{i:Nat}{c:Int}{j:Nat}(h:ucR t i=some (c,j)):i<t.n∧t.T i=c∧j=i+1:=by
 unfold ucR at h;split at h
 ·injection h with h
  injection h with h1 h2
  exact⟨by assumption,h1,h2.symm⟩
 ·cases h
theorem ueF{t:Tx}{i:Nat}(h:ucR t i=none):¬i<t.n:=fun q=>by unfold ucR at h;rw[if_pos q]at h;cases h
theorem qB{t:Tx}{i:Nat}{c:Int}{j:Nat}(h:jP t i=some (c,j)):i<t.n∧j=i+1∧0≤c∧c≤15∧qf (t.T i)=c:=by
 unfold jP at h;split at h
 ·rename_i hl
  cases hx:ucc (t.T i) with
  |none=>rw[hx]at h;cases h
  |some x =>
   rw[hx]at h;injection h with h
   injection h with h1 h2
   have:=(uiU hx).1;exact⟨hl,h2.symm,by omega,by omega,by rw[qJ hx];exact h1⟩
 ·cases h
theorem ueG{t:Tx}{i:Nat}(h:jP t i=none):t.n≤i∨qf (t.T i) = -1:=by
 unfold jP at h;split at h
 ·cases hx:ucc (t.T i) with
  |none=>exact .inr (ue6 hx)
  |some x=>rw[hx]at h;cases h
 ·exact .inl (by omega)
set_option maxHeartbeats 4000000 in
set_option maxRecDepth 100000 in
theorem uhu(rb:Nat)(t:Tx)(r:Rv)(i:Nat)(fr:Int)(w:World)(hB:RB rb t r i w)(hT:TxQ rb w r.ta t)(hi:i≤t.n) :
  Calls Tryz.prog 101 #[.pointer (some ⟨rb,0,none⟩),.int .i64 fr] w (ScIs (jp t i) fr rb t r w):=by
 have HT:Hid (TxQ rb w r.ta t):=hT;go_enter Tryz.func101,Tryz.ntmps101;go_wp2_with fail;refine (uaf rb t r i fr w hB hT hi).mono ?_;clear hB hT;rintro e W ⟨hk,⟨c,j,hres,rfl,hB'⟩|⟨hres,rfl⟩⟩
 ·obtain⟨hlt,hc,rfl⟩:=ueE hres
  have HK:Hid (Keep (fun b=>b=rb) w W):=hk
  have HB:Hid (RB rb t r (i+1) W):=hB';have HE:Hid (jp t i=(if c=110 then some (10,i+1) else if c=116 then some (9,i+1) else if c=114 then some (13,i+1) else if ucd c then some (c,i+1)
  else if c=120 then (match jP t (i+1) with | none=>none | some (h,j)=>match jP t j with | none=>none | some (l,j')=>some (h*16+l,j'))
  else none)):=by
   show _=_;unfold jp;rw[if_pos hlt,hc]
  clear hk hB' hres hc;rcases (show c=110∨c=116∨c=114∨c=92∨c=34∨c=91∨c=93∨c=45∨c=94∨c=120∨(¬c=110∧¬c=116∧¬c=114∧¬c=92∧¬c=34∧¬c=91∧¬c=93∧¬c=45∧¬c=94∧¬c=120) by omega) with rfl | rfl | rfl | rfl | rfl | rfl | rfl | rfl | rfl | rfl | ⟨h1,h2,h3,h4,h5,h6,h7,h8,h9,h10⟩
  case inr.inr.inr.inr.inr.inr.inr.inr.inr.inl =>
   have HE2:Hid (jp t i=(match jP t (i+1) with | none=>none | some (h,j)=>match jP t j with | none=>none | some (l,j')=>some (h*16+l,j'))):=HE.out
   clear HE;go_wp2_with fail;refine (uaB rb t r (i+1) fr W HB.out (HT.out.keep HK.out) hlt).mono ?_;rintro e W2 ⟨hk2,⟨h,j,hres,rfl,hB2⟩|⟨hres,rfl⟩⟩
   ·obtain⟨l1,rfl,l3,l4,_⟩:=qB hres
    have HK2:Hid (Keep (fun b=>b=rb) w W2):=HK.out.trans hk2
    have HB2:Hid (RB rb t r (i+1+1) W2):=hB2;have HR:Hid (jP t (i+1)=some (h,i+1+1)):=hres;clear hk2 hB2 hres;go_wp2_with fail;refine (uaB rb t r (i+1+1) fr W2 HB2.out (HT.out.keep HK2.out) l1).mono ?_;rintro e W3 ⟨hk3,⟨l,j,hres,rfl,hB3⟩|⟨hres,rfl⟩⟩
    ·obtain⟨m1,rfl,m3,m4,_⟩:=qB hres
     have HFI:Hid (ScIs (jp t i) fr rb t r w (.returned (.int .u8 (h*16+l))) W3):=ScIs.good (HK2.out.trans hk3) (by rw[HE2.out,HR.out];simp only;rw[hres]) hB3
     clear hk3 hB3 hres;go_wp2;go_ret;rw[←uqj l3 l4 m3 m4]at HFI;exact HFI.out
    ·go_wp2
     exact⟨rfl,ScIs.fail (HK2.out.trans hk3) (by rw[HE2.out,HR.out];simp only;rw[hres])⟩
   ·go_wp2
    exact⟨rfl,ScIs.fail (HK.out.trans hk2) (by rw[HE2.out,hres])⟩
  case inr.inr.inr.inr.inr.inr.inr.inr.inr.inr =>
   have e1:(c==110)=false:=by simpa using h1
   have e2:(c==116)=false:=by simpa using h2
   have e3:(c==114)=false:=by simpa using h3
   have e4:(c==92)=false:=by simpa using h4
   have e5:(c==34)=false:=by simpa using h5
   have e6:(c==91)=false:=by simpa using h6
   have e7:(c==93)=false:=by simpa using h7
   have e8:(c==45)=false:=by simpa using h8
   have e9:(c==94)=false:=by simpa using h9
   have e10:(c==120)=false:=by simpa using h10
   have HN:Hid (jp t i=none):=by
    show _=_;rw[HE.out];simp[ucd,h1,h2,h3,h4,h5,h6,h7,h8,h9,h10]
   clear h1 h2 h3 h4 h5 h6 h7 h8 h9 h10 HE;go_wp2;exact⟨rfl,ScIs.fail HK.out HN.out⟩
  all_goals (
   go_wp2;go_ret;exact ScIs.good HK.out HE.out HB.out)
 ·have hlt:=ueF hres
  go_wp2;exact⟨rfl,ScIs.fail hk (by unfold jp;rw[if_neg hlt])⟩
def chM(t:Tx)(i:Nat)(cls:Bool):Option (Int×Nat):=if (chr t i cls).2=0 then none else some ((chr t i cls).1,i+(chr t i cls).2)
theorem uk5(t:Tx){i:Nat}(hlt:i<t.n)(h92:t.T i=92):(if (esc t i).2=0 then none else some ((esc t i).1,i+(esc t i).2))=jp t (i+1):=by
 have key:∀(x:Int×Nat) (y:Option (Int×Nat)),esc t i=x→jp t (i+1)=y→(if x.2=0 then none else some (x.1,i+x.2))=y→(if (esc t i).2=0 then none else some ((esc t i).1,i+(esc t i).2))=jp t (i+1):=fun x y h1 h2 h3=>by rw[h1,h2];exact h3
 by_cases h1:i+1<t.n
 ·have hn:¬(t.n≤i+1∨t.T i≠92):=fun q=>q.elim (fun q=>by omega) (fun q=>q h92)
  by_cases c1:t.T (i+1)=110
  ·exact key (10,2) (some (10,i+2)) (by unfold esc;rw[if_neg hn,if_pos c1]) (by unfold jp;rw[if_pos h1,if_pos c1]) rfl
  by_cases c2:t.T (i+1)=116
  ·exact key (9,2) (some (9,i+2)) (by unfold esc;rw[if_neg hn,if_neg c1,if_pos c2]) (by unfold jp;rw[if_pos h1,if_neg c1,if_pos c2]) rfl
  by_cases c3:t.T (i+1)=114
  ·exact key (13,2) (some (13,i+2)) (by unfold esc;rw[if_neg hn,if_neg c1,if_neg c2,if_pos c3]) (by unfold jp;rw[if_pos h1,if_neg c1,if_neg c2,if_pos c3]) rfl
  by_cases c4:ucd (t.T (i+1))
  ·exact key (t.T (i+1),2) (some (t.T (i+1),i+2)) (by unfold esc;rw[if_neg hn,if_neg c1,if_neg c2,if_neg c3,if_pos c4]) (by unfold jp;rw[if_pos h1,if_neg c1,if_neg c2,if_neg c3,if_pos c4]) rfl
  by_cases c5:t.T (i+1)=120
  ·have hM:jp t (i+1)=(match jP t (i+1+1) with | none=>none | some (h,j)=>match jP t j with | none=>none | some (l,j')=>some (h*16+l,j')):=by
    unfold jp;rw[if_pos h1,if_neg c1,if_neg c2,if_neg c3,if_neg c4,if_pos c5]
   have hE:∀p,¬p→(t.T (i+1)=120∧i+3<t.n∧0≤qf (t.T (i+2))∧0≤qf (t.T (i+3))→p)→esc t i=(0,0):=fun p hp himp=>by
    unfold esc;rw[if_neg hn,if_neg c1,if_neg c2,if_neg c3,if_neg c4,if_neg (fun q=>hp (himp q))]
   cases ha:jP t (i+1+1) with
   |none =>
    have h0:=ueG ha;refine key (0,0) none (hE False (fun q=>q) (fun q=>?_)) (by rw[hM,ha]) rfl
    obtain⟨_,q1,q2,q3⟩:=q;rcases h0 with q | q
    ·omega
    ·rw[show i+1+1=i+2 from rfl]at q;omega
   |some p =>
    obtain⟨h,j⟩:=p;obtain⟨a1,rfl,a3,a4,a5⟩:=qB ha;cases hb:jP t (i+1+1+1) with
    |none =>
     have h0:=ueG hb;refine key (0,0) none (hE False (fun q=>q) (fun q=>?_)) (by rw[hM,ha];simp only;rw[hb]) rfl
     obtain⟨_,q1,q2,q3⟩:=q;rcases h0 with q | q
     ·omega
     ·rw[show i+1+1+1=i+3 from rfl]at q;omega
    |some p =>
     obtain⟨l,j⟩:=p;obtain⟨b1,rfl,b3,b4,b5⟩:=qB hb;have e1:qf (t.T (i+2))=h:=a5;have e2:qf (t.T (i+3))=l:=b5;refine key (h*16+l,4) (some (h*16+l,i+4)) ?_ (by rw[hM,ha];simp only;rw[hb]) rfl
     unfold esc;rw[if_neg hn,if_neg c1,if_neg c2,if_neg c3,if_neg c4,if_pos ⟨c5,by omega,by omega,by omega⟩,e1,e2]
  ·exact key (0,0) none (by unfold esc;rw[if_neg hn,if_neg c1,if_neg c2,if_neg c3,if_neg c4,if_neg (fun q=>c5 q.1)]) (by unfold jp;rw[if_pos h1,if_neg c1,if_neg c2,if_neg c3,if_neg c4,if_neg c5]) rfl
 ·exact key (0,0) none (by unfold esc;rw[if_pos (.inl (by omega))]) (by unfold jp;rw[if_neg h1]) rfl
theorem upL:∀c:Fin 256,Lib.indexByte [10] (c.val.toUInt8)=if c.val=10 then 0 else -1:=by decide +kernel
theorem upM:∀c:Fin 256,(0≤Lib.indexByte [93,45,94,10] (c.val.toUInt8))=(c.val=93∨c.val=45∨c.val=94∨c.val=10):=by
 intro c;rw[eq_iff_iff]
 revert c
 decide +kernel
def bsC(cls:Bool):ByteArray:=if cls then ⟨#[93,45,94,10]⟩ else ⟨#[10]⟩
def uf9(cls:Bool)(c:Int):Prop:=c=10∨(cls=true∧(c=93∨c=45∨c=94))
theorem um8(cls:Bool){c:Int}(h0:0≤c)(h1:c≤255):0≤Lib.indexByte (bsC cls).data.toList c.toNat.toUInt8↔uf9 cls c:=by
 cases cls with
 |false =>
  show 0≤Lib.indexByte [10] c.toNat.toUInt8↔_;have h:=upL ⟨c.toNat,by omega⟩
  simp only at h;rw[h];unfold uf9;by_cases e:c.toNat=10
  ·rw[if_pos e]
   exact⟨fun _=>.inl (by omega),fun _=>by omega⟩
  ·rw[if_neg e]
   exact⟨fun q=>by omega,fun q=>by rcases q with q | q;omega;exact absurd q.1 (by decide)⟩
 |true =>
  show 0≤Lib.indexByte [93,45,94,10] c.toNat.toUInt8↔_;have h:=upM ⟨c.toNat,by omega⟩
  simp only at h;rw[h];unfold uf9;simp only[true_and];omega
theorem uk6(cls:Bool)(c:Int)(w:World):Calls Tryz.prog 102 #[.string (bsC cls),.int .u8 c] w fun e w'=>e=.returned (.int .i64 (Lib.indexByte (bsC cls).data.toList c.toNat.toUInt8))∧w'=w :=
 Any.strings_IndexByte Tryz.lays92 (bsC cls) c w
theorem um9(t:Tx){i:Nat}(cls:Bool)(hlt:i<t.n)(h92:t.T i=92):chM t i cls=jp t (i+1):=by
 rw[←uk5 t hlt h92];have e:chr t i cls=esc t i:=by
  unfold chr;rw[if_neg (by rintro (q | q)<;>omega),if_pos h92]
 unfold chM;rw[e]
theorem una(t:Tx){i:Nat}{cls:Bool}(hlt:i<t.n)(h92:t.T i≠92)(hb:uf9 cls (t.T i)):chM t i cls=none:=by
 have e:chr t i cls=(0,0):=by
  unfold chr;by_cases h10:t.T i=10
  ·rw[if_pos (.inr h10)]
  ·have hq:=hb.resolve_left h10
   rw[if_neg (by rintro (q | q);omega;exact h10 q),if_neg h92,if_pos hq]
 unfold chM;rw[e];rfl
theorem unb(t:Tx){i:Nat}{cls:Bool}(hlt:i<t.n)(h92:t.T i≠92)(hb:¬uf9 cls (t.T i))(h34:cls=false→t.T i≠34):chM t i cls=some (t.T i,i+1):=by
 have e:chr t i cls=(t.T i,1):=by
  unfold chr;unfold uf9 at hb;rw[if_neg (by rintro (q | q);omega;exact hb (.inl q)),if_neg h92,if_neg (fun q=>hb (.inr q)),if_neg (fun q=>h34 q.1 q.2)]
 unfold chM;rw[e];rfl
theorem unc(t:Tx){i:Nat}(cls:Bool)(h:¬i<t.n):chM t i cls=none:=by
 have e:chr t i cls=(0,0):=by
  unfold chr;rw[if_pos (.inl (by omega))]
 unfold chM;rw[e];rfl
set_option maxHeartbeats 2000000 in
set_option maxRecDepth 100000 in
theorem jl(cls:Bool)(rb:Nat)(t:Tx)(r:Rv)(i:Nat)(fr:Int)(w:World)(hB:RB rb t r i w)(hT:TxQ rb w r.ta t)(hi:i≤t.n)(h34:cls=false→i<t.n→t.T i≠34) :
  Calls Tryz.prog 87 #[.pointer (some ⟨rb,0,none⟩),.int .i64 fr,.string (bsC cls)] w (ScIs (chM t i cls) fr rb t r w):=by
 have HT:Hid (TxQ rb w r.ta t):=hT;have HX:Hid (∀(c:Int) (w:World),Calls Tryz.prog 102 #[.string (bsC cls),.int .u8 c] w fun e w'=>e=.returned (.int .i64 (Lib.indexByte (bsC cls).data.toList c.toNat.toUInt8))∧w'=w):=uk6 cls
 have HXI:Hid (∀c:Int,0≤c→c≤255→(0≤Lib.indexByte (bsC cls).data.toList c.toNat.toUInt8↔uf9 cls c)):=fun c h0 h1=>um8 cls h0 h1
 generalize bsC cls=bs at *;go_enter Tryz.func87,Tryz.ntmps87;go_wp2_with fail;refine (uaf rb t r i fr w hB hT hi).mono ?_;clear hB hT;rintro e W ⟨hk,⟨c,j,hres,rfl,hB'⟩|⟨hres,rfl⟩⟩
 ·obtain⟨hlt,hc,rfl⟩:=ueE hres
  have hb:=t.byt i;rw[hc]at hb;have HK:Hid (Keep (fun b=>b=rb) w W):=hk
  have HB:Hid (RB rb t r (i+1) W):=hB';have HC:Hid (t.T i=c):=hc;clear hk hB' hres hc;by_cases h92:c=92
  ·subst h92
   have HE:Hid (chM t i cls=jp t (i+1)):=um9 t cls hlt HC.out;go_wp2_with fail;refine (uhu rb t r (i+1) fr W HB.out (HT.out.keep HK.out) hlt).mono ?_;rintro e W2 ⟨hk2,⟨d,j,hres,rfl,hB2⟩|⟨hres,rfl⟩⟩
   ·have HFI:Hid (ScIs (chM t i cls) fr rb t r w (.returned (.int .u8 d)) W2):=ScIs.good (HK.out.trans hk2) (by rw[HE.out];exact hres) hB2
    clear hk2 hB2 hres;go_wp2;go_ret;exact HFI.out
   ·go_wp2
    exact⟨rfl,ScIs.fail (HK.out.trans hk2) (by rw[HE.out];exact hres)⟩
  ·have h92':(c==92)=false:=by simpa using h92
   have HI:=HXI.out c hb.1 hb.2;have HXC:=HX.out c W;generalize Lib.indexByte bs.data.toList c.toNat.toUInt8=k at *;have HXC:Hid (Calls Tryz.prog 102 #[.string bs,.int .u8 c] W fun e w'=>e=.returned (.int .i64 k)∧w'=W):=HXC
   by_cases hbar:uf9 cls c
   ·have HN:Hid (chM t i cls=none):=una t hlt (by rw[HC.out];exact h92) (by rw[HC.out];exact hbar)
    have hk0:(0:Int)≤k:=HI.2 hbar;have hk1:decide (k ≥ 0)=true:=decide_eq_true hk0;clear h92 HI hbar;go_wp2_with fail;refine HXC.out.mono ?_;rintro e W2 ⟨rfl,hw⟩;subst W2;go_wp2;exact⟨rfl,ScIs.fail HK.out HN.out⟩
   ·have HN:Hid (chM t i cls=some (c,i+1)):=by
     have:=unb t (cls:=cls) hlt (by rw[HC.out];exact h92) (by rw[HC.out];exact hbar) (fun q=>h34 q hlt)
     rw[HC.out]at this;exact this
    have hk0:¬(0:Int)≤k:=fun q=>hbar (HI.1 q)
    have hk1:decide (k ≥ 0)=false:=decide_eq_false hk0;clear h92 HI hbar;go_wp2_with fail;refine HXC.out.mono ?_;rintro e W2 ⟨rfl,hw⟩;subst W2;go_wp2;go_ret;exact ScIs.good HK.out HN.out HB.out
 ·have hlt:=ueF hres
  go_wp2;exact⟨rfl,ScIs.fail hk (unc t cls hlt)⟩
end
end Go.Proofs.YthicmmhmmfhncaaGreat
