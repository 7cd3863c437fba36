import Derived.Test.YthicmmhmmfhncaaGreatT22
import Derived.Test.YthicmmhmmfhncaaGreatT18
import Derived.WalkMore
set_option linter.unusedVariables false
set_option linter.unusedSimpArgs false
namespace Go.Proofs.YthicmmhmmfhncaaGreat
section
open Go.RowKit
open M (OpD uj Gr)
def yy(r:Rv)(k:Tok)(sa:Option Addr)(sc:Nat):Rv:={ r with v2:=.int .u8 (kk k.kind),v3:=.int .i64 (k.at_:Nat),v4:=.string (str k.nm.length (lf k.nm)),v5:=.slice sa k.set.length sc }
def uM(t:Tx)(i:Nat):Tok×Nat:=if vh t i<t.n then vM t (vh t i) else (⟨0,t.n,[],[]⟩,t.n)
def ko(t:Tx)(i:Nat)(rb:Nat)(r:Rv)(w:World)(e:Ending)(w':World):Prop :=
 Keep (fun b=>b=rb) w w'∧((∃v sa sc,(vh t i<t.n→(uM t i).1.kind≠0)∧e=.returned v∧RB rb t (yy r (uM t i).1 sa sc) (uM t i).2 w'∧OwnC (New w w') w' (.slice sa (uM t i).1.set.length sc) 1 (uM t i).1.set.length (uz .i64 (lf (uM t i).1.set) (uM t i).1.set.length))∨(vh t i<t.n∧(uM t i).1.kind=0∧e=.panicked (flt 5 (vh t i:Nat))))
def umX(rb:Nat)(t:Tx)(r:Rv)(i:Nat)(w:World)(v:Value)(wr:World):Prop :=
 ∃j:Nat,j≤t.n∧vh t j=vh t i∧RB rb t r j wr∧Keep (fun b=>b=rb) w wr
def upI(rb:Nat)(t:Tx)(r:Rv)(i j:Nat)(w:World)(v:Value)(wr:World):Prop :=
 ∃k:Nat,j≤k∧k≤t.n∧xU t k=xU t j∧RB rb t r k wr∧Keep (fun b=>b=rb) w wr
theorem RB.next{rb:Nat}{t:Tx}{r:Rv}{i:Nat}{w:World}(h:RB rb t r i w)(v2 v3 v4 v5:Value):RB rb t { r with v2:=v2,v3:=v3,v4:=v4,v5:=v5 } i ((((w.setCell ⟨rb,2,none⟩ v2).setCell ⟨rb,3,none⟩ v3).setCell ⟨rb,4,none⟩ v4).setCell ⟨rb,5,none⟩ v5) :=
 xp v5 (xp v4 (xp v3 (xp v2 h)))
theorem xN{P:Nat→Prop}{X:World}{v:Value}{n:Nat}{cs:List Value}{b o:Nat}{u:Value}(h:OwnC P X v 1 n cs)(hb:¬P b):OwnC P (X.setCell ⟨b,o,none⟩ u) v 1 n cs:=h.on (fun x hx=>Below.heap_setCell _ _ _ _ (fun e=>hb (by have e':x=b:=e;rw[←e'];exact hx)))
theorem ufn{rb:Nat}{t:Tx}{r:Rv}{i p j:Nat}{w W:World}{k:Tok}{sa:Option Addr}{sc:Nat}{v:Value}{v2 v3 v4:Value}(hp:vh t i=p)(hlt:p<t.n)(hk:vM t p=(k,j))(h0:k.kind≠0)(hK:Keep (fun b=>b=rb) w W)(hrb:rb<w.heap.size)(hB:RB rb t r j W)(hO:OwnC (New w W) W (.slice sa k.set.length sc) 1 k.set.length (uz .i64 (lf k.set) k.set.length))
  (e2:v2=.int .u8 (kk k.kind)) (e3:v3=.int .i64 (k.at_:Nat)) (e4:v4=.string (str k.nm.length (lf k.nm))) :
  ko t i rb r w (.returned v) ((((W.setCell ⟨rb,2,none⟩ v2).setCell ⟨rb,3,none⟩ v3).setCell ⟨rb,4,none⟩ v4).setCell ⟨rb,5,none⟩ (.slice sa k.set.length sc)):=by
 subst e2 e3 e4;have ha:uM t i=(k,j):=by unfold uM;rw[hp,if_pos hlt];exact hk
 refine⟨yO (yO (yO (yO hK _ _) _ _) _ _) _ _,.inl ⟨v,sa,sc,?_⟩⟩;rw[ha];refine⟨fun _=>h0,rfl,hB.next _ _ _ _,?_⟩
 have hn:¬New w W rb:=fun q=>by have:=q.1;omega
 exact uo (xN (xN (xN (xN hO hn) hn) hn) hn) (fun b hb=>⟨hb.1,by simp only[ul];exact hb.2⟩)
theorem umY(t:Tx){p:Nat}(h:t.T p∈kX):vM t p=(⟨t.T p,p,[],[]⟩,p+1)∧t.T p≠0∧kk (t.T p)=t.T p:=by
 have h0:=h;simp only[kX,List.mem_cons,List.not_mem_nil,or_false]at h;have hL:¬M.Letter (t.T p):=fun q=>by unfold M.Letter at q;omega
 refine⟨?_,by omega,by unfold kk;rw[if_neg (by omega)]⟩
 unfold vM;rw[if_neg hL,if_neg (by omega),if_neg (by omega),if_pos h0]
theorem umZ(t:Tx){p:Nat}(h:t.T p=34):vM t p=(match qY t p with | none=>((⟨0,p,[],[]⟩:Tok),p) | some (z,j)=>(⟨34,p,z,[]⟩,j)):=by
 unfold vM;rw[if_neg (by rw[h];unfold M.Letter;omega),if_pos h]
 cases qY t p<;>rfl
theorem um0(t:Tx){p:Nat}(h:t.T p=91):vM t p=(match qX t p with | none=>((⟨0,p,[],[]⟩:Tok),p) | some (z,j)=>(⟨91,p,[],z⟩,j)):=by
 unfold vM;rw[if_neg (by rw[h];unfold M.Letter;omega),if_neg (by omega),if_pos h]
 cases qX t p<;>rfl
theorem ukT(t:Tx){p:Nat}(h:M.Letter (t.T p)):vM t p=(⟨110,p,(vj t (t.n-p) p []).1,[]⟩,(vj t (t.n-p) p []).2):=by
 unfold vM;rw[if_pos h]
theorem um1(t:Tx){p:Nat}(h:¬M.Letter (t.T p))(h1:t.T p≠34)(h2:t.T p≠91)(h3:¬t.T p∈kX):vM t p=(⟨0,p,[],[]⟩,p+1):=by
 unfold vM;rw[if_neg h,if_neg h1,if_neg h2,if_neg h3]
theorem ufo{rb:Nat}{t:Tx}{r:Rv}{i p:Nat}{w W:World}{k:Tok}{j:Nat}(hp:vh t i=p)(hlt:p<t.n)(hk:vM t p=(k,j))(h0:k.kind=0)(hK:Keep (fun b=>b=rb) w W):ko t i rb r w (.panicked (flt 5 (p:Nat))) W:=by
 have ha:uM t i=(k,j):=by unfold uM;rw[hp,if_pos hlt];exact hk
 exact⟨hK,.inr ⟨by rw[hp];exact hlt,by rw[ha];exact h0,by rw[hp]⟩⟩
theorem um2{rb:Nat}{t:Tx}{r:Rv}{i p:Nat}{w W:World}{v:Value}(hp:vh t i=p)(hlt:p<t.n)(h:t.T p∈kX)(hK:Keep (fun b=>b=rb) w W)(hB:RB rb t r p W) :
  ko t i rb r w (.returned v) (((((W.setCell ⟨rb,2,none⟩ (.int .u8 (t.T p))).setCell ⟨rb,3,none⟩ (.int .i64 (p:Nat))).setCell ⟨rb,4,none⟩ (.string ⟨#[]⟩)).setCell ⟨rb,5,none⟩ (.slice none 0 0)).setCell ⟨rb,1,none⟩ (.int .i64 ((p:Int)+1))):=by
 obtain⟨h1,h2,h3⟩:=umY t h;have ha:uM t i=(⟨t.T p,p,[],[]⟩,p+1):=by unfold uM;rw[hp,if_pos hlt];exact h1
 refine⟨yO (yO (yO (yO (yO hK _ _) _ _) _ _) _ _) _ _,.inl ⟨v,none,0,?_⟩⟩;rw[ha];refine⟨fun _=>h2,rfl,?_,.inl ⟨rfl,rfl,rfl⟩⟩
 have hh:=(hB.next (.int .u8 (t.T p)) (.int .i64 (p:Nat)) (.string ⟨#[]⟩) (.slice none 0 0)).set (p+1) (x:=(p:Int)+1) (by simp)
 have e:yy r ⟨t.T p,p,[],[]⟩ none 0={ r with v2:=.int .u8 (t.T p),v3:=.int .i64 (p:Nat),v4:=.string ⟨#[]⟩,v5:=.slice none 0 0 }:=by
  unfold yy;simp only[h3];rfl
 rw[e];exact hh
theorem um3{rb:Nat}{t:Tx}{r:Rv}{i:Nat}{w W:World}{v:Value}(hp:vh t i=t.n)(hK:Keep (fun b=>b=rb) w W)(hB:RB rb t r t.n W) :
  ko t i rb r w (.returned v) ((((W.setCell ⟨rb,2,none⟩ (.int .u8 0)).setCell ⟨rb,3,none⟩ (.int .i64 (t.n:Nat))).setCell ⟨rb,4,none⟩ (.string ⟨#[]⟩)).setCell ⟨rb,5,none⟩ (.slice none 0 0)):=by
 have ha:uM t i=(⟨0,t.n,[],[]⟩,t.n):=by unfold uM;rw[hp,if_neg (Nat.lt_irrefl _)]
 refine⟨yO (yO (yO (yO hK _ _) _ _) _ _) _ _,.inl ⟨v,none,0,?_⟩⟩;rw[ha];refine⟨fun q=>absurd q (by rw[hp];exact Nat.lt_irrefl _),rfl,hB.next (.int .u8 0) (.int .i64 (t.n:Nat)) (.string ⟨#[]⟩) (.slice none 0 0),.inl ⟨rfl,rfl,rfl⟩⟩
set_option maxHeartbeats 8000000 in
set_option maxRecDepth 100000 in
theorem kY(rb:Nat)(t:Tx)(r:Rv)(i:Nat)(w:World)(hB:RB rb t r i w)(hT:TxQ rb w r.ta t)(hi:i≤t.n)(htc:t.n≤r.tc) :
  Calls Tryz.prog 39 #[.pointer (some ⟨rb,0,none⟩)] w (ko t i rb r w):=by
 have hn:=t.le;have HB:Hid (RB rb t r i w):=hB;have HT:Hid (TxQ rb w r.ta t):=hT;have hrb:rb<w.heap.size:=hB.lt;clear hB hT;go_enter Tryz.func39,Tryz.ntmps39;go_wp2;go_step3;go_wp2;go_step3;go_wp2;go_loopw [12] (umX rb t r i w) (fun _ wr=>t.n-jr rb wr)
 case atStart=>exact⟨i,hi,rfl,HB.out,Keep.refl _ _⟩
 case round =>
  obtain⟨j,hj,hsk,hB,hK⟩:=hrel;have HSK:Hid (vh t j=vh t i):=hsk;have HAT:Hid (jr rb wr=j):=hB.at_;have HBJ:Hid (RB rb t r j wr):=hB;have HKJ:Hid (Keep (fun b=>b=rb) w wr):=hK
  have d0:wr.cell? ⟨rb,0,none⟩=some (.slice r.ta t.n r.tc):=ud hB rfl;have d1:wr.cell? ⟨rb,1,none⟩=some (.int .i64 (j:Nat)):=ud hB rfl;clear hsk hB hK HB;by_cases hlt:j<t.n
  ·have hlt':(j:Int)<t.n:=by omega
   have hTJ:TxQ rb wr r.ta t:=HT.out.keep HKJ.out;obtain⟨b,off,e,hq,hcell⟩:=hTJ.at hlt;have HTA:Hid (r.ta=some ⟨b,off,none⟩):=e;have HS1:Hid ((if wsP (t.T j) then vh t (j+1) else if t.T j=35 then vh t (xU t j) else j)=vh t i):=by
    have h:=HSK.out;rw[qL,if_pos hlt]at h;exact h
   have dT:=hcell j hlt;rw[e]at d0;have hbne:¬b=rb:=hq.2;clear hTJ hcell hq e;go_upto_region 0 with fail
   go_quiet (fail);obtain⟨V1,hV1⟩:∃V,V=wr.drewN nq:=⟨_,rfl⟩;have HBV1:Hid (RB rb t r j V1):=by rw[hV1];exact HBJ.out.keep (uE wr nq)
   have HKV1:Hid (Keep (fun b=>b=rb) w V1):=by rw[hV1];exact qZ HKJ.out nq
   have dT1:V1.cell? ⟨b,off+j,none⟩=some (.int .u8 (t.T j)):=by rw[hV1];simpa using dT
   rw[←hV1];clear hV1 d0 d1 dT HBJ HKJ;have d0:V1.cell? ⟨rb,0,none⟩=some (.slice r.ta t.n r.tc):=ud HBV1.out rfl;have d1:V1.cell? ⟨rb,1,none⟩=some (.int .i64 (j:Nat)):=ud HBV1.out rfl;rw[HTA.out]at d0;go_upto_region 1 with fail
   go_quiet (fail);obtain⟨V,hV⟩:∃V,V=V1.drewN nq:=⟨_,rfl⟩;have HBV:Hid (RB rb t r j V):=by rw[hV];exact HBV1.out.keep (uE V1 _)
   have HKV:Hid (Keep (fun b=>b=rb) w V):=by rw[hV];exact qZ HKV1.out _
   rw[←hV];clear hV d0 d1 dT1 HBV1 HKV1;have d1:V.cell? ⟨rb,1,none⟩=some (.int .i64 (j:Nat)):=ud HBV.out rfl;have g1:V.frozen? ⟨rb,1,none⟩=false:=ut HBV.out;have HAV:Hid (∀x:Nat,∀y:Int,y=(x:Nat)→jr rb (V.setCell ⟨rb,1,none⟩ (.int .i64 y))=x∧RB rb t r x (V.setCell ⟨rb,1,none⟩ (.int .i64 y))):=fun x y hy=>⟨(HBV.out.set x hy).at_,HBV.out.set x hy⟩
   by_cases hws:wsP (t.T j)
   ·have HNX:Hid (∀v,umX rb t r i w v (V.setCell ⟨rb,1,none⟩ (.int .i64 ((j:Int)+1)))):=fun v=>⟨j+1,hlt,by
     have h:=HS1.out;rw[if_pos hws]at h;exact h,(HAV.out (j+1) _ (by simp)).2,yO HKV.out _ _⟩
    have HME:Hid (jr rb (V.setCell ⟨rb,1,none⟩ (.int .i64 ((j:Int)+1)))=j+1):=(HAV.out (j+1) _ (by simp)).1
    unfold wsP at hws;clear HS1;rcases hws with hc | hc | hc | hc
    all_goals (
     rw[hc];clear hc;go_wp2;go_roundw
     case rel=>exact HNX.out _
     case measure=>rw[HME.out,HAT.out];omega)
   ·have HS2:Hid ((if t.T j=35 then vh t (xU t j) else j)=vh t i):=by
     have h:=HS1.out;rw[if_neg hws]at h;exact h
    clear HS1;by_cases h35:t.T j=35
    ·have HS3:Hid (vh t (xU t j)=vh t i):=by
      have h:=HS2.out;rw[if_pos h35]at h;exact h
     have HGT:Hid (j<xU t j∧xU t j≤t.n):=ufP t hlt h35;rw[h35];clear h35 hws HS2;go_wp2;go_loopw [52] (upI rb t r i j w) (fun _ wr=>t.n-jr rb wr)
     case atStart=>exact⟨j,Nat.le_refl _,by omega,rfl,HBV.out,HKV.out⟩
     case round =>
      obtain⟨k,hk1,hk2,hke,hB6,hK6⟩:=hrel;have HKE:Hid (xU t k=xU t j):=hke;have HB6:Hid (RB rb t r k wr):=hB6;have HK6:Hid (Keep (fun b=>b=rb) w wr):=hK6
      have HAT6:Hid (jr rb wr=k):=hB6.at_;have q0:wr.cell? ⟨rb,0,none⟩=some (.slice r.ta t.n r.tc):=ud hB6 rfl;have q1:wr.cell? ⟨rb,1,none⟩=some (.int .i64 (k:Nat)):=ud hB6 rfl;have q2:wr.frozen? ⟨rb,1,none⟩=false:=ut hB6;have hT6:TxQ rb wr r.ta t:=HT.out.keep hK6;rw[HTA.out]at q0;clear hke hB6 hK6;by_cases hkl:k<t.n
      ·have hkl':(k:Int)<t.n:=by omega
       obtain⟨b',off',e',_,hcell'⟩:=hT6.at hkl;rw[HTA.out]at e';injection e' with e'
       injection e' with e1 e2
       subst e1 e2;have qT:=hcell' k hkl;clear hcell' hT6;go_upto_region 10 with fail
       go_quiet (fail);obtain⟨V6,hV6⟩:∃V,V=wr.drewN nq:=⟨_,rfl⟩;have HB7:Hid (RB rb t r k V6):=by rw[hV6];exact HB6.out.keep (uE wr nq)
       have HK7:Hid (Keep (fun b=>b=rb) w V6):=by rw[hV6];exact qZ HK6.out nq
       have qT7:V6.cell? ⟨b,off+k,none⟩=some (.int .u8 (t.T k)):=by rw[hV6];simpa using qT
       rw[←hV6];clear hV6 q0 q1 q2 qT HB6 HK6;have q0:V6.cell? ⟨rb,0,none⟩=some (.slice r.ta t.n r.tc):=ud HB7.out rfl;have q1:V6.cell? ⟨rb,1,none⟩=some (.int .i64 (k:Nat)):=ud HB7.out rfl;rw[HTA.out]at q0;go_upto_region 11 with fail
       go_quiet (fail);obtain⟨V8,hV8⟩:∃V,V=V6.drewN nq:=⟨_,rfl⟩;have HB8:Hid (RB rb t r k V8):=by rw[hV8];exact HB7.out.keep (uE V6 _)
       have HK8:Hid (Keep (fun b=>b=rb) w V8):=by rw[hV8];exact qZ HK7.out _
       have HAT8:Hid (jr rb V8=k):=HB8.out.at_;rw[←hV8];clear hV8 q0 q1 qT7 HB7 HK7;have q1:V8.cell? ⟨rb,1,none⟩=some (.int .i64 (k:Nat)):=ud HB8.out rfl;have q2:V8.frozen? ⟨rb,1,none⟩=false:=ut HB8.out;by_cases h10:t.T k=10
       ·have hek:xU t k=k:=by rw[qK,if_neg (fun q=>q.2 h10)]
        have HNX:Hid (∀v,umX rb t r i w v V8):=fun v=>⟨k,by omega,by
         have h:=HKE.out;rw[hek]at h;rw[h];exact HS3.out,HB8.out,HK8.out⟩
        have hjk:j<k:=by have h:=HKE.out;rw[hek]at h;have:=HGT.out;omega
        rw[h10];clear h10 hek;go_wp2;go_roundw
        case rel=>exact HNX.out _
        case measure=>rw[HAT8.out,HAT.out];omega
       ·have h10':(t.T k==10)=false:=by simpa using h10
        have HEK:Hid (xU t (k+1)=xU t j):=by
         have h:=HKE.out;rw[qK,if_pos ⟨hkl,h10⟩]at h;exact h
        have HNX:Hid (∀v,upI rb t r i j w v (V8.setCell ⟨rb,1,none⟩ (.int .i64 ((k:Int)+1)))):=fun v=>⟨k+1,by omega,hkl,HEK.out,HB8.out.set (k+1) (by simp),yO HK8.out _ _⟩
        have HME:Hid (jr rb (V8.setCell ⟨rb,1,none⟩ (.int .i64 ((k:Int)+1)))=k+1):=(HB8.out.set (k+1) (by simp)).at_
        clear h10;go_wp2;go_roundw
        case rel=>exact HNX.out _
        case measure=>rw[HME.out,HAT6.out];omega
      ·have hkl':¬(k:Int)<t.n:=by omega
       have hek:xU t k=k:=by rw[qK,if_neg (fun q=>hkl q.1)]
       have hjk:j<k:=by have h:=HKE.out;rw[hek]at h;have:=HGT.out;omega
       have HNX:Hid (∀n v,umX rb t r i w v (wr.drewN n)∧jr rb (wr.drewN n)=k):=fun n v=>⟨⟨k,by omega,by
        have h:=HKE.out;rw[hek]at h;rw[h];exact HS3.out,HB6.out.keep (uE wr n),qZ HK6.out n⟩,(HB6.out.keep (uE wr n)).at_⟩
       clear hek hT6;go_upto_region 10 with fail
       go_quiet (fail);go_wp2;go_roundw
       case rel=>exact (HNX.out _ _).1
       case measure=>rw[(HNX.out _ (.bool true)).2,HAT.out];omega
    ·have HP:Hid (vh t i=j):=by
      have h:=HS2.out;rw[if_neg h35]at h;exact h.symm
     have w1:(t.T j==32)=false:=by simp only[beq_eq_false_iff_ne];exact fun q=>hws (.inl q)
     have w2:(t.T j==9)=false:=by simp only[beq_eq_false_iff_ne];exact fun q=>hws (.inr (.inl q))
     have w3:(t.T j==13)=false:=by simp only[beq_eq_false_iff_ne];exact fun q=>hws (.inr (.inr (.inl q)))
     have w4:(t.T j==10)=false:=by simp only[beq_eq_false_iff_ne];exact fun q=>hws (.inr (.inr (.inr q)))
     have w5:(t.T j==35)=false:=by simpa using h35
     have d2:V.cell? ⟨rb,2,none⟩=some r.v2:=ud HBV.out rfl;have d3:V.cell? ⟨rb,3,none⟩=some r.v3:=ud HBV.out rfl;have d4:V.cell? ⟨rb,4,none⟩=some r.v4:=ud HBV.out rfl;have d5:V.cell? ⟨rb,5,none⟩=some r.v5:=ud HBV.out rfl;have g2:V.frozen? ⟨rb,2,none⟩=false:=ut HBV.out;have g3:V.frozen? ⟨rb,3,none⟩=false:=ut HBV.out;have g4:V.frozen? ⟨rb,4,none⟩=false:=ut HBV.out;have g5:V.frozen? ⟨rb,5,none⟩=false:=ut HBV.out;clear hws h35 HS2;by_cases hone:t.T j∈kX
     ·have HFI:Hid (∀v,ko t i rb r w (.returned v) (((((V.setCell ⟨rb,2,none⟩ (.int .u8 (t.T j))).setCell ⟨rb,3,none⟩ (.int .i64 (j:Nat))).setCell ⟨rb,4,none⟩ (.string ⟨#[]⟩)).setCell ⟨rb,5,none⟩ (.slice none 0 0)).setCell ⟨rb,1,none⟩ (.int .i64 ((j:Int)+1)))):=fun v=>um2 HP.out hlt hone HKV.out HBV.out
      generalize t.T j=c at *;simp only[kX,List.mem_cons,List.not_mem_nil,or_false]at hone;rcases hone with rfl | rfl | rfl | rfl | rfl | rfl | rfl | rfl | rfl | rfl | rfl
      all_goals (
       clear w1 w2 w3 w4 w5;go_wp2
       (try rw[Exit.noGoto_ret])
       refine bodyPost_ret (results_none rfl _ _ _) rfl ?_;exact HFI.out _)
     ·have w6:∀c,c∈kX→(t.T j==c)=false:=fun c hc=>by simp only[beq_eq_false_iff_ne];exact fun q=>hone (by rw[q];exact hc)
      have x1:=w6 61 (by decide)
      have x2:=w6 59 (by decide)
      have x3:=w6 47 (by decide)
      have x4:=w6 33 (by decide)
      have x5:=w6 38 (by decide)
      have x6:=w6 42 (by decide)
      have x7:=w6 63 (by decide)
      have x8:=w6 40 (by decide)
      have x9:=w6 41 (by decide)
      have x10:=w6 46 (by decide)
      have x11:=w6 94 (by decide)
      have HONE:Hid (¬t.T j∈kX):=hone;clear w6 hone d1 g1 d2 d3 d4 d5 g2 g3 g4 g5;by_cases h34:t.T j=34
      ·have HX:Hid (vM t j=(match qY t j with | none=>((⟨0,j,[],[]⟩:Tok),j) | some (z,j')=>(⟨34,j,z,[]⟩,j'))):=umZ t h34
       have HSC:Hid (Calls Tryz.prog 67 #[.pointer (some ⟨rb,0,none⟩)] V (ScS (qY t j) j rb t r V)):=udv rb t r j V HBV.out (HT.out.keep HKV.out) hlt;rw[h34];clear h34 w1 w2 w3 w4 w5 x1 x2 x3 x4 x5 x6 x7 x8 x9 x10 x11;go_wp2_with fail;refine HSC.out.mono ?_;rintro e W ⟨hk4,⟨z,j4,hres,rfl,hB4⟩|⟨hres,rfl⟩⟩
       ·have HFI:Hid (∀v,ko t i rb r w (.returned v) ((((W.setCell ⟨rb,2,none⟩ (.int .u8 34)).setCell ⟨rb,3,none⟩ (.int .i64 (j:Nat))).setCell ⟨rb,4,none⟩ (.string (str z.length (lf z)))).setCell ⟨rb,5,none⟩ (.slice none 0 0))):=fun v =>
         ufn (k:=⟨34,j,z,[]⟩) (sa:=none) (sc:=0) (j:=j4) HP.out hlt (by rw[HX.out,hres]) (by show (34:Int)≠0;decide) (HKV.out.trans hk4) hrb hB4 (.inl ⟨rfl,rfl,rfl⟩) rfl rfl rfl
        have d2:W.cell? ⟨rb,2,none⟩=some r.v2:=ud hB4 rfl;have d3:W.cell? ⟨rb,3,none⟩=some r.v3:=ud hB4 rfl;have d4:W.cell? ⟨rb,4,none⟩=some r.v4:=ud hB4 rfl;have d5:W.cell? ⟨rb,5,none⟩=some r.v5:=ud hB4 rfl;have g2:W.frozen? ⟨rb,2,none⟩=false:=ut hB4;have g3:W.frozen? ⟨rb,3,none⟩=false:=ut hB4;have g4:W.frozen? ⟨rb,4,none⟩=false:=ut hB4;have g5:W.frozen? ⟨rb,5,none⟩=false:=ut hB4;clear hk4 hB4 hres HX HSC;generalize str z.length (lf z)=sz at *;go_wp2
        (try rw[Exit.noGoto_ret])
        refine bodyPost_ret (results_none rfl _ _ _) rfl ?_;exact HFI.out _
       ·have HFI:Hid (ko t i rb r w (.panicked (flt 5 (j:Nat))) W):=ufo (k:=⟨0,j,[],[]⟩) (j:=j) HP.out hlt (by rw[HX.out,hres]) rfl (HKV.out.trans hk4)
        clear hk4 hres HX HSC;go_wp2;exact⟨rfl,HFI.out⟩
      ·have y1:(t.T j==34)=false:=by simpa using h34
       by_cases h91:t.T j=91
       ·have HX:Hid (vM t j=(match qX t j with | none=>((⟨0,j,[],[]⟩:Tok),j) | some (z,j')=>(⟨91,j,[],z⟩,j'))):=um0 t h91
        have HSC:Hid (Calls Tryz.prog 68 #[.pointer (some ⟨rb,0,none⟩)] V (ScC (qX t j) j rb t r V)):=ueq rb t r j V HBV.out (HT.out.keep HKV.out) hlt;rw[h91];clear h34 h91 y1 w1 w2 w3 w4 w5 x1 x2 x3 x4 x5 x6 x7 x8 x9 x10 x11;go_wp2_with fail;refine HSC.out.mono ?_;rintro e W ⟨hk4,⟨z,j4,sa,sc,hres,rfl,hB4,hO4⟩|⟨hres,rfl⟩⟩
        ·have HFI:Hid (∀v,ko t i rb r w (.returned v) ((((W.setCell ⟨rb,2,none⟩ (.int .u8 91)).setCell ⟨rb,3,none⟩ (.int .i64 (j:Nat))).setCell ⟨rb,4,none⟩ (.string ⟨#[]⟩)).setCell ⟨rb,5,none⟩ (.slice sa z.length sc))):=fun v =>
          ufn (k:=⟨91,j,[],z⟩) (sa:=sa) (sc:=sc) (j:=j4) HP.out hlt (by rw[HX.out,hres]) (by show (91:Int)≠0;decide) (HKV.out.trans hk4) hrb hB4 (uo hO4 (fun b hb=>⟨Nat.le_trans HKV.out.size hb.1,hb.2⟩)) rfl rfl rfl
         have d2:W.cell? ⟨rb,2,none⟩=some r.v2:=ud hB4 rfl;have d3:W.cell? ⟨rb,3,none⟩=some r.v3:=ud hB4 rfl;have d4:W.cell? ⟨rb,4,none⟩=some r.v4:=ud hB4 rfl;have d5:W.cell? ⟨rb,5,none⟩=some r.v5:=ud hB4 rfl;have g2:W.frozen? ⟨rb,2,none⟩=false:=ut hB4;have g3:W.frozen? ⟨rb,3,none⟩=false:=ut hB4;have g4:W.frozen? ⟨rb,4,none⟩=false:=ut hB4;have g5:W.frozen? ⟨rb,5,none⟩=false:=ut hB4;clear hk4 hB4 hO4 hres HX HSC;generalize z.length=zn at *;go_wp2
         (try rw[Exit.noGoto_ret])
         refine bodyPost_ret (results_none rfl _ _ _) rfl ?_;exact HFI.out _
        ·have HFI:Hid (ko t i rb r w (.panicked (flt 5 (j:Nat))) W):=ufo (k:=⟨0,j,[],[]⟩) (j:=j) HP.out hlt (by rw[HX.out,hres]) rfl (HKV.out.trans hk4)
         clear hk4 hres HX HSC;go_wp2;exact⟨rfl,HFI.out⟩
       ·have y2:(t.T j==91)=false:=by simpa using h91
        have HSC:Hid (Calls Tryz.prog 69 #[.pointer (some ⟨rb,0,none⟩)] V (ScN j rb t r V)):=ufB rb t r j V HBV.out (HT.out.keep HKV.out) hlt htc;have HNB:Hid (¬M.Letter (t.T j)→vM t j=(⟨0,j,[],[]⟩,j+1)):=fun q=>um1 t q h34 h91 HONE.out
        have HNL:Hid (M.Letter (t.T j)→vM t j=(⟨110,j,(vj t (t.n-j) j []).1,[]⟩,(vj t (t.n-j) j []).2)):=ukT t;clear h34 h91;go_wp2_with fail;refine HSC.out.mono ?_;rintro e W ⟨hk4,⟨hL,rfl,hB4⟩|⟨hL,rfl⟩⟩
        ·have HFI:Hid (∀v,ko t i rb r w (.returned v) ((((W.setCell ⟨rb,2,none⟩ (.int .u8 97)).setCell ⟨rb,3,none⟩ (.int .i64 (j:Nat))).setCell ⟨rb,4,none⟩ (.string (str (vj t (t.n-j) j []).1.length (lf (vj t (t.n-j) j []).1)))).setCell ⟨rb,5,none⟩ (.slice none 0 0))):=fun v =>
          ufn (k:=⟨110,j,(vj t (t.n-j) j []).1,[]⟩) (sa:=none) (sc:=0) HP.out hlt (HNL.out hL) (by show (110:Int)≠0;decide) (HKV.out.trans hk4) hrb hB4 (.inl ⟨rfl,rfl,rfl⟩) rfl rfl rfl
         have d2:W.cell? ⟨rb,2,none⟩=some r.v2:=ud hB4 rfl;have d3:W.cell? ⟨rb,3,none⟩=some r.v3:=ud hB4 rfl;have d4:W.cell? ⟨rb,4,none⟩=some r.v4:=ud hB4 rfl;have d5:W.cell? ⟨rb,5,none⟩=some r.v5:=ud hB4 rfl;have g2:W.frozen? ⟨rb,2,none⟩=false:=ut hB4;have g3:W.frozen? ⟨rb,3,none⟩=false:=ut hB4;have g4:W.frozen? ⟨rb,4,none⟩=false:=ut hB4;have g5:W.frozen? ⟨rb,5,none⟩=false:=ut hB4;clear hk4 hB4 hL HNB HNL HSC;generalize str (vj t (t.n-j) j []).1.length (lf (vj t (t.n-j) j []).1)=sz at *;go_wp2
         (try rw[Exit.noGoto_ret])
         refine bodyPost_ret (results_none rfl _ _ _) rfl ?_;exact HFI.out _
        ·have HFI:Hid (ko t i rb r w (.panicked (flt 5 (j:Nat))) W):=ufo (k:=⟨0,j,[],[]⟩) (j:=j+1) HP.out hlt (HNB.out hL) rfl (HKV.out.trans hk4)
         clear hk4 hL HNB HNL HSC;go_wp2;exact⟨rfl,HFI.out⟩
  ·have HP:Hid (vh t i=t.n):=by
    have h:=HSK.out;rw[qL,if_neg hlt]at h;show _=_;omega
   obtain rfl:j=t.n:=by omega
   have hlt':¬(t.n:Int)<t.n:=by omega
   go_upto_region 0 with fail
   go_quiet (fail);obtain⟨W,hV1⟩:∃V,V=wr.drewN nq:=⟨_,rfl⟩;have hB4:RB rb t r t.n W:=by rw[hV1];exact HBJ.out.keep (uE wr nq)
   have HKV1:Hid (Keep (fun b=>b=rb) w W):=by rw[hV1];exact qZ HKJ.out nq
   have HFI:Hid (∀v,ko t i rb r w (.returned v) ((((W.setCell ⟨rb,2,none⟩ (.int .u8 0)).setCell ⟨rb,3,none⟩ (.int .i64 (t.n:Nat))).setCell ⟨rb,4,none⟩ (.string ⟨#[]⟩)).setCell ⟨rb,5,none⟩ (.slice none 0 0))):=fun v=>um3 HP.out HKV1.out hB4
   rw[←hV1];clear hV1 d0 d1 HBJ HKJ;have d1:W.cell? ⟨rb,1,none⟩=some (.int .i64 (t.n:Nat)):=ud hB4 rfl;have d2:W.cell? ⟨rb,2,none⟩=some r.v2:=ud hB4 rfl;have d3:W.cell? ⟨rb,3,none⟩=some r.v3:=ud hB4 rfl;have d4:W.cell? ⟨rb,4,none⟩=some r.v4:=ud hB4 rfl;have d5:W.cell? ⟨rb,5,none⟩=some r.v5:=ud hB4 rfl;have g2:W.frozen? ⟨rb,2,none⟩=false:=ut hB4;have g3:W.frozen? ⟨rb,3,none⟩=false:=ut hB4;have g4:W.frozen? ⟨rb,4,none⟩=false:=ut hB4;have g5:W.frozen? ⟨rb,5,none⟩=false:=ut hB4;clear hB4;go_wp2;exact⟨rfl,_,results_none rfl _ _ _,HFI.out _⟩
end
section
open Go.RowKit
open M (OpD uj Gr)
theorem udf(t:Tx):∀f g i,t.n-i<f→t.n-i<g→xi t f i=xi t g i
 |0,g,i,h,_=>absurd h (by omega)
 |f+1,0,i,_,h=>absurd h (by omega)
 |f+1,g+1,i,h,k=>by
  rw[xi,xi];by_cases hi:i<t.n
  ·rw[if_pos hi,if_pos hi]
   by_cases h0:(vM t i).1.kind=0
   ·rw[if_pos h0,if_pos h0]
   ·rw[if_neg h0,if_neg h0]
    have hn:=uce t hi h0;have hs:=qN t (vM t i).2;rw[udf t f g _ (by omega) (by omega)]
  ·rw[if_neg hi,if_neg hi]
def udg(t:Tx)(i:Nat):List Tok:=xi t (t.n+1) (vh t i)
theorem ukR{t:Tx}{i:Nat}(h:¬vh t i<t.n):udg t i = []:=by
 unfold udg;rw[xi,if_neg h]
theorem ukS{t:Tx}{i:Nat}(h:vh t i<t.n)(h0:(uM t i).1.kind=0):udg t i = [(uM t i).1]:=by
 unfold uM at h0 ⊢;rw[if_pos h]at h0 ⊢;unfold udg;rw[xi,if_pos h,if_pos h0]
theorem ujt{t:Tx}{i:Nat}(h:vh t i<t.n)(h0:(uM t i).1.kind≠0):udg t i=(uM t i).1::udg t (uM t i).2:=by
 unfold uM at h0 ⊢;rw[if_pos h]at h0 ⊢;have hn:=uce t h h0;have hs:=qN t (vM t (vh t i)).2;unfold udg;rw[xi,if_pos h,if_neg h0,udf t t.n (t.n+1) _ (by omega) (by omega)]
theorem umW(t:Tx){i:Nat}(hi:i≤t.n)(h0:vh t i<t.n→(uM t i).1.kind≠0):(uM t i).2≤t.n:=by
 unfold uM at h0 ⊢;by_cases h:vh t i<t.n
 ·rw[if_pos h]at h0 ⊢
  exact (uce t h (h0 h)).2
 ·rw[if_neg h]
  exact Nat.le_refl _
def Left(t:Tx)(k:Tok)(i:Nat)(l:List Tok):Prop:=(l=k::udg t i∧k.kind≠0∧i≤t.n)∨(l = []∧k=⟨0,t.n,[],[]⟩∧i=t.n)
theorem Left.le{t:Tx}{k:Tok}{i:Nat}{l:List Tok}(h:Left t k i l):i≤t.n:=by
 rcases h with h | h
 ·exact h.2.2
 ·omega
theorem Left.kind{t:Tx}{k:Tok}{i:Nat}{l:List Tok}(h:Left t k i l):(l = []↔k.kind=0):=by
 rcases h with⟨h1,h2,_⟩|⟨h1,h2,_⟩
 ·subst h1
  exact⟨(fun q=>by cases q),fun q=>absurd q h2⟩
 ·subst h1 h2
  exact⟨fun _=>rfl,fun _=>rfl⟩
theorem ueB{t:Tx}{k:Tok}{i:Nat}{l:List Tok}(h:Left t k i (k::l))(h0:vh t i<t.n→(uM t i).1.kind≠0):Left t (uM t i).1 (uM t i).2 l:=by
 rcases h with⟨h1,h2,h3⟩|⟨h1,_⟩
 ·injection h1 with _ h1
  subst h1;by_cases hs:vh t i<t.n
  ·exact .inl ⟨ujt hs (h0 hs),h0 hs,umW t h3 h0⟩
  ·refine .inr ⟨ukR hs,?_,?_⟩
   ·unfold uM;rw[if_neg hs]
   ·unfold uM;rw[if_neg hs]
 ·cases h1
theorem uaw{t:Tx}{k:Tok}{i:Nat}{l:List Tok}(h:Left t k i (k::l))(h1:vh t i<t.n)(h0:(uM t i).1.kind=0):∃x,l = [x]∧x.kind=0∧x.at_=vh t i:=by
 rcases h with⟨e,h2,h3⟩|⟨e,_⟩
 ·injection e with _ e
  subst e;refine⟨_,ukS h1 h0,h0,?_⟩;unfold uM;rw[if_pos h1];unfold vM;split
  ·rfl
  ·split
   ·cases qY t (vh t i)<;>rfl
   ·split
    ·cases qX t (vh t i)<;>rfl
    ·split<;>rfl
 ·cases e
def uiq(t:Tx)(k:Tok)(i:Nat)(c:Int)(rb:Nat)(r:Rv)(w:World)(e:Ending)(w':World):Prop :=
 (kk k.kind≠c∧e=.returned (.bool false)∧w'=w)∨(kk k.kind=c∧Keep (fun b=>b=rb) w w'∧((∃sa sc,(vh t i<t.n→(uM t i).1.kind≠0)∧e=.returned (.bool true)∧RB rb t (yy r (uM t i).1 sa sc) (uM t i).2 w'∧OwnC (New w w') w' (.slice sa (uM t i).1.set.length sc) 1 (uM t i).1.set.length (uz .i64 (lf (uM t i).1.set) (uM t i).1.set.length))∨(vh t i<t.n∧(uM t i).1.kind=0∧e=.panicked (flt 5 (vh t i:Nat)))))
set_option maxHeartbeats 1000000 in
set_option maxRecDepth 100000 in
theorem uho(rb:Nat)(t:Tx)(r:Rv)(k:Tok)(sa:Option Addr)(sc i:Nat)(c:Int)(w:World)(hB:RB rb t (yy r k sa sc) i w)(hT:TxQ rb w r.ta t)(hi:i≤t.n)(htc:t.n≤r.tc) :
  Calls Tryz.prog 70 #[.pointer (some ⟨rb,0,none⟩),.int .u8 c] w (uiq t k i c rb r w):=by
 have HAD:Hid (Calls Tryz.prog 39 #[.pointer (some ⟨rb,0,none⟩)] w (ko t i rb (yy r k sa sc) w)):=kY rb t (yy r k sa sc) i w hB hT hi htc;have c2:w.cell? ⟨rb,2,none⟩=some (.int .u8 (kk k.kind)):=ud hB rfl;clear hB hT;have HK:Hid (∃x,x=kk k.kind):=⟨_,rfl⟩;by_cases hk:kk k.kind=c
 ·have HE:Hid (kk k.kind=c):=hk
  rw[hk]at c2;clear hk;go_enter Tryz.func70,Tryz.ntmps70;go_wp2_with fail;refine HAD.out.mono ?_;clear HAD;rintro e W ⟨hk2,⟨v,sa2,sc2,h0,rfl,hB2,hO⟩|⟨h1,h0,rfl⟩⟩
  ·have HFI:Hid (uiq t k i c rb r w (.returned (.bool true)) W):=.inr ⟨HE.out,hk2,.inl ⟨sa2,sc2,h0,rfl,hB2,hO⟩⟩
   clear hk2 h0 hB2 hO;go_wp2;go_ret;exact HFI.out
  ·have HFI:Hid (uiq t k i c rb r w (.panicked (flt 5 (vh t i:Nat))) W):=.inr ⟨HE.out,hk2,.inr ⟨h1,h0,rfl⟩⟩
   clear hk2 h0 h1;go_wp2;exact⟨rfl,HFI.out⟩
 ·have HFI:Hid (uiq t k i c rb r w (.returned (.bool false)) w):=.inl ⟨hk,rfl,rfl⟩
  have hk':(kk k.kind != c)=true:=by simpa using hk
  obtain⟨x,hx⟩:∃x,x=kk k.kind:=⟨_,rfl⟩;rw[←hx]at c2 hk';clear hk hx;go_enter Tryz.func70,Tryz.ntmps70;go_wp2;go_ret;exact HFI.out
def uir(t:Tx)(k:Tok)(sa:Option Addr)(sc i:Nat)(c:Int)(rb:Nat)(r:Rv)(w:World)(e:Ending)(w':World):Prop :=
 Keep (fun b=>b=rb) w w'∧((kk k.kind≠c∧e=.panicked (flt 5 (k.at_:Nat)))∨(kk k.kind=c∧((∃sa2 sc2,(vh t i<t.n→(uM t i).1.kind≠0)∧e=.returned (.agg #[.int .u8 (kk k.kind),.int .i64 (k.at_:Nat),.string (str k.nm.length (lf k.nm)),.slice sa k.set.length sc])∧RB rb t (yy r (uM t i).1 sa2 sc2) (uM t i).2 w'∧OwnC (New w w') w' (.slice sa2 (uM t i).1.set.length sc2) 1 (uM t i).1.set.length (uz .i64 (lf (uM t i).1.set) (uM t i).1.set.length))∨(vh t i<t.n∧(uM t i).1.kind=0∧e=.panicked (flt 5 (vh t i:Nat))))))
set_option maxHeartbeats 1000000 in
set_option maxRecDepth 100000 in
theorem uhp(rb:Nat)(t:Tx)(r:Rv)(k:Tok)(sa:Option Addr)(sc i:Nat)(c:Int)(w:World)(hB:RB rb t (yy r k sa sc) i w)(hT:TxQ rb w r.ta t)(hi:i≤t.n)(htc:t.n≤r.tc) :
  Calls Tryz.prog 71 #[.pointer (some ⟨rb,0,none⟩),.int .u8 c] w (uir t k sa sc i c rb r w):=by
 have hrb:rb<w.heap.size:=hB.lt;have HB:Hid (RB rb t (yy r k sa sc) i w):=hB;have HT:Hid (TxQ rb w r.ta t):=hT;have c2:w.cell? ⟨rb,2,none⟩=some (.int .u8 (kk k.kind)):=ud hB rfl;have c3:w.cell? ⟨rb,3,none⟩=some (.int .i64 (k.at_:Nat)):=ud hB rfl;have c4:w.cell? ⟨rb,4,none⟩=some (.string (str k.nm.length (lf k.nm))):=ud hB rfl;have c5:w.cell? ⟨rb,5,none⟩=some (.slice sa k.set.length sc):=ud hB rfl;clear hB hT;generalize hsz:str k.nm.length (lf k.nm)=sz at *;have HSZ:Hid (str k.nm.length (lf k.nm)=sz):=hsz;clear hsz;go_enter Tryz.func71,Tryz.ntmps71;by_cases hk:kk k.kind=c
 ·have HE:Hid (kk k.kind=c):=hk
  rw[hk]at c2;clear hk;go_wp2_with fail;obtain⟨W0,hW0⟩:∃W0,W0=(w.alloc (.cells tkZ 51)).alloc (.cells #[.int .u8 c,.int .i64 (k.at_:Nat),.string sz,.slice sa k.set.length sc] 51):=⟨_,rfl⟩;have HK0:Hid (Keep (fun b=>b=rb) w W0):=by rw[hW0];exact (Keep.alloc _ _ _).trans (Keep.alloc _ _ _)
  have HB0:Hid (RB rb t (yy r k sa sc) i W0):=by rw[hW0];exact HB.out.keep ((Keep.alloc _ _ _).trans (Keep.alloc _ _ _))
  have HR0:Hid (W0.heap[w.heap.size]? = some (.cells tkZ 51)):=by rw[hW0];exact ufQ (yX w _ _ rfl) _
  have HC0:Hid (W0.heap[w.heap.size+1]? = some (.cells #[.int .u8 c,.int .i64 (k.at_:Nat),.string sz,.slice sa k.set.length sc] 51)):=by rw[hW0];exact yX _ _ _ (by simp)
  rw[←hW0];clear hW0 c2 c3 c4 c5;refine (kY rb t (yy r k sa sc) i W0 HB0.out (HT.out.keep HK0.out) hi htc).mono ?_;rintro e W ⟨hk2,⟨v,sa2,sc2,h0,rfl,hB2,hO⟩|⟨h1,h0,rfl⟩⟩
  ·have cR:W.heap[w.heap.size]? = some (.cells tkZ 51):=(hk2.block w.heap.size (Array.getElem?_eq_some_iff.1 HR0.out).1 (by show ¬w.heap.size=rb;omega)).trans HR0.out
   have cC:W.heap[w.heap.size+1]? = some (.cells #[.int .u8 c,.int .i64 (k.at_:Nat),.string sz,.slice sa k.set.length sc] 51):=(hk2.block (w.heap.size+1) (Array.getElem?_eq_some_iff.1 HC0.out).1 (by show ¬w.heap.size+1=rb;omega)).trans HC0.out
   have z0:W.cell? ⟨w.heap.size,0,none⟩=some (.int .u8 0):=ud cR rfl;have z1:W.cell? ⟨w.heap.size,1,none⟩=some (.int .i64 0):=ud cR rfl;have z2:W.cell? ⟨w.heap.size,2,none⟩=some (.string ⟨#[]⟩):=ud cR rfl;have z3:W.cell? ⟨w.heap.size,3,none⟩=some (.slice none 0 0):=ud cR rfl;have g0:W.frozen? ⟨w.heap.size,0,none⟩=false:=ut cR;have g1:W.frozen? ⟨w.heap.size,1,none⟩=false:=ut cR;have g2:W.frozen? ⟨w.heap.size,2,none⟩=false:=ut cR;have g3:W.frozen? ⟨w.heap.size,3,none⟩=false:=ut cR;have y0:W.cell? ⟨w.heap.size+1,0,none⟩=some (.int .u8 c):=ud cC rfl;have y1:W.cell? ⟨w.heap.size+1,1,none⟩=some (.int .i64 (k.at_:Nat)):=ud cC rfl;have y2:W.cell? ⟨w.heap.size+1,2,none⟩=some (.string sz):=ud cC rfl;have y3:W.cell? ⟨w.heap.size+1,3,none⟩=some (.slice sa k.set.length sc):=ud cC rfl;have HFI:Hid (uir t k sa sc i c rb r w (.returned (.agg #[.int .u8 c,.int .i64 (k.at_:Nat),.string sz,.slice sa k.set.length sc])) ((((W.setCell ⟨w.heap.size,0,none⟩ (.int .u8 c)).setCell ⟨w.heap.size,1,none⟩ (.int .i64 (k.at_:Nat))).setCell ⟨w.heap.size,2,none⟩ (.string sz)).setCell ⟨w.heap.size,3,none⟩ (.slice sa k.set.length sc))):=by
    refine⟨yK (yK (yK (yK (HK0.out.trans hk2) (Nat.le_refl _)) (Nat.le_refl _)) (Nat.le_refl _)) (Nat.le_refl _),.inr ⟨HE.out,.inl ⟨sa2,sc2,h0,by rw[HE.out,HSZ.out],(((hB2.setX (by omega)).setX (by omega)).setX (by omega)).setX (by omega),?_⟩⟩⟩
    have hn:¬New W0 W w.heap.size:=fun q=>by have:=q.1;have:=(Array.getElem?_eq_some_iff.1 HR0.out).1;omega
    exact uo (xN (xN (xN (xN hO hn) hn) hn) hn) (fun b hb=>⟨by have:=hb.1;have:=HK0.out.size;omega,by simp only[ul];exact hb.2⟩)
   clear hk2 h0 hB2 hO cR cC HB HT HB0 HR0 HC0;go_wp2;refine bodyPost_ret (v:=.agg #[.int .u8 c,.int .i64 (k.at_:Nat),.string sz,.slice sa k.set.length sc]) ?_ rfl ?_
   ·simp[results,Tryz.f71,go_sem, *]
   ·exact HFI.out
  ·have HFI:Hid (uir t k sa sc i c rb r w (.panicked (flt 5 (vh t i:Nat))) W):=⟨HK0.out.trans hk2,.inr ⟨HE.out,.inr ⟨h1,h0,rfl⟩⟩⟩
   clear hk2 h0 h1;go_wp2;exact⟨rfl,HFI.out⟩
 ·have HE:Hid (kk k.kind≠c):=hk
  have hk':(kk k.kind != c)=true:=by simpa using hk
  have HFI:Hid (∀W,Keep (fun b=>b=rb) w W→uir t k sa sc i c rb r w (.panicked (flt 5 (k.at_:Nat))) W):=fun W k=>⟨k,.inl ⟨hk,rfl⟩⟩
  obtain⟨x,hx⟩:∃x,x=kk k.kind:=⟨_,rfl⟩;rw[←hx]at c2 hk';clear hk hx HE;go_wp2;exact⟨rfl,HFI.out _ ((Keep.alloc _ _ _).trans (Keep.alloc _ _ _))⟩
end
end Go.Proofs.YthicmmhmmfhncaaGreat
