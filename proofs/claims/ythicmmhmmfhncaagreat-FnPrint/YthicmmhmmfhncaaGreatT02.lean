import Derived.Test.YthicmmhmmfhncaaGreatT01
set_option linter.unusedVariables false
set_option linter.unusedSimpArgs false
namespace Go.Proofs.YthicmmhmmfhncaaGreat
section
open Go.RowKit
open M (OpD uj Gr)
def up1(W1:World)(n nr nb:Nat)(B:Nat→OpD)(d i:Value)(wr:World):Prop :=
 ∃k:Nat,k≤n∧d=.int .i64 (M.dep B k)∧i=.int .i64 (k:Int)∧Below W1.heap.size W1 wr∧∀j,j<k→M.ElemOK nr nb (B j)∧M.ar (B j).kind≤M.dep B j
def yB(n:Nat)(B:Nat→OpD):Prop:=n≤1048576∧∀i,i<n→(B i).sl≤1048576
theorem umb(nr nb n:Nat)(B:Nat→OpD)(h:∀j,j<n→M.ElemOK nr nb (B j)∧M.ar (B j).kind≤M.dep B j):M.BodyOK nr nb n B↔M.dep B n=1 :=
 ⟨fun q=>q.2.2,fun q=>⟨fun i hi=>(h i hi).1,fun i hi=>(h i hi).2,q⟩⟩
set_option maxHeartbeats 2000000 in
theorem yI(Q:Nat→Prop)(ra la a:Option Addr)(nr rc nb lc n c:Nat)(B:Nat→OpD)(w:World)(hB:OpsA Q w a n B)(h1:nr≤1048576)(h2:nb≤1048576)(h3:yB n B) :
  Calls Tryz.prog 79 #[.agg #[.slice ra nr rc,.slice la nb lc],.slice a n c] w (yT (M.BodyOK nr nb n B) w):=by
 obtain⟨hn,hsl⟩:=h3;have HB:Hid (OpsA Q w a n B):=hB;have HSL:Hid (∀i,i<n→(B i).sl≤1048576):=hsl;clear hB hsl;go_enter Tryz.func79,Tryz.ntmps79;go_wp2;go_loopw [5,10] (fun d i wr=>up1 (w.alloc (.cells #[.slice ra nr rc,.slice la nb lc] 26)) n nr nb B d i wr) (fun d i _=>n-(intOf i).toNat)
 case atStart=>exact⟨0,Nat.zero_le _,rfl,rfl,Below.refl _ _,fun j hj=>absurd hj (Nat.not_lt_zero _)⟩
 case round =>
  obtain⟨k,hk,rfl,rfl,hbel,hall⟩:=hrel;have bd:=M.dep_bd B n k hk (fun j hj=>(hall j hj).2)
  have HA:Hid (∀j,j<k→M.ElemOK nr nb (B j)∧M.ar (B j).kind≤M.dep B j):=hall;clear hall;have hbw:Below w.heap.size w wr:=uh (up w _) hbel;by_cases hlt:k<n
  ·have hB:=HB.out.later hbw
   rcases hB with h0 | ⟨b,off,rfl,hq,hB⟩
   ·omega
   obtain⟨c0,⟨sa,sc,c1,hs⟩,c2⟩:=hB k hlt;have hsl:=HSL.out k hlt;have g0:wr.cell? ⟨w.heap.size,0,none⟩=some (.slice ra nr rc):=ug (by simp) hbel
   have g1:wr.cell? ⟨w.heap.size,1,none⟩=some (.slice la nb lc):=ug (by simp) hbel
   have hsz:w.heap.size<wr.heap.size:=by have:=hbel.size;simp at this;omega
   have hbl:b<wr.heap.size:=ub c0;have har:=M.ar_bd (B k).kind;have HST:Hid (M.dep B (k+1)=M.dep B k+(1-M.ar (B k).kind)):=rfl;have HBW:Hid (Below w.heap.size w wr):=hbw;have HBE:Hid _:=hbel;have HS:Hid (Ints Q .i64 wr sa (B k).sl (B k).set):=hs;clear hB hbw hbel hs;by_cases he:M.ElemOK nr nb (B k)
   ·have HE:Hid (M.ElemOK nr nb (B k)):=he
    clear he;by_cases hd:M.dep B k<M.ar (B k).kind
    ·go_wp2_with (first|(go_at_call 97;refine (xE Q ra la sa nr rc nb lc (B k).sl sc (B k).set (B k).kind (B k).arg _ (HS.out.later (up wr _)) h1 h2 hsl).mono ?_;rintro e W ⟨⟨r,rfl,hr⟩,hb⟩;obtain rfl:r=true:=hr.2 HE.out;have gk:=(ug (a:=⟨wr.heap.size,0,none⟩) (v:=.int .i64 (B k).kind) (by simp) hb);have HW:Hid _:=hb;clear hr hb)|(go_at_call 81;refine (kS _ _).mono ?_;rintro e W' ⟨rfl,hw⟩;subst W'))
     go_ret;exact⟨⟨false,rfl,uR fun q=>by have:=q.2.1 k hlt;omega⟩,uh HBW.out (uh (up wr _) HW.out)⟩
    ·go_wp2_with (first|(go_at_call 97;refine (xE Q ra la sa nr rc nb lc (B k).sl sc (B k).set (B k).kind (B k).arg _ (HS.out.later (up wr _)) h1 h2 hsl).mono ?_;rintro e W ⟨⟨r,rfl,hr⟩,hb⟩;obtain rfl:r=true:=hr.2 HE.out;have gk:=(ug (a:=⟨wr.heap.size,0,none⟩) (v:=.int .i64 (B k).kind) (by simp) hb);have HW:Hid _:=hb;clear hr hb)|(go_at_call 81;refine (kS _ _).mono ?_;rintro e W' ⟨rfl,hw⟩;subst W'))
     go_roundw
     case rel=>exact⟨k+1,by omega,xq HST.out.symm,by go_num,uh HBE.out (uh (up wr _) HW.out),fun j hj=>if e:j=k then e▸⟨HE.out,by omega⟩ else HA.out j (by omega)⟩
     case measure=>simp[intOf];omega
   ·have HE:Hid (¬M.ElemOK nr nb (B k)):=he
    clear he;go_wp2_with fail;refine (xE Q ra la sa nr rc nb lc (B k).sl sc (B k).set (B k).kind (B k).arg _ (HS.out.later (up wr _)) h1 h2 hsl).mono ?_;rintro e W ⟨⟨r,rfl,hr⟩,hb⟩;obtain rfl:r=false:=by { cases r;rfl;exact absurd (hr.1 rfl) HE.out }
    have HW:Hid _:=hb;clear hr hb;go_wp2;go_ret;exact⟨⟨false,rfl,uR fun q=>HE.out (q.1 k hlt)⟩,uh HBW.out (uh (up wr _) HW.out)⟩
  ·obtain rfl:k=n:=by omega
   go_wp2;go_ret;exact⟨⟨_,rfl,by rw[umb nr nb _ B HA.out];simp⟩,hbw⟩
end
section
open Go.RowKit
open M (OpD uj Gr)
def upW(w:World)(n nr nb:Nat)(B:Nat→OpD)(i:Value)(wr:World):Prop :=
 ∃k:Nat,k≤n∧i=.int .i64 (k:Int)∧Below w.heap.size w wr∧∀j,j<k→M.ElemOK nr nb (B j)
theorem uhC(nr nb n:Nat)(B:Nat→OpD)(h:∀j,j<n→M.ElemOK nr nb (B j)):M.BodyOK nr nb n B↔M.Shape n B :=
 ⟨fun q=>q.2,fun q=>⟨h,q⟩⟩
set_option maxHeartbeats 4000000 in
theorem yF(Q:Nat→Prop)(a:Option Addr)(nr nb n c:Nat)(B:Nat→OpD)(w:World)(hB:OpsA Q w a n B)(h1:nr≤1048576)(h2:nb≤1048576)(h3:yB n B) :
  Calls Tryz.prog 13 #[.slice a n c,.int .i64 nr,.int .i64 nb] w (yT (M.BodyOK nr nb n B) w):=by
 obtain⟨hn,hsl⟩:=h3;have HB:Hid (OpsA Q w a n B):=hB;have HSL:Hid (∀i,i<n→(B i).sl≤1048576):=hsl;clear hB hsl;go_enter Tryz.func13,Tryz.ntmps13;go_wp2;go_loopw [7] (fun i wr=>upW w n nr nb B i wr) (fun i _=>n-(intOf i).toNat)
 case atStart=>exact⟨0,Nat.zero_le _,rfl,Below.refl _ _,fun j hj=>absurd hj (Nat.not_lt_zero _)⟩
 case round =>
  obtain⟨k,hk,rfl,hbw,hall⟩:=hrel;have HA:Hid (∀j,j<k→M.ElemOK nr nb (B j)):=hall;clear hall;by_cases hlt:k<n
  ·have hB:=HB.out.later hbw
   rcases hB with h0 | ⟨b,off,rfl,hq,hB⟩
   ·omega
   obtain⟨c0,⟨sa,sc,c1,hs⟩,c2⟩:=hB k hlt;have hsl:=HSL.out k hlt;have hbl:b<wr.heap.size:=ub c0;have HBW:Hid (Below w.heap.size w wr):=hbw;clear hB hbw;obtain⟨d,hd⟩:∃d,B k=d:=⟨_,rfl⟩;have HD:Hid (B k=d):=hd;rw[hd]at c0 c1 c2 hs hsl;clear hd;obtain⟨kd,sl,S,arg⟩:=d;simp only at c0 c1 c2 hs hsl;have HS:Hid (Ints Q .i64 wr sa sl S):=hs;clear hs;have good:M.ElemOK nr nb ⟨kd,sl,S,arg⟩→∀j,j<k+1→M.ElemOK nr nb (B j):=fun q j hj=>if e:j=k then e▸HD.out▸q else HA.out j (by omega)
   have bad:¬M.ElemOK nr nb ⟨kd,sl,S,arg⟩→¬M.BodyOK nr nb n B:=fun q p=>q (HD.out▸p.1 k hlt)
   have HG:Hid (M.ElemOK nr nb ⟨kd,sl,S,arg⟩→∀j,j<k+1→M.ElemOK nr nb (B j)):=good;have HN:Hid (¬M.ElemOK nr nb ⟨kd,sl,S,arg⟩→¬M.BodyOK nr nb n B):=bad;clear good bad;rcases udR kd with rfl | rfl | rfl | hk' | hk'
   ·by_cases hc:M.Canon sl S
    ·have HC:Hid (M.Canon sl S):=hc
     clear hc;by_cases ha:arg<0
     ·go_wp2_with (go_at_call 34;refine (ji Q sa sl sc S _ (HS.out.later (up wr _)) hsl).mono ?_;rintro e W ⟨⟨r,rfl,hr⟩,hb⟩;obtain rfl:r=true:=hr.2 HC.out;have g0:=(ug (a:=⟨wr.heap.size,0,none⟩) (v:=.int .i64 1) (by simp) hb);have g2:=(ug (a:=⟨wr.heap.size,2,none⟩) (v:=.int .i64 arg) (by simp) hb);have HW:Hid _:=hb;clear hr hb)
      go_ret;exact⟨⟨false,rfl,uR (HN.out fun q=>by have:=((ue3 _ _ _ _ _).1 q).1;omega)⟩,uh HBW.out (uh (up wr _) HW.out)⟩
     by_cases ha':1≤arg
     ·go_wp2_with (go_at_call 34;refine (ji Q sa sl sc S _ (HS.out.later (up wr _)) hsl).mono ?_;rintro e W ⟨⟨r,rfl,hr⟩,hb⟩;obtain rfl:r=true:=hr.2 HC.out;have g0:=(ug (a:=⟨wr.heap.size,0,none⟩) (v:=.int .i64 1) (by simp) hb);have g2:=(ug (a:=⟨wr.heap.size,2,none⟩) (v:=.int .i64 arg) (by simp) hb);have HW:Hid _:=hb;clear hr hb)
      go_ret;exact⟨⟨false,rfl,uR (HN.out fun q=>by have:=((ue3 _ _ _ _ _).1 q).1;omega)⟩,uh HBW.out (uh (up wr _) HW.out)⟩
     go_wp2_with (go_at_call 34;refine (ji Q sa sl sc S _ (HS.out.later (up wr _)) hsl).mono ?_;rintro e W ⟨⟨r,rfl,hr⟩,hb⟩;obtain rfl:r=true:=hr.2 HC.out;have g0:=(ug (a:=⟨wr.heap.size,0,none⟩) (v:=.int .i64 1) (by simp) hb);have g2:=(ug (a:=⟨wr.heap.size,2,none⟩) (v:=.int .i64 arg) (by simp) hb);have HW:Hid _:=hb;clear hr hb)
     go_roundw
     case rel=>exact⟨k+1,by omega,by go_num,uh HBW.out (uh (up wr _) HW.out),HG.out ((ue3 _ _ _ _ _).2 ⟨by omega,HC.out⟩)⟩
     case measure=>simp[intOf];omega
    ·have HC:Hid (¬M.Canon sl S):=hc
     clear hc;go_wp2_with (go_at_call 34;refine (ji Q sa sl sc S _ (HS.out.later (up wr _)) hsl).mono ?_;rintro e W ⟨⟨r,rfl,hr⟩,hb⟩;obtain rfl:r=false:=by { cases r;rfl;exact absurd (hr.1 rfl) HC.out };have HW:Hid _:=hb;clear hr hb)
     go_ret;exact⟨⟨false,rfl,uR (HN.out fun q=>HC.out ((ue3 _ _ _ _ _).1 q).2)⟩,uh HBW.out (uh (up wr _) HW.out)⟩
   ·by_cases hz:sl=0
    ·subst hz
     by_cases ha:arg<0
     ·go_wp2
      go_ret;exact⟨⟨false,rfl,uR (HN.out fun q=>by have:=(ugP _ _ _ _ _).1 q;omega)⟩,uh HBW.out (up wr _)⟩
     by_cases ha':(nr:Int)≤arg
     ·go_wp2
      go_ret;exact⟨⟨false,rfl,uR (HN.out fun q=>by have:=(ugP _ _ _ _ _).1 q;omega)⟩,uh HBW.out (up wr _)⟩
     go_wp2;go_roundw
     case rel=>exact⟨k+1,by omega,by go_num,uh HBW.out (up wr _),HG.out ((ugP _ _ _ _ _).2 ⟨by omega,by omega,rfl⟩)⟩
     case measure=>simp[intOf];omega
    ·have hz':((sl:Int) != 0)=true:=by simp;omega
     go_wp2;go_ret;exact⟨⟨false,rfl,uR (HN.out fun q=>by have:=(ugP _ _ _ _ _).1 q;omega)⟩,uh HBW.out (up wr _)⟩
   ·by_cases hz:sl=0
    ·subst hz
     by_cases ha:arg<0
     ·go_wp2
      go_ret;exact⟨⟨false,rfl,uR (HN.out fun q=>by have:=(ue4 _ _ _ _ _).1 q;omega)⟩,uh HBW.out (up wr _)⟩
     by_cases ha':(nb:Int)≤arg
     ·go_wp2
      go_ret;exact⟨⟨false,rfl,uR (HN.out fun q=>by have:=(ue4 _ _ _ _ _).1 q;omega)⟩,uh HBW.out (up wr _)⟩
     go_wp2;go_roundw
     case rel=>exact⟨k+1,by omega,by go_num,uh HBW.out (up wr _),HG.out ((ue4 _ _ _ _ _).2 ⟨by omega,by omega,rfl⟩)⟩
     case measure=>simp[intOf];omega
    ·have hz':((sl:Int) != 0)=true:=by simp;omega
     go_wp2;go_ret;exact⟨⟨false,rfl,uR (HN.out fun q=>by have:=(ue4 _ _ _ _ _).1 q;omega)⟩,uh HBW.out (up wr _)⟩
   ·rcases hk' with rfl | rfl | rfl | rfl | rfl
    all_goals (
     by_cases hz:sl=0
     ·subst hz
      by_cases ha:arg<0
      ·go_wp2
       go_ret;exact⟨⟨false,rfl,uR (HN.out fun q=>by have:=(ugQ _ _ _ _ _ _ (by omega)).1 q;omega)⟩,uh HBW.out (up wr _)⟩
      by_cases ha':1≤arg
      ·go_wp2
       go_ret;exact⟨⟨false,rfl,uR (HN.out fun q=>by have:=(ugQ _ _ _ _ _ _ (by omega)).1 q;omega)⟩,uh HBW.out (up wr _)⟩
      go_wp2;go_roundw
      case rel=>exact⟨k+1,by omega,by go_num,uh HBW.out (up wr _),HG.out ((ugQ _ _ _ _ _ _ (by omega)).2 ⟨by omega,rfl⟩)⟩
      case measure=>simp[intOf];omega
     ·have hz':((sl:Int) != 0)=true:=by simp;omega
      go_wp2;go_ret;exact⟨⟨false,rfl,uR (HN.out fun q=>by have:=(ugQ _ _ _ _ _ _ (by omega)).1 q;omega)⟩,uh HBW.out (up wr _)⟩)
   ·have HK:Hid (kd<0∨7<kd):=hk'
    by_cases hlo:kd<0
    ·go_wp2
     go_ret;exact⟨⟨false,rfl,uR (HN.out (uma _ _ _ _ _ _ HK.out))⟩,uh HBW.out (up wr _)⟩
    ·have hhi:7<kd:=by omega
     go_wp2;go_ret;exact⟨⟨false,rfl,uR (HN.out (uma _ _ _ _ _ _ HK.out))⟩,uh HBW.out (up wr _)⟩
  ·obtain rfl:k=n:=by omega
   have hB:=HB.out.later hbw;have HBB:Hid (OpsA Q wr a k B):=hB;clear hB;go_wp2_with (go_at_call 35;refine (ugn Q a k c B _ HBB.out hn).mono ?_;rintro e W ⟨⟨r,rfl,hr⟩,hw⟩;subst W;have HR:Hid _:=hr;clear hr);go_ret;exact⟨⟨_,rfl,HR.out.trans (uhC nr nb _ B HA.out).symm⟩,hbw⟩
end
end Go.Proofs.YthicmmhmmfhncaaGreat
