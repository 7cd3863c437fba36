import Derived.Test.YthicmmhmmfhncaaGreatT45
import Derived.Lib.ConvBytes
import Derived.Test.YthicmmhmmfhncaaGreatT51
import Derived.Test.YthicmmhmmfhncaaGreatT03
import Derived.Test.YthicmmhmmfhncaaGreatT39
set_option linter.unusedVariables false
set_option linter.unusedSimpArgs false
namespace Go.Proofs.YthicmmhmmfhncaaGreat
section
open Go.RowKit
def bT(s:ByteArray)(j:Nat):Int:=((s.data.toList.getD j 0).toNat:Int)
theorem uoX(s:ByteArray)(j:Nat)(h:j<s.size):(bv s)[j]? = some (.int .u8 (bT s j)):=by
 have hj:j<s.data.toList.length:=by rw[Array.length_toList];exact h
 unfold bv bT;rw[List.getElem?_map,List.getElem?_eq_getElem hj,List.getD,List.getElem?_eq_getElem hj];rfl
theorem OutQ.ints{Q:Nat→Prop}{w:World}{v:Value}{s:ByteArray}(h:OutQ Q w v s):∃a c,v=.slice a s.size c∧Ints Q .u8 w a s.size (bT s)∧(s.size=0∨∃g,a=some ⟨g,0,none⟩∧Q g∧Wr w g s.size):=by
 rcases h.own with⟨rfl,e,_⟩|⟨g,cap,rfl,hq,hl,hc,hcell,hwr⟩
 ·exact⟨none,0,by rw[e],.inl e,.inl e⟩
 ·exact⟨_,_,rfl,.inr ⟨g,0,rfl,hq,fun i hi=>by rw[Nat.zero_add,hcell i (by rw[ud5];exact hi),uoX s i hi]⟩,.inr ⟨g,rfl,hq,fun j hj=>hwr j (by omega)⟩⟩
theorem ulC(w:World)(s:ByteArray):∃a c W,(convert 9 22 (.string s)).run Tryz.prog w=.ok (.slice a s.size c) W∧Ints (fun b=>b=w.heap.size) .u8 W a s.size (bT s)∧Below w.heap.size w W:=by
 have hr:=Lib.run_convert_string_bytes (P:=Tryz.prog) w 9 22 5 s Tryz.underlying9 Tryz.underlying22 Tryz.underlying5;refine⟨_,_,_,hr,.inr ⟨w.heap.size,0,rfl,rfl,fun i hi=>?_⟩,?_⟩
 ·rw[Nat.zero_add]
  exact Lib.bytesWorld_cell w 5 s i hi
 ·refine⟨?_,?_,?_,by rw[Lib.bytesWorld_size];omega,fun k hk=>Lib.bytesWorld_at_old w 5 s k hk⟩
  all_goals rfl
end
section
open Go.RowKit
open M (OpD uj Gr TX b1)
def Txt(g:Gr)(s:ByteArray):Prop:=(M.Valid g∧s=uaY g)∨(¬M.Valid g∧s=ByteArray.empty)
def spI(W1:World)(n:Nat)(f:Nat→ByteArray)(ov iv:Value)(wr:World):Prop:=∃k:Nat,k≤n∧iv=.int .i64 (k:Int)∧ov=.string (f k)∧Below W1.heap.size W1 wr
def umR(s:ByteArray)(w:World)(e:Ending)(w':World):Prop:=∃a c,e=.returned (.slice a s.size c)∧Ints (New w w') .u8 w' a s.size (bT s)∧Below w.heap.size w w'
theorem RuleX.body_cap{Q:Nat→Prop}{w:World}{b o:Nat}{d:uj}(h:RuleX Q w b o d):∃na nc ba bc,w.cell? ⟨b,o,none⟩=some (.slice na d.nl nc)∧Ints Q .u8 w na d.nl d.name∧w.cell? ⟨b,o+1,none⟩=some (.slice ba d.bl bc)∧OpsA Q w ba d.bl d.body∧d.bl≤bc:=by
 obtain⟨⟨⟨na,nc,c0,hn⟩,⟨a0,c0',k0,hb0⟩⟩,⟨ba,bc,c1,hcap⟩⟩:=h;rw[c1]at k0;simp at k0;obtain⟨rfl,rfl⟩:=k0;exact⟨na,nc,_,_,c0,hn,c1,hb0,hcap⟩
theorem LabX.body_cap{Q:Nat→Prop}{w:World}{b o:Nat}{d:uj}(h:LabX Q w b o d):∃na nc ba bc,w.cell? ⟨b,o,none⟩=some (.slice na d.nl nc)∧Ints Q .u8 w na d.nl d.name∧w.cell? ⟨b,o+1,none⟩=some (.bool d.has)∧w.cell? ⟨b,o+2,none⟩=some (.slice ba d.bl bc)∧OpsA Q w ba d.bl d.body∧d.bl≤bc:=by
 obtain⟨⟨⟨na,nc,c0,hn⟩,hh,⟨a0,c0',k0,hb0⟩⟩,⟨ba,bc,c1,hcap⟩⟩:=h;rw[c1]at k0;simp at k0;obtain⟨rfl,rfl⟩:=k0;exact⟨na,nc,_,_,c0,hn,hh,c1,hb0,hcap⟩
set_option maxRecDepth 100000 in
set_option maxHeartbeats 16000000 in
theorem uii(Q:Nat→Prop)(ra la:Option Addr)(rc lc:Nat)(g:Gr)(s:ByteArray)(w:World)(hG:GramX Q w ra la g)(hs:yb g)(hT:Txt g s) :
  Calls Tryz.prog 6 #[.agg #[.slice ra g.nr rc,.slice la g.nb lc]] w (umR s w):=by
 have HG:Hid (GramX Q w ra la g):=hG;have HS:Hid (yb g):=hs;have HT:Hid (Txt g s):=hT;clear hG hs hT;go_enter Tryz.func6,Tryz.ntmps6;go_wp2_with fail;refine (uei Q ra la rc lc g _ (HG.out.later (up w _)).plain HS.out).mono ?_;rintro e W1 ⟨⟨r,rfl,hr⟩,hb⟩;have g0:=ug (a:=⟨w.heap.size,0,none⟩) (v:=.slice ra g.nr rc) (cN w.heap.size rfl rfl) hb;have g1:=ug (a:=⟨w.heap.size,1,none⟩) (v:=.slice la g.nb lc) (cN w.heap.size rfl rfl) hb;have B1:Hid (Below w.heap.size w W1):=uh (up w _) hb;have hw1:w.heap.size<W1.heap.size:=ub g0;clear hb;cases r with
 |false =>
  have HV:Hid (s=ByteArray.empty):=by
   rcases HT.out with⟨q,_⟩|⟨_,q⟩
   ·exact absurd (hr.2 q) (by decide)
   ·exact q
  clear hr;go_wp2;go_ret;exact⟨none,0,by rw[HV.out];rfl,.inl (by rw[HV.out];rfl),B1.out⟩
 |true =>
  have HV:Hid (M.Valid g):=hr.1 rfl;have HSG:Hid (s=uaY g):=by
   rcases HT.out with⟨_,q⟩|⟨q,_⟩
   ·exact q
   ·exact absurd (hr.1 rfl) q
  clear hr;have h1:=HV.out.r2;have h2:=HV.out.l2;have HG1:Hid (GramX Q W1 ra la g):=HG.out.later B1.out;have G0:Hid (W1.cell? ⟨w.heap.size,0,none⟩=some (.slice ra g.nr rc)):=g0;have G1:Hid (W1.cell? ⟨w.heap.size,1,none⟩=some (.slice la g.nb lc)):=g1;go_wp2;go_loopw [3,4] (fun ov iv wr=>spI W1 g.nr (vO g) ov iv wr) (fun _ iv _=>g.nr-(intOf iv).toNat)
  case atStart=>exact⟨0,Nat.zero_le _,rfl,rfl,Below.refl _ _⟩
  case round =>
   obtain⟨k,hk,rfl,rfl,hbel⟩:=hrel;have HB1:Hid (Below W1.heap.size W1 wr):=hbel;have y0:=ug G0.out hbel;have y1:=ug G1.out hbel;clear g0 g1 hbel;by_cases hlt:k<g.nr
   ·have hlt':(k:Int)<(g.nr:Int):=by omega
    rcases HG1.out.rules with q | ⟨b,off,rfl,hq,hR⟩
    ·omega
    obtain⟨na,nc,ba,bc,c0,hn,c1,hb,hcap⟩:=(hR k hlt).body_cap;obtain⟨ι,hne,F,hF,hF'⟩:=kR wr;have hBW:∀n,Below W1.heap.size W1 (F n):=fun n=>uh HB1.out (hF n)
    have f0:∀n,(F n).cell? ⟨w.heap.size,0,none⟩=some (.slice (some ⟨b,off,none⟩) g.nr rc):=fun n=>ug y0 (hF n)
    have f1:∀n,(F n).cell? ⟨w.heap.size,1,none⟩=some (.slice la g.nb lc):=fun n=>ug y1 (hF n)
    have f2:∀n,(F n).cell? ⟨b,off+k*2,none⟩=some (.slice na (g.rule k).nl nc):=fun n=>ug c0 (hBW n)
    have f3:∀n,(F n).cell? ⟨b,off+k*2+1,none⟩=some (.slice ba (g.rule k).bl bc):=fun n=>ug c1 (hBW n)
    have hcv:∀n,(convert 22 9 (.slice na (g.rule k).nl nc)).run Tryz.prog (F n)=.ok (.string (yS g k)) (F n):=fun n=>vZ Q na (g.rule k).nl nc (g.rule k).name _ (hn.later (hBW n))
    have HC:Hid (∃n,wr.drew=F n):=hF' _ (Below.refl _ wr).drew;have HFA:Hid (∀n,Below wr.heap.size wr (F n)):=hF;have HFB:Hid (∀W,Below wr.heap.size wr W→∃n,W=F n):=hF';have HBW:Hid (∀n,Below W1.heap.size W1 (F n)):=hBW;have HN:Hid (∀n,OpsA Q (F n) ba (g.rule k).bl (g.rule k).body):=fun n=>hb.later (hBW n)
    have HGF:Hid (∀n,GramA Q (F n) (some ⟨b,off,none⟩) la g):=fun n=>(HG1.out.later (hBW n)).plain
    have HBO:Hid (M.BodyOK g.nr g.nb (g.rule k).bl (g.rule k).body):=HV.out.rb k hlt;have HCP:Hid ((g.rule k).bl≤bc):=hcap;have HLB:Hid ((g.rule k).bl≤2000):=uid HV.out hlt;have hs1:=(uaq HV.out hlt).2;have hs2:=qR HV.out (HV.out.rb k hlt);have hs3:=ucl HV.out k hk;have hs4:=uid HV.out hlt;have HRT:Hid (vO g (k+1)=vO g k++(yS g k++⟨#[32,61,32]⟩++(vD g (g.rule k).bl (g.rule k).body).text++⟨#[32,59,10]⟩)):=rfl;have HTT:Hid (∀n,Calls Tryz.prog 16 #[.agg #[.slice (some ⟨b,off,none⟩) g.nr rc,.slice la g.nb lc],.slice ba (g.rule k).bl bc] (F n) (xL (vD g (g.rule k).bl (g.rule k).body).text (F n))):=fun n=>ucL Q (some ⟨b,off,none⟩) la ba rc lc (g.rule k).bl bc g HV.out (g.rule k).body (F n) HLB.out HCP.out (HN.out n) HBO.out (HGF.out n)
    clear hF hF' hBW hR hn hb hcap c0 c1 hq;generalize (vD g (g.rule k).bl (g.rule k).body).text=tt at *;generalize yS g k=nm at *;generalize vO g k=rt at *;have w1:¬9223372036854775807<nm.size+3:=by omega
    have w2:¬9223372036854775807<nm.size+3+tt.size:=by omega
    have w3:¬9223372036854775807<nm.size+3+tt.size+3:=by omega
    have w4:¬9223372036854775807<rt.size+(nm.size+3+tt.size+3):=by omega
    go_wp2_with fail;refine uI F (by kernel_rfl) (by kernel_rfl) HC.out ?_
    repeat (go_big_quiet_step (first|(go_at_call 16;exact xR (HFA.out _) HFB.out (HTT.out _))))
    refine wpQuiet_nil ?_;rintro _ ⟨nq,rfl⟩;go_wp2;go_roundw
    case rel=>exact⟨k+1,by omega,by go_num,by rw[HRT.out],HBW.out nq⟩
    case measure=>simp[intOf];omega
   ·obtain rfl:k=g.nr:=by omega
    go_wp2;go_loopw [3,5] (fun ov iv wr=>spI W1 g.nb (vl g) ov iv wr) (fun _ iv _=>g.nb-(intOf iv).toNat)
    case atStart=>exact⟨0,Nat.zero_le _,rfl,rfl,HB1.out⟩
    case round =>
     clear y0 y1 hk hlt;obtain⟨k,hk,rfl,rfl,hbel⟩:=hrel;have HBL:Hid (Below W1.heap.size W1 wr):=hbel;have y0:=ug G0.out hbel;have y1:=ug G1.out hbel;clear hbel;by_cases hlt:k<g.nb
     ·have hlt':(k:Int)<(g.nb:Int):=by omega
      rcases HG1.out.labs with q | ⟨b,off,rfl,hq,hR⟩
      ·omega
      obtain⟨na,nc,ba,bc,c0,hn,ch,c1,hb,hcap⟩:=(hR k hlt).body_cap;have HST:Hid (vl g (k+1)=if (g.lab k).has then vl g k++(b1 94++vY (vr g k) (uaX g k)) else vl g k):=rfl
      have d0:=ug ch HBL.out;cases hh:(g.lab k).has with
      |false =>
       rw[hh]at HST d0;clear hR hn hb hcap hq ch c0 c1;go_wp2;go_roundw
       case rel=>exact⟨k+1,by omega,by go_num,by rw[HST.out];rfl,HBL.out⟩
       case measure=>simp[intOf];omega
      |true =>
       rw[hh]at HST d0;obtain⟨ι,hne,F,hF,hF'⟩:=kR wr;have hBW:∀n,Below W1.heap.size W1 (F n):=fun n=>uh HBL.out (hF n)
       have f0:∀n,(F n).cell? ⟨w.heap.size,0,none⟩=some (.slice ra g.nr rc):=fun n=>ug y0 (hF n)
       have f1:∀n,(F n).cell? ⟨w.heap.size,1,none⟩=some (.slice (some ⟨b,off,none⟩) g.nb lc):=fun n=>ug y1 (hF n)
       have f2:∀n,(F n).cell? ⟨b,off+k*3,none⟩=some (.slice na (g.lab k).nl nc):=fun n=>ug c0 (hBW n)
       have f3:∀n,(F n).cell? ⟨b,off+k*3+2,none⟩=some (.slice ba (g.lab k).bl bc):=fun n=>ug c1 (hBW n)
       have hcv:∀n,(convert 22 9 (.slice na (g.lab k).nl nc)).run Tryz.prog (F n)=.ok (.string (vr g k)) (F n):=fun n=>vZ Q na (g.lab k).nl nc (g.lab k).name _ (hn.later (hBW n))
       have HC:Hid (∃n,wr.drew=F n):=hF' _ (Below.refl _ wr).drew;have HFA:Hid (∀n,Below wr.heap.size wr (F n)):=hF;have HFB:Hid (∀W,Below wr.heap.size wr W→∃n,W=F n):=hF';have HBW:Hid (∀n,Below W1.heap.size W1 (F n)):=hBW;have HN:Hid (∀n,OpsA Q (F n) ba (g.lab k).bl (g.lab k).body):=fun n=>hb.later (hBW n)
       have HGF:Hid (∀n,GramA Q (F n) ra (some ⟨b,off,none⟩) g):=fun n=>(HG1.out.later (hBW n)).plain
       have HBO:Hid (M.BodyOK g.nr g.nb (g.lab k).bl (g.lab k).body):=HV.out.lb k hlt hh;have HCP:Hid ((g.lab k).bl≤bc):=hcap;have HLB:Hid ((g.lab k).bl≤2000):=uie HV.out hlt;have hs1:=(jZ HV.out hlt).2;have hs2:=qR HV.out (HV.out.lb k hlt hh);have hs3:=uaZ HV.out k hk;have hs4:=uie HV.out hlt;have HRT:Hid (vl g (k+1)=vl g k++(⟨#[94]⟩++vr g k++⟨#[32,61,32]⟩++(vD g (g.lab k).bl (g.lab k).body).text++⟨#[32,59,10]⟩)):=by
        show _=_;rw[HST.out,if_pos rfl];unfold vY uaX;simp only[ByteArray.append_assoc];rfl
       have HTT:Hid (∀n,Calls Tryz.prog 16 #[.agg #[.slice ra g.nr rc,.slice (some ⟨b,off,none⟩) g.nb lc],.slice ba (g.lab k).bl bc] (F n) (xL (vD g (g.lab k).bl (g.lab k).body).text (F n))):=fun n=>ucL Q ra (some ⟨b,off,none⟩) ba rc lc (g.lab k).bl bc g HV.out (g.lab k).body (F n) HLB.out HCP.out (HN.out n) HBO.out (HGF.out n)
       clear hF hF' hBW hR hn hb hcap c0 c1 hq hh ch HST;generalize (vD g (g.lab k).bl (g.lab k).body).text=tt at *;generalize vr g k=nm at *;generalize vl g k=rt at *;have w0:¬9223372036854775807<1+nm.size:=by omega
       have w1:¬9223372036854775807<1+nm.size+3:=by omega
       have w2:¬9223372036854775807<1+nm.size+3+tt.size:=by omega
       have w3:¬9223372036854775807<1+nm.size+3+tt.size+3:=by omega
       have w4:¬9223372036854775807<rt.size+(1+nm.size+3+tt.size+3):=by omega
       go_wp2_with fail;refine uI F (by kernel_rfl) (by kernel_rfl) HC.out ?_
       repeat (go_big_quiet_step (first|(go_at_call 16;exact xR (HFA.out _) HFB.out (HTT.out _))))
       refine wpQuiet_nil ?_;rintro _ ⟨nq,rfl⟩;go_wp2;go_roundw
       case rel=>exact⟨k+1,by omega,by go_num,by rw[HRT.out],HBW.out nq⟩
       case measure=>simp[intOf];omega
     ·obtain rfl:k=g.nb:=by omega
      have HSE:Hid (vl g g.nb=s):=HSG.out.symm;obtain⟨a,c,W',hrun,hI,hB⟩:=ulC wr (vl g g.nb);rw[HSE.out]at hrun hI ⊢;have HI:Hid (Ints (fun b=>b=wr.heap.size) .u8 W' a s.size (bT s)):=hI
      have HBW:Hid (Below wr.heap.size wr W'):=hB;clear hI hB;go_wp2;go_ret;refine⟨a,c,rfl,?_,uh B1.out (uh HBL.out HBW.out)⟩;rcases HI.out with q | ⟨x,o,e1,rfl,hc⟩
      ·exact .inl q
      ·by_cases e0:s.size=0
       ·exact .inl e0
       ·exact .inr ⟨wr.heap.size,o,e1,⟨Nat.le_trans B1.out.size HBL.out.size,ub (hc 0 (by omega))⟩,hc⟩
end
section
open Go.RowKit
open M (OpD uj Gr)
set_option maxHeartbeats 1000000 in
theorem uf3(Q Q':Nat→Prop)(a a':Option Addr)(n c c':Nat)(S:Nat→Int)(w:World)(h1:Ints Q .i64 w a n S)(h2:Ints Q' .i64 w a' n S)(hn:n≤1048576) :
  Calls Tryz.prog 52 #[.slice a n c,.slice a' n c'] w (yT True w):=by
 have ht:=nne n;go_enter Tryz.func52,Tryz.ntmps52;go_wp2;go_loopw [5] (fun i wr=>∃k:Nat,k≤n∧i=.int .i64 k∧∃j,wr=w.drewN j) (fun i _=>n-(intOf i).toNat)
 case atStart=>exact⟨0,Nat.zero_le _,rfl,0,rfl⟩
 case round =>
  obtain⟨k,hk,rfl,j,rfl⟩:=hrel;by_cases hlt:k<n
  ·rcases h1 with h0 | ⟨b,off,rfl,hq,h1⟩
   ·omega
   rcases h2 with h0 | ⟨b',off',rfl,hq',h2⟩
   ·omega
   have hc1:=h1 k hlt;have hc2:=h2 k hlt;have hne:=ine (S k);have hlt':(k:Int)<(n:Int):=by omega
   go_wp2_with fail;go_quiet (fail);go_wp2;go_roundw
   case rel=>exact⟨k+1,by omega,by go_num,_,rfl⟩
   case measure=>simp[intOf];omega
  ·obtain rfl:k=n:=by omega
   go_wp2;go_ret;exact⟨⟨true,rfl,yN trivial⟩,below_drewN (Below.refl _ _) _⟩
set_option maxHeartbeats 1000000 in
theorem uad(Q Q':Nat→Prop)(a a':Option Addr)(n c c':Nat)(S:Nat→Int)(w:World)(h1:Ints Q .u8 w a n S)(h2:Ints Q' .u8 w a' n S)(hn:n≤1048576) :
  Calls Tryz.prog 25 #[.slice a n c,.slice a' n c'] w (yT True w):=by
 have ht:=nne n;go_enter Tryz.func25,Tryz.ntmps25;go_wp2;go_loopw [5] (fun i wr=>∃k:Nat,k≤n∧i=.int .i64 k∧∃j,wr=w.drewN j) (fun i _=>n-(intOf i).toNat)
 case atStart=>exact⟨0,Nat.zero_le _,rfl,0,rfl⟩
 case round =>
  obtain⟨k,hk,rfl,j,rfl⟩:=hrel;by_cases hlt:k<n
  ·rcases h1 with h0 | ⟨b,off,rfl,hq,h1⟩
   ·omega
   rcases h2 with h0 | ⟨b',off',rfl,hq',h2⟩
   ·omega
   have hc1:=h1 k hlt;have hc2:=h2 k hlt;have hne:=ine (S k);have hlt':(k:Int)<(n:Int):=by omega
   go_wp2_with fail;go_quiet (fail);go_wp2;go_roundw
   case rel=>exact⟨k+1,by omega,by go_num,_,rfl⟩
   case measure=>simp[intOf];omega
  ·obtain rfl:k=n:=by omega
   go_wp2;go_ret;exact⟨⟨true,rfl,yN trivial⟩,below_drewN (Below.refl _ _) _⟩
set_option maxHeartbeats 2000000 in
theorem ubb(Q Q':Nat→Prop)(a a':Option Addr)(n c c':Nat)(R:Nat→OpD)(w:World)(h1:OpsA Q w a n R)(h2:OpsA Q' w a' n R)(hn:n≤1048576)(hs:∀i,i<n→(R i).sl≤1048576) :
  Calls Tryz.prog 26 #[.slice a n c,.slice a' n c'] w (yT True w):=by
 have ht:=nne n;have H1:Hid (OpsA Q w a n R):=h1;have H2:Hid (OpsA Q' w a' n R):=h2;have HSL:Hid (∀i,i<n→(R i).sl≤1048576):=hs;clear h1 h2 hs;go_enter Tryz.func26,Tryz.ntmps26;go_wp2;go_loopw [5] (fun i wr=>∃k:Nat,k≤n∧i=.int .i64 k∧Below w.heap.size w wr) (fun i _=>n-(intOf i).toNat)
 case atStart=>exact⟨0,Nat.zero_le _,rfl,Below.refl _ _⟩
 case round =>
  obtain⟨k,hk,rfl,hbel⟩:=hrel;by_cases hlt:k<n
  ·have h1:=H1.out.later hbel
   rcases h1 with h0 | ⟨b,off,rfl,hq,h1⟩
   ·omega
   have h2:=H2.out.later hbel;rcases h2 with h0 | ⟨b',off',rfl,hq',h2⟩
   ·omega
   obtain⟨c0,⟨sa,sc,c1,hs1⟩,c2⟩:=h1 k hlt;obtain⟨e0,⟨sa',sc',e1,hs2⟩,e2⟩:=h2 k hlt;have HS1:Hid (Ints Q .i64 wr sa (R k).sl (R k).set):=hs1;have HS2:Hid (Ints Q' .i64 wr sa' (R k).sl (R k).set):=hs2;have hlt':(k:Int)<(n:Int):=by omega
   have hne1:=ine (R k).kind;have hne2:=ine (R k).arg;have HBE:Hid (Below w.heap.size w wr):=hbel;obtain⟨ι,hne,F,hF,hF'⟩:=kR wr;have f0:∀n,(F n).cell? ⟨b,off+k*3,none⟩=some (.int .i64 (R k).kind):=fun n=>ug c0 (hF n)
   have g0:∀n,(F n).cell? ⟨b',off'+k*3,none⟩=some (.int .i64 (R k).kind):=fun n=>ug e0 (hF n)
   have f1:∀n,(F n).cell? ⟨b,off+k*3+1,none⟩=some (.slice sa (R k).sl sc):=fun n=>ug c1 (hF n)
   have g1:∀n,(F n).cell? ⟨b',off'+k*3+1,none⟩=some (.slice sa' (R k).sl sc'):=fun n=>ug e1 (hF n)
   have f2:∀n,(F n).cell? ⟨b,off+k*3+2,none⟩=some (.int .i64 (R k).arg):=fun n=>ug c2 (hF n)
   have g2:∀n,(F n).cell? ⟨b',off'+k*3+2,none⟩=some (.int .i64 (R k).arg):=fun n=>ug e2 (hF n)
   have HC:Hid (∃n,wr.drew=F n):=hF' _ (Below.refl _ wr).drew;have HF:Hid (∀n,Below wr.heap.size wr (F n)):=hF;have HF':Hid (∀W,Below wr.heap.size wr W→∃n,W=F n):=hF';clear hF hF' h1 h2 hbel hs1 hs2;go_wp2_with fail;refine uI F (by kernel_rfl) (by kernel_rfl) HC.out ?_
   repeat (go_big_quiet_step (first|(go_at_call 52;exact jh (HF.out _) HF'.out (yN trivial) (uf3 Q Q' sa sa' (R k).sl sc sc' (R k).set _ (HS1.out.later (HF.out _)) (HS2.out.later (HF.out _)) (HSL.out k hlt)))))
   refine wpQuiet_nil ?_;rintro _ ⟨nq,rfl⟩;go_wp2;go_roundw
   case rel=>exact⟨k+1,by omega,by go_num,uh HBE.out (HF.out nq)⟩
   case measure=>simp[intOf];omega
  ·obtain rfl:k=n:=by omega
   go_wp2;go_ret;exact⟨⟨true,rfl,yN trivial⟩,hbel⟩
set_option maxRecDepth 100000 in
set_option maxHeartbeats 4000000 in
theorem ucV(Q Q':Nat→Prop)(ra ra' la la':Option Addr)(rc rc' lc lc':Nat)(g:Gr)(w:World)(h1:GramA Q w ra la g)(h2:GramA Q' w ra' la' g)(hs:yb g) :
  Calls Tryz.prog 9 #[.agg #[.slice ra g.nr rc,.slice la g.nb lc],.agg #[.slice ra' g.nr rc',.slice la' g.nb lc']] w (yT True w):=by
 have ht1:=nne g.nr;have ht2:=nne g.nb;obtain⟨W0,hW0⟩:∃W,W=(w.alloc (.cells #[.slice ra g.nr rc,.slice la g.nb lc] 26)).alloc (.cells #[.slice ra' g.nr rc',.slice la' g.nb lc'] 26):=⟨_,rfl⟩;have sW:W0.heap.size=w.heap.size+2:=by rw[hW0];simp
 have HB0:Hid (Below w.heap.size w W0):=by rw[hW0];exact yx w _ _
 have hx0:W0.cell? ⟨w.heap.size,0,none⟩=some (.slice ra g.nr rc):=by rw[hW0];exact vp _ (cN w.heap.size rfl rfl)
 have hx1:W0.cell? ⟨w.heap.size,1,none⟩=some (.slice la g.nb lc):=by rw[hW0];exact vp _ (cN w.heap.size rfl rfl)
 have hy0:W0.cell? ⟨w.heap.size+1,0,none⟩=some (.slice ra' g.nr rc'):=by rw[hW0];exact cN (w.heap.size+1) (by simp) rfl
 have hy1:W0.cell? ⟨w.heap.size+1,1,none⟩=some (.slice la' g.nb lc'):=by rw[hW0];exact cN (w.heap.size+1) (by simp) rfl
 have X:Hid (∀W,Below W0.heap.size W0 W→W.cell? ⟨w.heap.size,0,none⟩=some (.slice ra g.nr rc)∧W.cell? ⟨w.heap.size,1,none⟩=some (.slice la g.nb lc)∧W.cell? ⟨w.heap.size+1,0,none⟩=some (.slice ra' g.nr rc')∧W.cell? ⟨w.heap.size+1,1,none⟩=some (.slice la' g.nb lc')):=fun W k=>⟨ug hx0 k,ug hx1 k,ug hy0 k,ug hy1 k⟩
 have H1:Hid (GramA Q W0 ra la g):=h1.later HB0.out;have H2:Hid (GramA Q' W0 ra' la' g):=h2.later HB0.out;have HS:Hid (yb g):=hs;clear h1 h2 hs hx0 hx1 hy0 hy1;go_enter Tryz.func9,Tryz.ntmps9;go_wp2;rw[←hW0];have hnr:=HS.out.nr;have hnb:=HS.out.nb;clear hW0;go_loopw [5] (fun i wr=>∃k:Nat,k≤g.nr∧i=.int .i64 k∧Below W0.heap.size W0 wr) (fun i _=>g.nr-(intOf i).toNat)
 case atStart=>exact⟨0,Nat.zero_le _,rfl,Below.refl _ _⟩
 case round =>
  obtain⟨k,hk,rfl,hbel⟩:=hrel;obtain⟨x0,x1,y0,y1⟩:=X.out wr hbel;by_cases hlt:k<g.nr
  ·have h1:=H1.out.rules.later hbel
   rcases h1 with h0 | ⟨b,off,rfl,hq,h1⟩
   ·omega
   have h2:=H2.out.rules.later hbel;rcases h2 with h0 | ⟨b',off',rfl,hq',h2⟩
   ·omega
   obtain⟨⟨na,nc,c0,hs1⟩,⟨ba,bc,c1,hb1⟩⟩:=h1 k hlt;obtain⟨⟨na',nc',e0,hs2⟩,⟨ba',bc',e1,hb2⟩⟩:=h2 k hlt;have HS1:Hid (Ints Q .u8 wr na (g.rule k).nl (g.rule k).name):=hs1;have HS2:Hid (Ints Q' .u8 wr na' (g.rule k).nl (g.rule k).name):=hs2;have HB1:Hid (OpsA Q wr ba (g.rule k).bl (g.rule k).body):=hb1;have HB2:Hid (OpsA Q' wr ba' (g.rule k).bl (g.rule k).body):=hb2;have hlt':(k:Int)<(g.nr:Int):=by omega
   have HBE:Hid (Below W0.heap.size W0 wr):=hbel;have HSN:Hid (yL (g.rule k)):=HS.out.rule k hlt;obtain⟨ι,hne,F,hF,hF'⟩:=kR wr;have f0:∀n,(F n).cell? ⟨b,off+k*2,none⟩=some (.slice na (g.rule k).nl nc):=fun n=>ug c0 (hF n)
   have g0:∀n,(F n).cell? ⟨b',off'+k*2,none⟩=some (.slice na' (g.rule k).nl nc'):=fun n=>ug e0 (hF n)
   have f1:∀n,(F n).cell? ⟨b,off+k*2+1,none⟩=some (.slice ba (g.rule k).bl bc):=fun n=>ug c1 (hF n)
   have g1:∀n,(F n).cell? ⟨b',off'+k*2+1,none⟩=some (.slice ba' (g.rule k).bl bc'):=fun n=>ug e1 (hF n)
   have z0:∀n,(F n).cell? ⟨w.heap.size,0,none⟩=some (.slice (some ⟨b,off,none⟩) g.nr rc):=fun n=>ug x0 (hF n)
   have z1:∀n,(F n).cell? ⟨w.heap.size+1,0,none⟩=some (.slice (some ⟨b',off',none⟩) g.nr rc'):=fun n=>ug y0 (hF n)
   have HC:Hid (∃n,wr.drew=F n):=hF' _ (Below.refl _ wr).drew;have HF:Hid (∀n,Below wr.heap.size wr (F n)):=hF;have HF':Hid (∀W,Below wr.heap.size wr W→∃n,W=F n):=hF';clear hF hF' h1 h2 hbel hs1 hs2 hb1 hb2;go_wp2_with fail;refine uI F (by kernel_rfl) (by kernel_rfl) HC.out ?_
   repeat (go_big_quiet_step (first|(go_at_call 25;exact jh (HF.out _) HF'.out (yN trivial) (uad Q Q' na na' (g.rule k).nl nc nc' (g.rule k).name _ (HS1.out.later (HF.out _)) (HS2.out.later (HF.out _)) HSN.out.name))|(go_at_call 26;exact jh (HF.out _) HF'.out (yN trivial) (ubb Q Q' ba ba' (g.rule k).bl bc bc' (g.rule k).body _ (HB1.out.later (HF.out _)) (HB2.out.later (HF.out _)) HSN.out.body.1 HSN.out.body.2))))
   refine wpQuiet_nil ?_;rintro _ ⟨nq,rfl⟩;go_wp2;go_roundw
   case rel=>exact⟨k+1,by omega,by go_num,uh HBE.out (HF.out nq)⟩
   case measure=>simp[intOf];omega
  ·obtain rfl:k=g.nr:=by omega
   have HBE:Hid (Below W0.heap.size W0 wr):=hbel;clear hbel;go_wp2;go_loopw [6] (fun i wr=>∃k:Nat,k≤g.nb∧i=.int .i64 k∧Below W0.heap.size W0 wr) (fun i _=>g.nb-(intOf i).toNat)
   case atStart=>exact⟨0,Nat.zero_le _,rfl,HBE.out⟩
   case round =>
    clear x0 x1 y0 y1 HBE;obtain⟨j,hj,rfl,hbel⟩:=hrel;obtain⟨x0,x1,y0,y1⟩:=X.out wr hbel;by_cases hlt:j<g.nb
    ·have h1:=H1.out.labs.later hbel
     rcases h1 with h0 | ⟨b,off,rfl,hq,h1⟩
     ·omega
     have h2:=H2.out.labs.later hbel;rcases h2 with h0 | ⟨b',off',rfl,hq',h2⟩
     ·omega
     obtain⟨⟨na,nc,c0,hs1⟩,c1,⟨ba,bc,c2,hb1⟩⟩:=h1 j hlt;obtain⟨⟨na',nc',e0,hs2⟩,e1,⟨ba',bc',e2,hb2⟩⟩:=h2 j hlt;have HS1:Hid (Ints Q .u8 wr na (g.lab j).nl (g.lab j).name):=hs1;have HS2:Hid (Ints Q' .u8 wr na' (g.lab j).nl (g.lab j).name):=hs2;have HB1:Hid (OpsA Q wr ba (g.lab j).bl (g.lab j).body):=hb1;have HB2:Hid (OpsA Q' wr ba' (g.lab j).bl (g.lab j).body):=hb2;have hlt':(j:Int)<(g.nb:Int):=by omega
     have HBE:Hid (Below W0.heap.size W0 wr):=hbel;have HSN:Hid (yL (g.lab j)):=HS.out.lab j hlt;have tb:((g.lab j).has != (g.lab j).has)=false:=by simp
     have y1':∀o,(wr.alloc o).cell? ⟨w.heap.size+1,1,none⟩=some (.slice (some ⟨b',off',none⟩) g.nb lc'):=fun o=>ug y1 (up wr o)
     have e0':∀o,(wr.alloc o).cell? ⟨b',off'+j*3,none⟩=some (.slice na' (g.lab j).nl nc'):=fun o=>ug e0 (up wr o)
     have e1':∀o,(wr.alloc o).cell? ⟨b',off'+j*3+1,none⟩=some (.bool (g.lab j).has):=fun o=>ug e1 (up wr o)
     have e2':∀o,(wr.alloc o).cell? ⟨b',off'+j*3+2,none⟩=some (.slice ba' (g.lab j).bl bc'):=fun o=>ug e2 (up wr o)
     clear h1 h2 hbel hs1 hs2 hb1 hb2;go_wp2_with (first
      | (go_at_call 25;refine (uad Q Q' na na' (g.lab j).nl nc nc' (g.lab j).name _ (HS1.out.later (yx wr _ _)) (HS2.out.later (yx wr _ _)) HSN.out.name).mono ?_;rintro e W ⟨⟨r,rfl,hr⟩,hb⟩;obtain rfl:r=true:=hr.2 trivial;have q0:=ug (a:=⟨wr.heap.size,2,none⟩) (v:=.slice ba (g.lab j).bl bc) (vp _ (cN wr.heap.size rfl rfl)) hb;have q1:=ug (a:=⟨wr.heap.size+1,2,none⟩) (v:=.slice ba' (g.lab j).bl bc') (cN (wr.heap.size+1) (by simp) rfl) hb;have q2:=ug (a:=⟨wr.heap.size,1,none⟩) (v:=.bool (g.lab j).has) (vp _ (cN wr.heap.size rfl rfl)) hb;have q3:=ug (a:=⟨wr.heap.size+1,1,none⟩) (v:=.bool (g.lab j).has) (cN (wr.heap.size+1) (by simp) rfl) hb;have HB:Hid _:=hb;clear hr hb)
      | (go_at_call 26;refine (ubb Q Q' ba ba' (g.lab j).bl bc bc' (g.lab j).body _ (HB1.out.later (uh (yx wr _ _) HB.out)) (HB2.out.later (uh (yx wr _ _) HB.out)) HSN.out.body.1 HSN.out.body.2).mono ?_;rintro e W2 ⟨⟨r,rfl,hr⟩,hb⟩;obtain rfl:r=true:=hr.2 trivial;have HB':Hid _:=hb;clear hr hb))
     go_roundw
     case rel=>exact⟨j+1,by omega,by go_num,uh HBE.out (uh (yx wr _ _) (uh HB.out HB'.out))⟩
     case measure=>simp[intOf];omega
    ·obtain rfl:j=g.nb:=by omega
     have HBE:Hid (Below W0.heap.size W0 wr):=hbel;clear hbel;go_wp2;go_ret;exact⟨⟨true,rfl,yN trivial⟩,uh HB0.out HBE.out⟩
end
end Go.Proofs.YthicmmhmmfhncaaGreat
