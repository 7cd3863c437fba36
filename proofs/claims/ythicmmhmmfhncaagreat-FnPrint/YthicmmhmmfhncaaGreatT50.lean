import Derived.Test.YthicmmhmmfhncaaGreatT45
import Derived.Deep.RegionWith
import Derived.Test.YthicmmhmmfhncaaGreatT05
import Derived.Test.YthicmmhmmfhncaaGreatT01
import Derived.Test.YthicmmhmmfhncaaGreatT36
import Derived.Test.YthicmmhmmfhncaaGreatT39
set_option linter.unusedVariables false
set_option linter.unusedSimpArgs false
namespace Go.Proofs.YthicmmhmmfhncaaGreat
section
open Go.RowKit
open M (OpD uj Gr TX uq xP uO vS yV b1 grp)
def xL(s:ByteArray)(w:World)(e:Ending)(w':World):Prop:=e=.returned (.string s)∧Below w.heap.size w w'
theorem uoh{q:Int}(h:0≤q∧q≤15)(w:World):(Instr.slice 9 (.string unT) (some (.int .i64 q)) (some (.int .i64 (q+1))) none).run Tryz.prog w=.ok (.string (b1 (xP q))) w:=by
 rcases ufc h with h | h | h | h | h | h | h | h | h | h | h | h | h | h | h | h<;>subst h<;>kernel_rfl
set_option maxHeartbeats 4000000 in
theorem qU(q:Int)(w:World)(h:0≤q∧q≤15):Calls Tryz.prog 85 #[.int .i64 q] w (xL (b1 (xP q)) w):=by
 have hx:=uoh h;unfold unT at hx;have h1:=h.1;have h2:=h.2;clear h;go_enter Tryz.func85,Tryz.ntmps85;go_wp2;go_ret;exact⟨rfl,Below.refl _ _⟩
theorem ueh(w:World)(z:Int)(h:0≤z∧z≤255):(convert 22 9 (.slice (some ⟨w.heap.size,0,none⟩) 1 1)).run Tryz.prog (w.alloc (.cells #[.int .u8 z] 5))=.ok (.string (b1 (UInt8.ofNat z.toNat))) (w.alloc (.cells #[.int .u8 z] 5)):=by
 have hI:Ints (fun _=>True) .u8 (w.alloc (.cells #[.int .u8 z] 5)) (some ⟨w.heap.size,0,none⟩) 1 (fun _=>z):=.inr ⟨w.heap.size,0,rfl,trivial,fun i hi=>by
  obtain rfl:i=0:=by omega
  exact cN w.heap.size rfl rfl⟩
 rw[vZ (fun _=>True) _ 1 1 (fun _=>z) _ hI]
 have e:str 1 (fun _=>z)=b1 (UInt8.ofNat z.toNat):=by
  apply ByteArray.ext
  apply Array.toList_inj.1
  rw[yU];rfl
 rw[e]
set_option maxRecDepth 100000 in
set_option maxHeartbeats 8000000 in
theorem uX(b:Int)(w:World)(hb:0≤b∧b≤255):Calls Tryz.prog 66 #[.int .i64 b] w (xL (uq b) w):=by
 have hb0:=hb.1;have hb1:=hb.2;have HBB:Hid (0≤b∧b≤255):=hb;clear hb;have hcv:=ueh w b HBB.out;have hw8:=uos HBB.out;by_cases e10:b=10
 ·subst e10
  go_enter Tryz.func66,Tryz.ntmps66;go_wp2;go_ret;exact⟨rfl,Below.refl _ _⟩
 by_cases e9:b=9
 ·subst e9
  go_enter Tryz.func66,Tryz.ntmps66;go_wp2;go_ret;exact⟨rfl,Below.refl _ _⟩
 by_cases e13:b=13
 ·subst e13
  go_enter Tryz.func66,Tryz.ntmps66;go_wp2;go_ret;exact⟨rfl,Below.refl _ _⟩
 have f10:(b==10)=false:=by simp[e10]
 have f9:(b==9)=false:=by simp[e9]
 have f13:(b==13)=false:=by simp[e13]
 by_cases e6:b=92∨b=34∨b=91∨b=93∨b=45∨b=94
 ·clear hcv hw8
  rcases e6 with rfl | rfl | rfl | rfl | rfl | rfl
  ·have hcv:(convert 22 9 (.slice (some ⟨w.heap.size,0,none⟩) 1 1)).run Tryz.prog (w.alloc (.cells #[.int .u8 92] 5))=.ok (.string ⟨#[92]⟩) (w.alloc (.cells #[.int .u8 92] 5)):=ueh w 92 ⟨by omega,by omega⟩
   go_enter Tryz.func66,Tryz.ntmps66;go_wp2;go_ret;exact⟨rfl,up w _⟩
  ·have hcv:(convert 22 9 (.slice (some ⟨w.heap.size,0,none⟩) 1 1)).run Tryz.prog (w.alloc (.cells #[.int .u8 34] 5))=.ok (.string ⟨#[34]⟩) (w.alloc (.cells #[.int .u8 34] 5)):=ueh w 34 ⟨by omega,by omega⟩
   go_enter Tryz.func66,Tryz.ntmps66;go_wp2;go_ret;exact⟨rfl,up w _⟩
  ·have hcv:(convert 22 9 (.slice (some ⟨w.heap.size,0,none⟩) 1 1)).run Tryz.prog (w.alloc (.cells #[.int .u8 91] 5))=.ok (.string ⟨#[91]⟩) (w.alloc (.cells #[.int .u8 91] 5)):=ueh w 91 ⟨by omega,by omega⟩
   go_enter Tryz.func66,Tryz.ntmps66;go_wp2;go_ret;exact⟨rfl,up w _⟩
  ·have hcv:(convert 22 9 (.slice (some ⟨w.heap.size,0,none⟩) 1 1)).run Tryz.prog (w.alloc (.cells #[.int .u8 93] 5))=.ok (.string ⟨#[93]⟩) (w.alloc (.cells #[.int .u8 93] 5)):=ueh w 93 ⟨by omega,by omega⟩
   go_enter Tryz.func66,Tryz.ntmps66;go_wp2;go_ret;exact⟨rfl,up w _⟩
  ·have hcv:(convert 22 9 (.slice (some ⟨w.heap.size,0,none⟩) 1 1)).run Tryz.prog (w.alloc (.cells #[.int .u8 45] 5))=.ok (.string ⟨#[45]⟩) (w.alloc (.cells #[.int .u8 45] 5)):=ueh w 45 ⟨by omega,by omega⟩
   go_enter Tryz.func66,Tryz.ntmps66;go_wp2;go_ret;exact⟨rfl,up w _⟩
  ·have hcv:(convert 22 9 (.slice (some ⟨w.heap.size,0,none⟩) 1 1)).run Tryz.prog (w.alloc (.cells #[.int .u8 94] 5))=.ok (.string ⟨#[94]⟩) (w.alloc (.cells #[.int .u8 94] 5)):=ueh w 94 ⟨by omega,by omega⟩
   go_enter Tryz.func66,Tryz.ntmps66;go_wp2;go_ret;exact⟨rfl,up w _⟩
 have n92:(b==92)=false:=by simp;exact fun q=>e6 (by omega)
 have n34:(b==34)=false:=by simp;exact fun q=>e6 (by omega)
 have n91:(b==91)=false:=by simp;exact fun q=>e6 (by omega)
 have n93:(b==93)=false:=by simp;exact fun q=>e6 (by omega)
 have n45:(b==45)=false:=by simp;exact fun q=>e6 (by omega)
 have n94:(b==94)=false:=by simp;exact fun q=>e6 (by omega)
 by_cases e7:32≤b∧b≤126
 ·have HT:Hid (uq b=b1 (UInt8.ofNat b.toNat)):=by
   show _=_;unfold uq;rw[if_neg e10,if_neg e9,if_neg e13,if_neg e6,if_pos e7];rfl
  have h7a:=e7.1;have h7b:=e7.2;rw[←HT.out]at hcv;generalize uq b=u at *;clear e10 e9 e13 e6 e7;go_enter Tryz.func66,Tryz.ntmps66;go_wp2;go_ret;exact⟨rfl,up w _⟩
 ·have HT:Hid (uq b=⟨#[92,120]⟩++b1 (xP (b / 16))++b1 (xP (b%16))):=by
   show _=_;unfold uq;rw[if_neg e10,if_neg e9,if_neg e13,if_neg e6,if_neg e7];rfl
  have hq:b.tdiv 16=b / 16:=Int.tdiv_eq_ediv_of_nonneg hb0;have hm:b.tmod 16=b%16:=Int.tmod_eq_emod_of_nonneg hb0;have hw1:IntKind.i64.wrap (b / 16)=b / 16:=by simp[IntKind.wrap,IntKind.bits,IntKind.signed];omega
  have hw2:IntKind.i64.wrap (b%16)=b%16:=by simp[IntKind.wrap,IntKind.bits,IntKind.signed];omega
  have HQ1:Hid (0≤b / 16∧b / 16≤15):=⟨by omega,by omega⟩
  have HQ2:Hid (0≤b%16∧b%16≤15):=⟨by omega,by omega⟩
  clear hcv hw8;generalize b / 16=q1 at *;generalize b%16=q2 at *;by_cases e8:32≤b
  ·have e8':¬b≤126:=fun q=>e7 ⟨e8,q⟩
   clear e10 e9 e13 e6 e7;go_enter Tryz.func66,Tryz.ntmps66;go_wp2_with (first|(go_at_call 85;refine (qU q1 _ HQ1.out).mono ?_;rintro e W1 ⟨rfl,hb1⟩;have B1:Hid (Below w.heap.size w W1):=hb1;clear hb1)|(go_at_call 85;refine (qU q2 _ HQ2.out).mono ?_;rintro e W2 ⟨rfl,hb2⟩;have B2:Hid (Below w.heap.size w W2):=uh B1.out hb2;clear hb2))
   go_ret;exact⟨by rw[HT.out];rfl,B2.out⟩
  ·clear e10 e9 e13 e6 e7
   go_enter Tryz.func66,Tryz.ntmps66;go_wp2_with (first|(go_at_call 85;refine (qU q1 _ HQ1.out).mono ?_;rintro e W1 ⟨rfl,hb1⟩;have B1:Hid (Below w.heap.size w W1):=hb1;clear hb1)|(go_at_call 85;refine (qU q2 _ HQ2.out).mono ?_;rintro e W2 ⟨rfl,hb2⟩;have B2:Hid (Below w.heap.size w W2):=uh B1.out hb2;clear hb2))
   go_ret;exact⟨by rw[HT.out];rfl,B2.out⟩
set_option maxHeartbeats 2000000 in
theorem yi(s:ByteArray)(c:Bool)(w:World)(hs:s.size≤16000000):Calls Tryz.prog 37 #[.string s,.bool c] w (xL (grp c s) w):=by
 have h1:¬9223372036854775807<1+s.size:=by omega
 have h2:¬9223372036854775807<1+s.size+1:=by omega
 cases c with
 |true =>
  go_enter Tryz.func37,Tryz.ntmps37;go_wp2;go_ret;exact⟨rfl,Below.refl _ _⟩
 |false =>
  go_enter Tryz.func37,Tryz.ntmps37;go_wp2;go_ret;exact⟨rfl,Below.refl _ _⟩
end
section
open Go.RowKit
open M (OpD uj Gr TX uq xP uO vS yV b1 grp)
def uoj(S:Nat→Int)(n:Nat)(w:World)(ov iv:Value)(wr:World):Prop :=
 ∃(k:Nat) (s:ByteArray),2*k≤n∧iv=.int .i64 ((2*k:Nat):Int)∧ov=.string s∧s=b1 91++vS S k∧Below w.heap.size w wr
set_option maxRecDepth 100000 in
set_option maxHeartbeats 8000000 in
theorem ueA(Qs:Nat→Prop)(a:Option Addr)(n c:Nat)(S:Nat→Int)(w:World)(hS:Ints Qs .i64 w a n S)(hC:M.Canon n S):Calls Tryz.prog 36 #[.slice a n c] w (xL (yV n S) w):=by
 have HS:Hid (Ints Qs .i64 w a n S):=hS;have HC:Hid (M.Canon n S):=hC;have hn:=M.canon_len hC;have hev:=hC.1;clear hS hC;by_cases eA:n=2∧S 0=0∧S 1=255
 ·obtain⟨rfl,h00,h11⟩:=eA
  have HT:Hid (yV 2 S=b1 46):=by show _=_;unfold yV;rw[if_pos ⟨rfl,h00,h11⟩]
  rcases HS.out with q | ⟨sb,so,rfl,hqs,hc⟩
  ·omega
  have c0:=hc 0 (by omega)
  have c1:=hc 1 (by omega)
  rw[h00]at c0;rw[h11]at c1;simp only[Nat.add_zero]at c0;clear hc hqs h00 h11;go_enter Tryz.func36,Tryz.ntmps36;go_wp2;go_ret;exact⟨by rw[HT.out];rfl,Below.refl _ _⟩
 have HNA:Hid (¬(n=2∧S 0=0∧S 1=255)):=eA;by_cases eB:n=2∧S 0=S 1
 ·obtain⟨rfl,h01⟩:=eB
  have HT:Hid (yV 2 S=b1 34++uq (S 0)++b1 34):=by show _=_;unfold yV;rw[if_neg HNA.out,if_pos ⟨rfl,h01⟩]
  have hbd:=(kO HC.out (k:=0) (by omega)).1
  have HBD:Hid (0≤S 0∧S 0≤255):=by show 0≤S 0∧S 0≤255;simpa using hbd
  have t1:=M.byteT_size (S 0);have f01:(S 0==S 1)=true:=by simp[h01]
  rcases HS.out with q | ⟨sb,so,rfl,hqs,hc⟩
  ·omega
  have c0:=hc 0 (by omega)
  have c1:=hc 1 (by omega)
  simp only[Nat.add_zero]at c0;have z1:¬9223372036854775807<1+(uq (S 0)).size:=by omega
  have z2:¬9223372036854775807<1+(uq (S 0)).size+1:=by omega
  clear hc hqs hbd eA;by_cases h00:S 0=0
  ·have f0:(S 0==0)=true:=by simp[h00]
   have f1:(S 1==255)=false:=by simp;omega
   clear h00 h01;go_enter Tryz.func36,Tryz.ntmps36;go_wp2;go_region;go_wp2_with (go_at_call 66;refine (uX (S 0) _ HBD.out).mono ?_;rintro e W2 ⟨rfl,hb⟩;have BW:Hid (Below w.heap.size w W2):=(Below.refl _ w).drew.trans hb;clear hb);go_ret;exact⟨by rw[HT.out];rfl,BW.out⟩
  ·have f0:(S 0==0)=false:=by simp[h00]
   clear h00 h01;go_enter Tryz.func36,Tryz.ntmps36;go_wp2;go_region;go_wp2_with (go_at_call 66;refine (uX (S 0) _ HBD.out).mono ?_;rintro e W2 ⟨rfl,hb⟩;have BW:Hid (Below w.heap.size w W2):=(Below.refl _ w).drew.trans hb;clear hb);go_ret;exact⟨by rw[HT.out];rfl,BW.out⟩
 have HT:Hid (yV n S=b1 91++vS S (n / 2)++b1 93):=by show _=_;unfold yV;rw[if_neg HNA.out,if_neg eB]
 have HNB:Hid (¬(n=2∧S 0=S 1)):=eB;by_cases hn0:n=0
 ·subst hn0
  clear HS;go_enter Tryz.func36,Tryz.ntmps36;go_wp2;go_region;go_wp2;go_loopw [3,4] (fun ov iv wr=>uoj S 0 w ov iv wr) (fun _ iv _=>0-(intOf iv).toNat)
  case atStart=>exact⟨0,b1 91,by omega,rfl,rfl,by rw[vS,ByteArray.append_empty],(Below.refl _ w).drew⟩
  case round =>
   obtain⟨k,s,hk,rfl,rfl,hs,hbel⟩:=hrel;obtain rfl:k=0:=by omega
   have HSS:Hid (s=b1 91++vS S 0):=hs;have HB:Hid (Below w.heap.size w wr):=hbel;have hsz:s.size≤2000:=by
    rw[hs,ByteArray.size_append,M.b1_size,vS,M.emp_size];omega
   have z1:¬9223372036854775807<s.size+1:=by omega
   clear hs hbel;go_wp2;go_ret;exact⟨by rw[HT.out,←HSS.out];rfl,HB.out⟩
 obtain⟨sb,so,rfl,hq0,hc0⟩:∃sb so,a=some ⟨sb,so,none⟩∧Qs sb∧∀i,i<n→w.cell? ⟨sb,so+i,none⟩=some (.int .i64 (S i)):=by
  rcases HS.out with q | q
  ·exact absurd q hn0
  ·exact q
 have x0:=hc0 0 (by omega)
 have x1:=hc0 1 (by omega)
 simp only[Nat.add_zero]at x0;clear hc0 hq0;have hcase:¬n=2∨(n=2∧¬S 0=0)∨(n=2∧S 0=0∧¬S 1=255):=by
  by_cases q:n=2
  ·by_cases q0:S 0=0
   ·exact .inr (.inr ⟨q,q0,fun q1=>HNA.out ⟨q,q0,q1⟩⟩)
   ·exact .inr (.inl ⟨q,q0⟩)
  ·exact .inl q
 have hcond:∃p0 p1 p2:Bool,((n:Int)==2)=p0∧(S 0==0)=p1∧(S 1==255)=p2∧(p0&&p1&&p2)=false∧(p0=true→(S 0==S 1)=false):=by
  refine⟨_,_,_,rfl,rfl,rfl,?_,fun q=>?_⟩
  ·rcases hcase with q | ⟨q,q0⟩|⟨q,q0,q1⟩
   ·have:((n:Int)==2)=false:=by simp;omega
    rw[this];rfl
   ·have:(S 0==0)=false:=by simp[q0]
    rw[this];simp
   ·have:(S 1==255)=false:=by simp[q1]
    rw[this];simp
  ·have hq:n=2:=by simp at q;omega
   simp;exact fun e=>HNB.out ⟨hq,e⟩
 obtain⟨p0,p1,p2,hp0,hp1,hp2,hp3,hp4⟩:=hcond;clear hcase eA eB;go_enter Tryz.func36,Tryz.ntmps36;cases p0 with
 |false =>
  clear hp1 hp2 hp3 hp4;go_wp2;go_region;go_wp2;go_loopw [3,4] (fun ov iv wr=>uoj S n w ov iv wr) (fun _ iv _=>n-(intOf iv).toNat)
  case atStart=>exact⟨0,b1 91,by omega,rfl,rfl,by rw[vS,ByteArray.append_empty],(Below.refl _ w).drew⟩
  case round =>
   obtain⟨k,s,hk,rfl,rfl,hs,hbel⟩:=hrel;have HSS:Hid (s=b1 91++vS S k):=hs;have HB:Hid (Below w.heap.size w wr):=hbel;have hsz:s.size≤2000:=by
    have h3:=M.midT_size S k;rw[hs,ByteArray.size_append,M.b1_size];omega
   clear hs hbel;by_cases hlt:2*k<n
   ·obtain⟨hb1,hb2⟩:=kO HC.out (k:=k) (by omega)
    have HB1:Hid (0≤S (2*k)∧S (2*k)≤255):=hb1;have HB2:Hid (0≤S (2*k+1)∧S (2*k+1)≤255):=hb2;have hle:S (2*k)≤S (2*k+1):=by
     have:=(M.pairs_canon S (n / 2)).2 (by have:=HC.out.2;intro i hi;exact this i (by omega)) k (by omega)
     exact this.2.1
    rcases HS.out with q | ⟨sb1,so1,hae,hqs,hc⟩
    ·omega
    cases hae
    have C0:Hid (w.cell? ⟨sb,so+2*k,none⟩=some (.int .i64 (S (2*k)))):=hc (2*k) hlt;have C1:Hid (w.cell? ⟨sb,so+(2*k+1),none⟩=some (.int .i64 (S (2*k+1)))):=hc (2*k+1) (by omega)
    have c0:=ug C0.out HB.out;have c1:=ug C1.out HB.out;have t1:=M.byteT_size (S (2*k));have t2:=M.byteT_size (S (2*k+1));have HMID:Hid (vS S (k+1)=vS S k++uO (S (2*k)) (S (2*k+1))):=rfl;have hdx2:2*k+1<n:=by omega
    have k0:=hb1.1;have k1:=hb1.2;have k2:=hb2.1;have k3:=hb2.2;clear hc hqs hb1 hb2;generalize S (2*k)=lo at *;generalize S (2*k+1)=hi at *;generalize hkk:2*k=kk at *;have HKK:Hid (2*k=kk):=hkk;clear hkk;have z1:¬9223372036854775807<s.size+(uq lo).size:=by omega
    go_wp2_with fail;refine (uX lo _ HB1.out).mono ?_;rintro e W2 ⟨rfl,hb⟩;have BW2:Hid (Below w.heap.size w W2):=uh HB.out hb;have d0:=ug C0.out BW2.out;have d1:=ug C1.out BW2.out;clear hb c0 c1;obtain⟨u,hu⟩:∃u,uq lo=u:=⟨_,rfl⟩;have HU:Hid (uq lo=u):=hu;rw[hu]at z1 t1 ⊢;clear hu;have hsu:(s++u).size≤2004:=by rw[ByteArray.size_append];omega
    by_cases hA:lo+1<hi
    ·have HP:Hid (uO lo hi=u++b1 45++uq hi):=by show _=_;unfold uO;rw[if_pos hA,if_pos (by omega),HU.out]
     have hA2:lo<hi:=by omega
     have z2:¬9223372036854775807<s.size+u.size+1:=by omega
     have z3:¬9223372036854775807<s.size+u.size+1+(uq hi).size:=by omega
     go_wp2;go_region;go_wp2;go_region;go_wp2_with (go_at_call 66;refine (uX hi _ HB2.out).mono ?_;rintro e W3 ⟨rfl,hb⟩;have BW3:Hid (Below w.heap.size w W3):=uh BW2.out.drew.drew hb;clear hb);go_roundw
     case rel=>exact⟨k+1,s++u++b1 45++uq hi,by have:=HKK.out;omega,by have:=HKK.out;first|go_num|(congr 1;omega),rfl,by rw[HSS.out,HMID.out,HP.out];simp only[ByteArray.append_assoc],BW3.out⟩
     case measure=>simp[intOf];omega
    ·by_cases hB:lo<hi
     ·have HP:Hid (uO lo hi=u++uq hi):=by show _=_;unfold uO;rw[if_neg hA,if_pos hB,ByteArray.append_empty,HU.out]
      have z3:¬9223372036854775807<s.size+u.size+(uq hi).size:=by omega
      go_wp2;go_region;go_wp2;go_region;go_wp2_with (go_at_call 66;refine (uX hi _ HB2.out).mono ?_;rintro e W3 ⟨rfl,hb⟩;have BW3:Hid (Below w.heap.size w W3):=uh BW2.out.drew.drew hb;clear hb);go_roundw
      case rel=>exact⟨k+1,s++u++uq hi,by have:=HKK.out;omega,by have:=HKK.out;first|go_num|(congr 1;omega),rfl,by rw[HSS.out,HMID.out,HP.out];simp only[ByteArray.append_assoc],BW3.out⟩
      case measure=>simp[intOf];omega
     ·have HP:Hid (uO lo hi=u):=by show _=_;unfold uO;rw[if_neg hA,if_neg hB,ByteArray.append_empty,ByteArray.append_empty,HU.out]
      go_wp2;go_region;go_wp2;go_region;go_wp2;go_roundw
      case rel=>exact⟨k+1,s++u,by have:=HKK.out;omega,by have:=HKK.out;first|go_num|(congr 1;omega),rfl,by rw[HSS.out,HMID.out,HP.out];simp only[ByteArray.append_assoc],BW2.out.drew.drew⟩
      case measure=>simp[intOf];omega
   ·have hkn:2*k=n:=by omega
    have HKN:Hid (k=n / 2):=by show _=_;omega
    have z1:¬9223372036854775807<s.size+1:=by omega
    clear hkn;go_wp2;go_ret;exact⟨by rw[HT.out,←HKN.out,←HSS.out];rfl,HB.out⟩
 |true =>
  have f01:=hp4 rfl;clear hp4;have hbits:(p1=false)∨(p1=true∧p2=false):=by
   cases p1 with
   |false=>exact .inl rfl
   |true=>exact .inr ⟨rfl,by simpa using hp3⟩
  clear hp3;rcases hbits with rfl | ⟨rfl,rfl⟩
  ·clear hp2
   go_wp2;go_region;go_wp2;go_loopw [3,4] (fun ov iv wr=>uoj S n w ov iv wr) (fun _ iv _=>n-(intOf iv).toNat)
   case atStart=>exact⟨0,b1 91,by omega,rfl,rfl,by rw[vS,ByteArray.append_empty],(Below.refl _ w).drew⟩
   case round =>
    obtain⟨k,s,hk,rfl,rfl,hs,hbel⟩:=hrel;have HSS:Hid (s=b1 91++vS S k):=hs;have HB:Hid (Below w.heap.size w wr):=hbel;have hsz:s.size≤2000:=by
     have h3:=M.midT_size S k;rw[hs,ByteArray.size_append,M.b1_size];omega
    clear hs hbel;by_cases hlt:2*k<n
    ·obtain⟨hb1,hb2⟩:=kO HC.out (k:=k) (by omega)
     have HB1:Hid (0≤S (2*k)∧S (2*k)≤255):=hb1;have HB2:Hid (0≤S (2*k+1)∧S (2*k+1)≤255):=hb2;have hle:S (2*k)≤S (2*k+1):=by
      have:=(M.pairs_canon S (n / 2)).2 (by have:=HC.out.2;intro i hi;exact this i (by omega)) k (by omega)
      exact this.2.1
     rcases HS.out with q | ⟨sb1,so1,hae,hqs,hc⟩
     ·omega
     cases hae
     have C0:Hid (w.cell? ⟨sb,so+2*k,none⟩=some (.int .i64 (S (2*k)))):=hc (2*k) hlt;have C1:Hid (w.cell? ⟨sb,so+(2*k+1),none⟩=some (.int .i64 (S (2*k+1)))):=hc (2*k+1) (by omega)
     have c0:=ug C0.out HB.out;have c1:=ug C1.out HB.out;have t1:=M.byteT_size (S (2*k));have t2:=M.byteT_size (S (2*k+1));have HMID:Hid (vS S (k+1)=vS S k++uO (S (2*k)) (S (2*k+1))):=rfl;have hdx2:2*k+1<n:=by omega
     have k0:=hb1.1;have k1:=hb1.2;have k2:=hb2.1;have k3:=hb2.2;clear hc hqs hb1 hb2;generalize S (2*k)=lo at *;generalize S (2*k+1)=hi at *;generalize hkk:2*k=kk at *;have HKK:Hid (2*k=kk):=hkk;clear hkk;have z1:¬9223372036854775807<s.size+(uq lo).size:=by omega
     go_wp2_with fail;refine (uX lo _ HB1.out).mono ?_;rintro e W2 ⟨rfl,hb⟩;have BW2:Hid (Below w.heap.size w W2):=uh HB.out hb;have d0:=ug C0.out BW2.out;have d1:=ug C1.out BW2.out;clear hb c0 c1;obtain⟨u,hu⟩:∃u,uq lo=u:=⟨_,rfl⟩;have HU:Hid (uq lo=u):=hu;rw[hu]at z1 t1 ⊢;clear hu;have hsu:(s++u).size≤2004:=by rw[ByteArray.size_append];omega
     by_cases hA:lo+1<hi
     ·have HP:Hid (uO lo hi=u++b1 45++uq hi):=by show _=_;unfold uO;rw[if_pos hA,if_pos (by omega),HU.out]
      have hA2:lo<hi:=by omega
      have z2:¬9223372036854775807<s.size+u.size+1:=by omega
      have z3:¬9223372036854775807<s.size+u.size+1+(uq hi).size:=by omega
      go_wp2;go_region;go_wp2;go_region;go_wp2_with (go_at_call 66;refine (uX hi _ HB2.out).mono ?_;rintro e W3 ⟨rfl,hb⟩;have BW3:Hid (Below w.heap.size w W3):=uh BW2.out.drew.drew hb;clear hb);go_roundw
      case rel=>exact⟨k+1,s++u++b1 45++uq hi,by have:=HKK.out;omega,by have:=HKK.out;first|go_num|(congr 1;omega),rfl,by rw[HSS.out,HMID.out,HP.out];simp only[ByteArray.append_assoc],BW3.out⟩
      case measure=>simp[intOf];omega
     ·by_cases hB:lo<hi
      ·have HP:Hid (uO lo hi=u++uq hi):=by show _=_;unfold uO;rw[if_neg hA,if_pos hB,ByteArray.append_empty,HU.out]
       have z3:¬9223372036854775807<s.size+u.size+(uq hi).size:=by omega
       go_wp2;go_region;go_wp2;go_region;go_wp2_with (go_at_call 66;refine (uX hi _ HB2.out).mono ?_;rintro e W3 ⟨rfl,hb⟩;have BW3:Hid (Below w.heap.size w W3):=uh BW2.out.drew.drew hb;clear hb);go_roundw
       case rel=>exact⟨k+1,s++u++uq hi,by have:=HKK.out;omega,by have:=HKK.out;first|go_num|(congr 1;omega),rfl,by rw[HSS.out,HMID.out,HP.out];simp only[ByteArray.append_assoc],BW3.out⟩
       case measure=>simp[intOf];omega
      ·have HP:Hid (uO lo hi=u):=by show _=_;unfold uO;rw[if_neg hA,if_neg hB,ByteArray.append_empty,ByteArray.append_empty,HU.out]
       go_wp2;go_region;go_wp2;go_region;go_wp2;go_roundw
       case rel=>exact⟨k+1,s++u,by have:=HKK.out;omega,by have:=HKK.out;first|go_num|(congr 1;omega),rfl,by rw[HSS.out,HMID.out,HP.out];simp only[ByteArray.append_assoc],BW2.out.drew.drew⟩
       case measure=>simp[intOf];omega
    ·have hkn:2*k=n:=by omega
     have HKN:Hid (k=n / 2):=by show _=_;omega
     have z1:¬9223372036854775807<s.size+1:=by omega
     clear hkn;go_wp2;go_ret;exact⟨by rw[HT.out,←HKN.out,←HSS.out];rfl,HB.out⟩
  ·go_wp2
   go_region;go_wp2;go_loopw [3,4] (fun ov iv wr=>uoj S n w ov iv wr) (fun _ iv _=>n-(intOf iv).toNat)
   case atStart=>exact⟨0,b1 91,by omega,rfl,rfl,by rw[vS,ByteArray.append_empty],(Below.refl _ w).drew⟩
   case round =>
    obtain⟨k,s,hk,rfl,rfl,hs,hbel⟩:=hrel;have HSS:Hid (s=b1 91++vS S k):=hs;have HB:Hid (Below w.heap.size w wr):=hbel;have hsz:s.size≤2000:=by
     have h3:=M.midT_size S k;rw[hs,ByteArray.size_append,M.b1_size];omega
    clear hs hbel;by_cases hlt:2*k<n
    ·obtain⟨hb1,hb2⟩:=kO HC.out (k:=k) (by omega)
     have HB1:Hid (0≤S (2*k)∧S (2*k)≤255):=hb1;have HB2:Hid (0≤S (2*k+1)∧S (2*k+1)≤255):=hb2;have hle:S (2*k)≤S (2*k+1):=by
      have:=(M.pairs_canon S (n / 2)).2 (by have:=HC.out.2;intro i hi;exact this i (by omega)) k (by omega)
      exact this.2.1
     rcases HS.out with q | ⟨sb1,so1,hae,hqs,hc⟩
     ·omega
     cases hae
     have C0:Hid (w.cell? ⟨sb,so+2*k,none⟩=some (.int .i64 (S (2*k)))):=hc (2*k) hlt;have C1:Hid (w.cell? ⟨sb,so+(2*k+1),none⟩=some (.int .i64 (S (2*k+1)))):=hc (2*k+1) (by omega)
     have c0:=ug C0.out HB.out;have c1:=ug C1.out HB.out;have t1:=M.byteT_size (S (2*k));have t2:=M.byteT_size (S (2*k+1));have HMID:Hid (vS S (k+1)=vS S k++uO (S (2*k)) (S (2*k+1))):=rfl;have hdx2:2*k+1<n:=by omega
     have k0:=hb1.1;have k1:=hb1.2;have k2:=hb2.1;have k3:=hb2.2;clear hc hqs hb1 hb2;generalize S (2*k)=lo at *;generalize S (2*k+1)=hi at *;generalize hkk:2*k=kk at *;have HKK:Hid (2*k=kk):=hkk;clear hkk;have z1:¬9223372036854775807<s.size+(uq lo).size:=by omega
     go_wp2_with fail;refine (uX lo _ HB1.out).mono ?_;rintro e W2 ⟨rfl,hb⟩;have BW2:Hid (Below w.heap.size w W2):=uh HB.out hb;have d0:=ug C0.out BW2.out;have d1:=ug C1.out BW2.out;clear hb c0 c1;obtain⟨u,hu⟩:∃u,uq lo=u:=⟨_,rfl⟩;have HU:Hid (uq lo=u):=hu;rw[hu]at z1 t1 ⊢;clear hu;have hsu:(s++u).size≤2004:=by rw[ByteArray.size_append];omega
     by_cases hA:lo+1<hi
     ·have HP:Hid (uO lo hi=u++b1 45++uq hi):=by show _=_;unfold uO;rw[if_pos hA,if_pos (by omega),HU.out]
      have hA2:lo<hi:=by omega
      have z2:¬9223372036854775807<s.size+u.size+1:=by omega
      have z3:¬9223372036854775807<s.size+u.size+1+(uq hi).size:=by omega
      go_wp2;go_region;go_wp2;go_region;go_wp2_with (go_at_call 66;refine (uX hi _ HB2.out).mono ?_;rintro e W3 ⟨rfl,hb⟩;have BW3:Hid (Below w.heap.size w W3):=uh BW2.out.drew.drew hb;clear hb);go_roundw
      case rel=>exact⟨k+1,s++u++b1 45++uq hi,by have:=HKK.out;omega,by have:=HKK.out;first|go_num|(congr 1;omega),rfl,by rw[HSS.out,HMID.out,HP.out];simp only[ByteArray.append_assoc],BW3.out⟩
      case measure=>simp[intOf];omega
     ·by_cases hB:lo<hi
      ·have HP:Hid (uO lo hi=u++uq hi):=by show _=_;unfold uO;rw[if_neg hA,if_pos hB,ByteArray.append_empty,HU.out]
       have z3:¬9223372036854775807<s.size+u.size+(uq hi).size:=by omega
       go_wp2;go_region;go_wp2;go_region;go_wp2_with (go_at_call 66;refine (uX hi _ HB2.out).mono ?_;rintro e W3 ⟨rfl,hb⟩;have BW3:Hid (Below w.heap.size w W3):=uh BW2.out.drew.drew hb;clear hb);go_roundw
       case rel=>exact⟨k+1,s++u++uq hi,by have:=HKK.out;omega,by have:=HKK.out;first|go_num|(congr 1;omega),rfl,by rw[HSS.out,HMID.out,HP.out];simp only[ByteArray.append_assoc],BW3.out⟩
       case measure=>simp[intOf];omega
      ·have HP:Hid (uO lo hi=u):=by show _=_;unfold uO;rw[if_neg hA,if_neg hB,ByteArray.append_empty,ByteArray.append_empty,HU.out]
       go_wp2;go_region;go_wp2;go_region;go_wp2;go_roundw
       case rel=>exact⟨k+1,s++u,by have:=HKK.out;omega,by have:=HKK.out;first|go_num|(congr 1;omega),rfl,by rw[HSS.out,HMID.out,HP.out];simp only[ByteArray.append_assoc],BW2.out.drew.drew⟩
       case measure=>simp[intOf];omega
    ·have hkn:2*k=n:=by omega
     have HKN:Hid (k=n / 2):=by show _=_;omega
     have z1:¬9223372036854775807<s.size+1:=by omega
     clear hkn;go_wp2;go_ret;exact⟨by rw[HT.out,←HKN.out,←HSS.out];rfl,HB.out⟩
end
section
open Go.RowKit
open M (OpD uj Gr)
theorem umQ(T:Nat→OpD)(i j:Nat)(h:i≤j):M.dep T i≤M.dep T j+(j-i:Nat):=by
 induction j with
 |zero =>
   have:i=0:=by omega
   subst this;simp
 |succ j ih =>
  by_cases e:i=j+1
  ·subst e;simp
  ·have:=ih (by omega)
   have hb:=M.ar_bd (T j).kind;rw[M.dep];omega
def upA(w:World)(T:Nat→OpD)(s e:Nat)(d i:Value)(wr:World):Prop :=
 ∃k:Nat,s≤k∧k≤e∧d=.int .i64 (1-M.dep T e+M.dep T k)∧i=.int .i64 (k:Int)∧wr=w
set_option maxHeartbeats 1000000 in
theorem ucK(b o n c:Nat)(T:Nat→OpD)(w:World)(Q:Nat→Prop)(hB:∀i,i<n→OpC Q w b (o+i*3) (T i))(hn:n≤1048576)(e s:Nat)(he:e≤n)(hs:s<e)
  (h1:M.dep T s+1=M.dep T e) (h2:∀j,s<j→j≤e→M.dep T e≤M.dep T j) :
  Calls Tryz.prog 38 #[.slice (some ⟨b,o,none⟩) n c,.int .i64 (e:Int)] w fun en w'=>en=.returned (.int .i64 (s:Int))∧w=w':=by
 have HB:Hid (∀i,i<n→OpC Q w b (o+i*3) (T i)):=hB;have H1:Hid (M.dep T s+1=M.dep T e):=h1;have H2:Hid (∀j,s<j→j≤e→M.dep T e≤M.dep T j):=h2;clear hB h1 h2;go_enter Tryz.func38,Tryz.ntmps38;go_wp2;go_loopw [5,6] (fun d i wr=>upA w T s e d i wr) (fun d i _=>(intOf i).toNat)
 case atStart=>exact⟨e,by omega,Nat.le_refl _,xq (by omega),rfl,rfl⟩
 case round =>
  obtain⟨k,hk,hke,rfl,rfl,rfl⟩:=hrel;by_cases hlt:s<k
  ·have hd:=H2.out k hlt hke
   have hd2:=umQ T k e hke;obtain⟨q,rfl⟩:∃q,k=q+1:=⟨k-1,by omega⟩
   obtain⟨c0,⟨sa,sc,c1,hss⟩,c2⟩:=HB.out q (by omega)
   have har:=M.ar_bd (T q).kind;have HST:Hid (M.dep T (q+1)=M.dep T q+(1-M.ar (T q).kind)):=rfl;clear hss;have x1:(0:Int)<((q+1:Nat):Int):=by omega
   have x2:(0:Int)<1-M.dep T e+M.dep T (q+1):=by omega
   have x3:((q+1:Nat):Int)-1=(q:Int):=by omega
   have x4:(q:Int)<n:=by omega
   go_wp2_with (go_at_call 65;refine (ucO _ _).mono ?_;rintro e W ⟨rfl,hw⟩;subst W);go_roundw
   case rel=>exact⟨q,by omega,by omega,xq (by have:=HST.out;omega),by first|rfl | go_num,by trivial⟩
   case measure=>simp[intOf]<;>omega
  ·obtain rfl:k=s:=by omega
   have x2:1-M.dep T e+M.dep T k=0:=by have:=H1.out;omega
   rw[x2];go_wp2;all_goals go_ret
   all_goals exact⟨rfl,rfl⟩
theorem xj(B:Nat→OpD)(lo j:Nat):M.dep (fun i=>B (lo+i)) j=M.dep B (lo+j)-M.dep B lo:=by
 induction j with
 |zero=>simp[M.dep]
 |succ j ih=>rw[M.dep,ih,show lo+(j+1)=lo+j+1 by omega,M.dep];omega
theorem uau(m:Nat)(h:m≤1048576):IntKind.i64.wrap (m:Int)=(m:Int):=by
 simp[IntKind.wrap,IntKind.bits,IntKind.signed];omega
end
section
open Go.RowKit
open M (OpD uj Gr)
theorem uoi(B:Nat→OpD)(n:Nat)(h:M.Fed B n)(hn:0<n):1≤M.dep B n:=by
 obtain⟨q,rfl⟩:∃q,n=q+1:=⟨n-1,by omega⟩
 have:=h q (by omega)
 rw[M.dep];omega
theorem ukM{α:Type}[Inhabited α](f:OpD→α→α→α)(B:Nat→OpD)(n:Nat)(h:M.Shape n B):M.stk f B n=(0,M.top (M.stk f B n))::M.stk f B 0:=by
 have hF:M.Fed B n:=h.1;have hl:=M.stk_len f B n hF;rw[h.2]at hl;match hs:M.stk f B n with
 | []=>rw[hs]at hl;simp at hl
 | [(s,x)] =>
  obtain⟨a1,a2,_⟩:=M.stk_cons f B n hF s x _ hs;have l2:=M.stk_len f B s (hF.less (by omega))
  rw[←a2]at l2;have:s=0:=by
   by_cases e:s=0
   ·exact e
   ·have:=uoi B s (hF.less (by omega)) (by omega)
    simp at l2;omega
  subst this;rfl
 |a::b::r=>rw[hs]at hl;simp at hl;omega
end
end Go.Proofs.YthicmmhmmfhncaaGreat
