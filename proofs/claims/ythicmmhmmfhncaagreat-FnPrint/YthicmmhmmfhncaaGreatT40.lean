import Derived.Test.YthicmmhmmfhncaaGreatT35
import Derived.Test.YthicmmhmmfhncaaGreatT30
import Derived.Test.YthicmmhmmfhncaaGreatT39
import Derived.Test.YthicmmhmmfhncaaGreatT38
set_option linter.unusedVariables false
set_option linter.unusedSimpArgs false
namespace Go.Proofs.YthicmmhmmfhncaaGreat
section
open Go.RowKit
open M (OpD uj Gr)
structure upN(rs cs:List GC):Prop where
 r:∀x∈rs,SmNL x.d
 c:∀x∈cs,SmNL x.d
 nr:rs.length≤1048576
 nc:cs.length≤1048576
def IPIs(t:Tx)(w:World)(e:Ending)(w':World):Prop :=
 ∃code at_ g G rv lv rs cs,PRs t code at_ g∧e=.returned (.tuple #[.agg #[rv,lv],.int .i64 code,.int .i64 at_])∧BG w G w' rv lv rs cs∧gram (rs.map (·.d)) (cs.map (·.d))=g∧Keep (fun _=>False) w w'∧upN rs cs
theorem ung(w w':World):BG w (fun _=>3) w' (.slice none 0 0) (.slice none 0 0) [] [] :=
 ⟨.inl ⟨rfl,rfl,rfl⟩,.inl ⟨rfl,rfl,rfl⟩,(fun i x hx=>by simp at hx),(fun i x hx=>by simp at hx),(fun i x hx=>by simp at hx),(fun i x hx=>by simp at hx),fun b hb=>absurd rfl hb⟩
theorem unh{t:Tx}{w w':World}{c p:Int}(h:PRs t c p kK)(k:Keep (fun _=>False) w w'):IPIs t w (.returned (.tuple #[.agg #[.slice none 0 0,.slice none 0 0],.int .i64 c,.int .i64 p])) w' :=
 ⟨c,p,kK,fun _=>3,_,_,[],[],h,rfl,ung w w',rfl,k,⟨(fun x hx=>by cases hx),(fun x hx=>by cases hx),Nat.zero_le _,Nat.zero_le _⟩⟩
theorem ujB{w X w':World}{c p:Int}(k:Keep (fun _=>False) w X)(h:udt w.heap.size (w.heap.size+1) (w.heap.size+2) c p X w'):Keep (fun _=>False) w w':=by
 have k2:=h.1;exact⟨k2.os.trans k.os,k2.tape.trans k.tape,k2.output.trans k.output,Nat.le_trans k.size k2.size,fun b hb hc=>(k2.block b (Nat.lt_of_lt_of_le hb k.size) (fun q=>by omega)).trans (k.block b hb hc)⟩
theorem jO{t:Tx}{w X:World}{c p:Int}{tmps:Array Value}{u0 u1 u2 u3:Value}(hP:PRs t c p kK)(hk:Keep (fun _=>False) w X)(hG:X.heap[w.heap.size]? = some (.cells #[u0,u1] 26))(hC:X.heap[w.heap.size+1]? = some (.cells #[u2] 3))(hA:X.heap[w.heap.size+2]? = some (.cells #[u3] 3))
  (hres:∀W:World,W.cell? ⟨w.heap.size,0,none⟩=some (.slice none 0 0)→W.cell? ⟨w.heap.size,1,none⟩=some (.slice none 0 0)→W.cell? ⟨w.heap.size+1,0,none⟩=some (.int .i64 c)→W.cell? ⟨w.heap.size+2,0,none⟩=some (.int .i64 p)→(results Tryz.f7 tmps).run Tryz.prog W=.ok (.tuple #[.agg #[.slice none 0 0,.slice none 0 0],.int .i64 c,.int .i64 p]) W) :
  Leaves Tryz.prog Tryz.f7 tmps (IPIs t w) [{ target:=.fn (.func 17) #[.pointer (some ⟨w.heap.size,0,none⟩),.pointer (some ⟨w.heap.size+1,0,none⟩),.pointer (some ⟨w.heap.size+2,0,none⟩)],args:=#[] }] (.panicking (flt c p)) X:=by
 refine leaves_cons (f:=17) (args:=#[.pointer (some ⟨w.heap.size,0,none⟩),.pointer (some ⟨w.heap.size+1,0,none⟩),.pointer (some ⟨w.heap.size+2,0,none⟩)]) (by simp) (by simp[go_sem]) ?_
 refine (uge w.heap.size (w.heap.size+1) (w.heap.size+2) c p X (by omega) (by omega) (by omega) (ud hG rfl) (ud hG rfl) (ud hC rfl) (ud hA rfl) (ut hG) (ut hG) (ut hC) (ut hA)).mono ?_
 rintro e u' w'' ⟨rfl,rfl,hCa⟩;exact⟨_,hres w'' hCa.2.1 hCa.2.2.1 hCa.2.2.2.1 hCa.2.2.2.2,unh hP (ujB hk hCa)⟩
set_option maxHeartbeats 2000000 in
set_option maxRecDepth 100000 in
theorem uhz(t:Tx)(a:Option Addr)(c:Nat)(w:World)(hT:Ints (fun b=>b<w.heap.size) .u8 w a t.n t.T)(hc:t.n≤c):Calls Tryz.prog 7 #[.slice a t.n c] w (IPIs t w):=by
 have hn:=t.le;have HT:Hid (Ints (fun b=>b<w.heap.size) .u8 w a t.n t.T):=hT
 have HC:Hid (t.n≤c):=hc;clear hT hc;have hmf:∀(fn:Fn) (first cap:Array Value) (w:World),(Instr.makeFunc fn first cap).run Tryz.prog w=.ok (.func fn first cap) w:=fun _ _ _ _=>rfl
 have HB0:Hid (∀X,Keep (fun _=>False) (((w.alloc (.cells #[.slice none 0 0,.slice none 0 0] 26)).alloc (.cells #[.int .i64 0] 3)).alloc (.cells #[.int .i64 0] 3)) X→X.heap[w.heap.size]? = some (.cells #[.slice none 0 0,.slice none 0 0] 26)∧X.heap[w.heap.size+1]? = some (.cells #[.int .i64 0] 3)∧X.heap[w.heap.size+2]? = some (.cells #[.int .i64 0] 3)):=fun X k=>by
  obtain⟨V0,e0⟩:∃V,V=w.alloc (.cells #[.slice none 0 0,.slice none 0 0] 26):=⟨_,rfl⟩;rw[←e0]at k;obtain⟨V1,e1⟩:∃V,V=V0.alloc (.cells #[.int .i64 0] 3):=⟨_,rfl⟩;rw[←e1]at k;obtain⟨V2,e2⟩:∃V,V=V1.alloc (.cells #[.int .i64 0] 3):=⟨_,rfl⟩;rw[←e2]at k;have s0:V0.heap.size=w.heap.size+1:=by rw[e0];simp
  have s1:V1.heap.size=w.heap.size+2:=by rw[e1];simp[s0]
  have s2:V2.heap.size=w.heap.size+3:=by rw[e2];simp[s1]
  have k1:Keep (fun _=>False) V0 V1:=by rw[e1];exact Keep.alloc _ _ _
  have k2:Keep (fun _=>False) V1 V2:=by rw[e2];exact Keep.alloc _ _ _
  have q0:V0.heap[w.heap.size]? = some (.cells #[.slice none 0 0,.slice none 0 0] 26):=by rw[e0];exact World.alloc_heap_new w _
  have q1:V1.heap[w.heap.size+1]? = some (.cells #[.int .i64 0] 3):=by rw[e1,←s0];exact World.alloc_heap_new V0 _
  have q2:V2.heap[w.heap.size+2]? = some (.cells #[.int .i64 0] 3):=by rw[e2,←s1];exact World.alloc_heap_new V1 _
  exact⟨(k.block _ (by omega) (fun z=>z)).trans ((k2.block _ (by omega) (fun z=>z)).trans ((k1.block _ (by omega) (fun z=>z)).trans q0)),(k.block _ (by omega) (fun z=>z)).trans ((k2.block _ (by omega) (fun z=>z)).trans q1),(k.block _ (by omega) (fun z=>z)).trans q2⟩
 by_cases hbig:4000<t.n
 ·have HP:Hid (PRs t 7 0 kK):=.inl ⟨hbig,rfl,rfl,rfl⟩
  have hbig':(4000:Int)<(t.n:Int):=by omega
  go_enter_defers Tryz.func7,Tryz.ntmps7;have HL:Hid (Keep (fun _=>False) w (((w.alloc (.cells #[.slice none 0 0,.slice none 0 0] 26)).alloc (.cells #[.int .i64 0] 3)).alloc (.cells #[.int .i64 0] 3))):=((Keep.alloc _ _ _).trans (Keep.alloc _ _ _)).trans (Keep.alloc _ _ _)
  go_wp2;refine jO HP.out HL.out (HB0.out _ (Keep.refl _ _)).1 (HB0.out _ (Keep.refl _ _)).2.1 (HB0.out _ (Keep.refl _ _)).2.2 ?_;intro W g0 g1 c0 a0;simp[results,Tryz.f7,go_sem,g0,g1,c0,a0]
 ·have hn4:t.n≤4000:=by omega
  have hbig':¬((4000:Int)<(t.n:Int)):=by omega
  obtain⟨V,hV⟩:∃V,V=((w.alloc (.cells #[.slice none 0 0,.slice none 0 0] 26)).alloc (.cells #[.int .i64 0] 3)).alloc (.cells #[.int .i64 0] 3):=⟨_,rfl⟩;have sV:V.heap.size=w.heap.size+3:=by rw[hV];simp
  have kV:Keep (fun _=>False) w V:=by rw[hV];exact ((Keep.alloc _ _ _).trans (Keep.alloc _ _ _)).trans (Keep.alloc _ _ _)
  have HKV:Hid (Keep (fun _=>False) w V):=kV
  have HSV:Hid (V.heap.size=w.heap.size+3):=sV;rw[←hV]at HB0;obtain⟨r0,hr0⟩:∃r:Rv,r=⟨a,c,.int .u8 0,.int .i64 0,.string ⟨#[]⟩,.slice none 0 0,.slice none 0 0,.slice none 0 0,.slice none 0 0⟩:=⟨_,rfl⟩;have HRB:Hid (RB (w.heap.size+3) t r0 0 (V.alloc (.cells #[.slice a t.n c,.int .i64 0,.int .u8 0,.int .i64 0,.string ⟨#[]⟩,.slice none 0 0,.slice none 0 0,.slice none 0 0,.slice none 0 0] 55))):=by
   have:=World.alloc_heap_new V (.cells #[.slice a t.n c,.int .i64 0,.int .u8 0,.int .i64 0,.string ⟨#[]⟩,.slice none 0 0,.slice none 0 0,.slice none 0 0,.slice none 0 0] 55);rw[sV]at this;rw[hr0];exact this
  have kA:Keep (fun _=>False) V (V.alloc (.cells #[.slice a t.n c,.int .i64 0,.int .u8 0,.int .i64 0,.string ⟨#[]⟩,.slice none 0 0,.slice none 0 0,.slice none 0 0,.slice none 0 0] 55)):=Keep.alloc _ _ _
  have HCA:Hid (Calls Tryz.prog 18 #[.pointer (some ⟨w.heap.size+3,0,none⟩)] (V.alloc (.cells #[.slice a t.n c,.int .i64 0,.int .u8 0,.int .i64 0,.string ⟨#[]⟩,.slice none 0 0,.slice none 0 0,.slice none 0 0,.slice none 0 0] 55)) (uf4 (w.heap.size+3) t r0 (V.alloc (.cells #[.slice a t.n c,.int .i64 0,.int .u8 0,.int .i64 0,.string ⟨#[]⟩,.slice none 0 0,.slice none 0 0,.slice none 0 0,.slice none 0 0] 55)))) :=
   uf6 (w.heap.size+3) t r0 _ HRB.out (by rw[hr0]) (by rw[hr0]) (by rw[hr0]) (by
    rw[hr0];refine vu (xf HT.out (fun b q=>(kA.block b (by have:=kV.size;omega) (fun z=>z)).trans (kV.block b q (fun z=>z)))) (fun b q=>⟨by have:=kA.size;omega,by omega⟩)) (by rw[hr0];exact HC.out) hn4
  have HKA:Hid (∀X,Keep (fun b=>b=w.heap.size+3) (V.alloc (.cells #[.slice a t.n c,.int .i64 0,.int .u8 0,.int .i64 0,.string ⟨#[]⟩,.slice none 0 0,.slice none 0 0,.slice none 0 0,.slice none 0 0] 55)) X→Keep (fun _=>False) V X):=fun X k=>⟨k.os.trans kA.os,k.tape.trans kA.tape,k.output.trans kA.output,Nat.le_trans kA.size k.size,fun b hb hc=>(k.block b (Nat.lt_of_lt_of_le hb kA.size) (by show ¬b=w.heap.size+3;omega)).trans (kA.block b hb hc)⟩
  have HSA:Hid ((V.alloc (.cells #[.slice a t.n c,.int .i64 0,.int .u8 0,.int .i64 0,.string ⟨#[]⟩,.slice none 0 0,.slice none 0 0,.slice none 0 0,.slice none 0 0] 55)).heap.size=w.heap.size+4):=by
   have:(V.alloc (.cells #[.slice a t.n c,.int .i64 0,.int .u8 0,.int .i64 0,.string ⟨#[]⟩,.slice none 0 0,.slice none 0 0,.slice none 0 0,.slice none 0 0] 55)).heap.size=V.heap.size+1:=by simp
   show _=_;rw[this,sV]
  rw[hV]at HCA HKA HSA;clear kV kA sV hr0 HRB HT HC;go_enter_defers Tryz.func7,Tryz.ntmps7;go_wp2_with fail;simp only[Nat.add_assoc,Nat.reduceAdd];refine HCA.out.mono ?_;rintro e W1 ⟨hk1,⟨qs,v,v6,v7,v8,k,sa,sc,i,A,B,N,D,T,hrd,rfl,hD,hnew⟩|⟨p,rfl,hrd⟩⟩
  ·obtain⟨hok,htk,_⟩:=(ue7 t.n _ _ (Nat.lt_succ_self _)).2 qs hrd
   have HKX:Hid (Keep (fun _=>False) V W1):=by
    have h:=HKA.out W1 hk1;rw[←hV]at h;exact h
   have HOK:Hid (∀q∈qs,q.ok):=hok;have HTK:Hid (uQ t=qs.flatMap Rl.tk):=htk;have HRD:Hid (vQ t.n ((uQ t).length+1) (uQ t)=.inr qs):=hrd;have HNW:Hid (∀b,(A b∨B b∨N b∨D b∨T b)→w.heap.size+4≤b∧b<W1.heap.size):=fun b q=>by
    have h:=hnew b q;exact⟨by have h1:=h.1;rw[HSA.out]at h1;exact h1,h.2⟩
   have HD:Hid (DS (w.heap.size+3) t { r0 with v6:=v6,v7:=v7,v8:=v8 } k sa sc i [] qs A B N D T W1):=hD
   have HCF:Hid (Calls Tryz.prog 20 #[.pointer (some ⟨w.heap.size+3,0,none⟩)] W1 (ujx t.n qs W1)):=uer (w.heap.size+3) t _ k sa sc i qs A B N D T W1 hD (uhF htk hn4) (uoY htk hn4) (ulF htk hn4) (by have:=ulE htk hn4;omega)
   clear hrd hD hnew hk1 hok htk HCA HKA HSA;go_wp2_with fail;refine HCF.out.mono ?_;clear HCF;rintro e W2 ⟨hk2,⟨p,rfl,hbad⟩|⟨hdup,href,hne,b1,b2,ls,rfl,hn1,hn2,hne12,hM1,hM2,hA,hmem⟩⟩
   ·have HP:Hid (PRs t 6 (p:Nat) kK):=uhG hn4 HTK.out HOK.out HRD.out hbad
    have HKY:Hid (Keep (fun _=>False) V W2):=HKX.out.trans hk2
    clear hk2 hbad HD;go_wp2;refine jO HP.out (HKV.out.trans HKY.out) (HB0.out _ HKY.out).1 (HB0.out _ HKY.out).2.1 (HB0.out _ HKY.out).2.2 ?_;intro W g0 g1 c0 a0;simp[results,Tryz.f7,go_sem,g0,g1,c0,a0]
   ·have HTX:Hid (TxH t.n qs ls):=⟨HOK.out,udA HTK.out,hdup,href,hne,hA,hmem⟩
    have HKY:Hid (Keep (fun _=>False) V W2):=HKX.out.trans hk2
    have HLL:Hid (ls.length≤1000000):=hM2.len;have HCB:Hid (Calls Tryz.prog 19 #[.pointer (some ⟨w.heap.size+3,0,none⟩),.agg #[.map (some b1),.map (some b2)]] W2 (uoG qs ls T w W2)) :=
     uht (w.heap.size+3) t _ k sa sc i qs A B N D T W2 w (HD.out.kept hk2) (fun b q=>by have:=(HNW.out b (.inr (.inr (.inr (.inr q))))).1;omega) (Nat.le_trans HKV.out.size HKY.out.size) b1 b2 ls ⟨hM1,hM2⟩ (fun q=>by have:=(HD.out.ta _ q).1;have:=hn1.1;omega) (fun q=>by have:=(HD.out.ta _ q).1;have:=hn2.1;omega) (HTX.out.buH HTK.out hn4)
    clear hdup href hne hA hmem hn1 hn2 hne12 hM1 hM2 hk2 HD;go_wp2_with fail;refine HCB.out.mono ?_;clear HCB;rintro e W3 ⟨G,rv,lv,rs,cs,rfl,hBG,hr,hl,hk3,hown⟩;obtain⟨ra,rc,hrv⟩:=um hBG.rules;obtain⟨la,lc,hlv⟩:=um hBG.labs;subst hrv hlv;have hVs:=HSV.out;have hYs:=HKY.out.size;have hTT:∀b,T b→w.heap.size+4≤b:=fun b q=>(HNW.out b (.inr (.inr (.inr (.inr q))))).1
    have bG:=(hk3.block w.heap.size (by omega) (fun q=>by have:=hTT _ q;omega)).trans (HB0.out _ HKY.out).1
    have bC:=(hk3.block (w.heap.size+1) (by omega) (fun q=>by have:=hTT _ q;omega)).trans (HB0.out _ HKY.out).2.1
    have bA:=(hk3.block (w.heap.size+2) (by omega) (fun q=>by have:=hTT _ q;omega)).trans (HB0.out _ HKY.out).2.2
    have hK3:Keep (fun _=>False) w W3:=by
     have k0:=HKV.out.trans HKY.out;exact⟨hk3.os.trans k0.os,hk3.tape.trans k0.tape,hk3.output.trans k0.output,Nat.le_trans k0.size hk3.size,fun b hb hc=>(hk3.block b (Nat.lt_of_lt_of_le hb k0.size) (fun q=>by have:=hTT _ q;omega)).trans (k0.block b hb hc)⟩
    have g3:∀b,b<w.heap.size+3→G b=3:=fun b hb=>by
     by_cases e:G b=3
     ·exact e
     ·rcases hown b e with q | q
      ·have:=hTT b q;omega
      ·omega
    have hGr:gram (rs.map (·.d)) (cs.map (·.d))=uT ls qs:=by rw[hr,hl];rfl
    have hnr:(uT ls qs).nr=rs.length:=by rw[←hGr];show (rs.map (·.d)).length=_;rw[List.length_map]
    have hnb:(uT ls qs).nb=cs.length:=by rw[←hGr];show (cs.map (·.d)).length=_;rw[List.length_map]
    have HSM:Hid (upN rs cs):=by
     have hm:∀x∈rs,x.d∈uP (ue qs) ls qs:=fun x hx=>by rw[←hr];exact List.mem_map.2 ⟨x,hx,rfl⟩
     have hm2:∀x∈cs,x.d∈uS (ue qs) ls qs:=fun x hx=>by rw[←hl];exact List.mem_map.2 ⟨x,hx,rfl⟩
     have l1:=congrArg List.length hr;have l2:=congrArg List.length hl;rw[List.length_map]at l1 l2;refine⟨fun x hx=>HTX.out.smR HTK.out hn4 _ (hm x hx),fun x hx=>HTX.out.smL HTK.out hn4 _ (hm2 x hx),by rw[l1];exact TxH.nr HTK.out hn4,?_⟩
     rw[l2];unfold uS;rw[List.length_map];have:=HLL.out;omega
    have c0:W3.cell? ⟨w.heap.size,0,none⟩=some (.slice none 0 0):=ud bG rfl;have c1:W3.cell? ⟨w.heap.size,1,none⟩=some (.slice none 0 0):=ud bG rfl;have f0:W3.frozen? ⟨w.heap.size,0,none⟩=false:=ut bG;have f1:W3.frozen? ⟨w.heap.size,1,none⟩=false:=ut bG;have l0:=ub c0;obtain⟨W4,hW4⟩:∃W4,W4=(W3.setCell ⟨w.heap.size,0,none⟩ (.slice ra rs.length rc)).setCell ⟨w.heap.size,1,none⟩ (.slice la cs.length lc):=⟨_,rfl⟩;have st4:∀b,b≠w.heap.size→W4.heap[b]? = W3.heap[b]?:=fun b hb=>by rw[hW4];exact (Below.heap_setCell _ _ _ _ hb).trans (Below.heap_setCell _ _ _ _ hb)
    have sz4:W4.heap.size=W3.heap.size:=by rw[hW4];simp only[ul]
    have bG4:W4.heap[w.heap.size]? = some (.cells #[.slice ra rs.length rc,.slice la cs.length lc] 26):=by
     rw[hW4];exact xp (.slice la cs.length lc) (xp (.slice ra rs.length rc) bG)
    have BG4:BG w G W4 (.slice ra rs.length rc) (.slice la cs.length lc) rs cs:=hBG.on (by omega) (fun b _ hg=>st4 b (fun e=>hg (g3 b (by omega)))) (fun _ _ _=>rfl) hBG.new
    have K4:Keep (fun _=>False) w W4:=⟨by rw[hW4];exact hK3.os,by rw[hW4];exact hK3.tape,by rw[hW4];exact hK3.output,by rw[sz4];exact hK3.size,fun b hb hc=>(st4 b (by omega)).trans (hK3.block b hb hc)⟩
    have HCO:Hid (Calls Tryz.prog 21 #[.agg #[.slice ra rs.length rc,.slice la cs.length lc]] W4 (yT (ud4 (uT ls qs)) W4)):=by
     obtain⟨ra',rc',la',lc',e1,e2,hX⟩:=BG4.grP.gram;rw[hGr]at hX;injection e1 with e1 _ _
     injection e2 with e2 _ _
     subst e1 e2;have h:=yD _ ra la rc lc (uT ls qs) W4 hX.plain (HTX.out.small HTK.out hn4 HLL.out);rw[hnr,hnb]at h;exact h
    have HF4:Hid (BG w G W4 (.slice ra rs.length rc) (.slice la cs.length lc) rs cs∧Keep (fun _=>False) w W4∧W4.heap[w.heap.size]? = some (.cells #[.slice ra rs.length rc,.slice la cs.length lc] 26)∧W4.heap[w.heap.size+1]? = some (.cells #[.int .i64 0] 3)∧W4.heap[w.heap.size+2]? = some (.cells #[.int .i64 0] 3)∧(∀b,b<w.heap.size+3→G b=3)∧gram (rs.map (·.d)) (cs.map (·.d))=uT ls qs):=⟨BG4,K4,bG4,(st4 _ (by omega)).trans bC,(st4 _ (by omega)).trans bA,g3,hGr⟩
    rw[hW4]at HCO;clear hBG hr hl hk3 hown hTT bG bC bA hK3 g3 hGr hnr hnb st4 sz4 bG4 BG4 K4 hVs hYs HB0;go_wp2_with fail;refine HCO.out.mono ?_;clear HCO;rintro e W5 ⟨⟨ov,rfl,hov⟩,hB5⟩;rw[←hW4]at hB5;have K5:Keep (fun _=>False) W4 W5:=YthicmmhmmfhncaaGreat.Below.kept hB5
    obtain⟨h41,h42,h43,h44,h45,h46,h47⟩:=HF4.out;have lG:=(Array.getElem?_eq_some_iff.1 h43).1;have lC:=(Array.getElem?_eq_some_iff.1 h44).1;have lA:=(Array.getElem?_eq_some_iff.1 h45).1;have b5G:=(K5.block _ lG (fun z=>z)).trans h43
    have b5C:=(K5.block _ lC (fun z=>z)).trans h44
    have b5A:=(K5.block _ lA (fun z=>z)).trans h45
    have HB5:Hid (W5.heap[w.heap.size]? = some (.cells #[.slice ra rs.length rc,.slice la cs.length lc] 26)∧W5.heap[w.heap.size+1]? = some (.cells #[.int .i64 0] 3)∧W5.heap[w.heap.size+2]? = some (.cells #[.int .i64 0] 3)):=⟨b5G,b5C,b5A⟩;have HK5:Hid (Keep (fun _=>False) w W5):=h42.trans K5
    have HG5:Hid (BG w G W5 (.slice ra rs.length rc) (.slice la cs.length lc) rs cs):=h41.keep K5 (fun b q=>q.elim)
    have HG3:Hid ((∀b,b<w.heap.size+3→G b=3)∧gram (rs.map (·.d)) (cs.map (·.d))=uT ls qs):=⟨h46,h47⟩
    have d0:W5.cell? ⟨w.heap.size,0,none⟩=some (.slice ra rs.length rc):=ud b5G rfl;have d1:W5.cell? ⟨w.heap.size,1,none⟩=some (.slice la cs.length lc):=ud b5G rfl;have d2:W5.cell? ⟨w.heap.size+1,0,none⟩=some (.int .i64 0):=ud b5C rfl;have d3:W5.cell? ⟨w.heap.size+2,0,none⟩=some (.int .i64 0):=ud b5A rfl;have e0:W5.frozen? ⟨w.heap.size,0,none⟩=false:=ut b5G;have e1:W5.frozen? ⟨w.heap.size,1,none⟩=false:=ut b5G;have e2:W5.frozen? ⟨w.heap.size+1,0,none⟩=false:=ut b5C;have e3:W5.frozen? ⟨w.heap.size+2,0,none⟩=false:=ut b5A;have ld0:w.heap.size<W5.heap.size:=ub d0;have ld2:w.heap.size+1<W5.heap.size:=ub d2;have ld3:w.heap.size+2<W5.heap.size:=ub d3;clear h41 h42 h43 h44 h45 h46 h47 lG lC lA b5G b5C b5A hB5 K5 HF4 c0 c1 f0 f1 l0;cases ov with
    |true =>
     have HP:Hid (PRs t 7 0 kK):=udB hn4 HTK.out HRD.out HTX.out (.inr ⟨fun q=>(HTX.out.valid.1 q) (hov.1 rfl),rfl,rfl,rfl⟩)
     clear hov;go_wp2;refine jO HP.out HK5.out HB5.out.1 HB5.out.2.1 HB5.out.2.2 ?_;intro W g0 g1 c0 a0;simp[results,Tryz.f7,go_sem,g0,g1,c0,a0]
    |false =>
     have HP:Hid (PRs t 0 0 (uT ls qs)):=udB hn4 HTK.out HRD.out HTX.out (.inl ⟨HTX.out.valid.2 (fun q=>absurd (hov.2 q) (by simp)),rfl,rfl,rfl⟩)
     clear hov;have HFI:Hid (∀w'',Keep (fun _=>False) ((((W5.setCell ⟨w.heap.size,0,none⟩ (.slice ra rs.length rc)).setCell ⟨w.heap.size,1,none⟩ (.slice la cs.length lc)).setCell ⟨w.heap.size+1,0,none⟩ (.int .i64 0)).setCell ⟨w.heap.size+2,0,none⟩ (.int .i64 0)) w''→w''.cell? ⟨w.heap.size,0,none⟩=some (.slice ra rs.length rc)∧w''.cell? ⟨w.heap.size,1,none⟩=some (.slice la cs.length lc)∧w''.cell? ⟨w.heap.size+1,0,none⟩=some (.int .i64 0)∧w''.cell? ⟨w.heap.size+2,0,none⟩=some (.int .i64 0)∧IPIs t w (.returned (.tuple #[.agg #[.slice ra rs.length rc,.slice la cs.length lc],.int .i64 0,.int .i64 0])) w''):=fun w'' k=>by
      obtain⟨W6,hW6⟩:∃W6,W6=(((W5.setCell ⟨w.heap.size,0,none⟩ (.slice ra rs.length rc)).setCell ⟨w.heap.size,1,none⟩ (.slice la cs.length lc)).setCell ⟨w.heap.size+1,0,none⟩ (.int .i64 0)).setCell ⟨w.heap.size+2,0,none⟩ (.int .i64 0):=⟨_,rfl⟩;rw[←hW6]at k;have sz6:W6.heap.size=W5.heap.size:=by rw[hW6];simp only[ul]
      have st6:∀b,b≠w.heap.size→b≠w.heap.size+1→b≠w.heap.size+2→W6.heap[b]? = W5.heap[b]?:=fun b h0 h1 h2=>by rw[hW6];exact (Below.heap_setCell _ _ _ _ h2).trans ((Below.heap_setCell _ _ _ _ h1).trans ((Below.heap_setCell _ _ _ _ h0).trans (Below.heap_setCell _ _ _ _ h0)))
      have n10:¬w.heap.size+1=w.heap.size:=by omega
      have n20:¬w.heap.size+2=w.heap.size:=by omega
      have n01:¬w.heap.size=w.heap.size+1:=by omega
      have n02:¬w.heap.size=w.heap.size+2:=by omega
      have n12:¬w.heap.size+1=w.heap.size+2:=by omega
      have n21:¬w.heap.size+2=w.heap.size+1:=by omega
      have x0:W6.cell? ⟨w.heap.size,0,none⟩=some (.slice ra rs.length rc):=by rw[hW6];simp[go_sem, *]
      have x1:W6.cell? ⟨w.heap.size,1,none⟩=some (.slice la cs.length lc):=by rw[hW6];simp[go_sem, *]
      have x2:W6.cell? ⟨w.heap.size+1,0,none⟩=some (.int .i64 0):=by rw[hW6];simp[go_sem, *]
      have x3:W6.cell? ⟨w.heap.size+2,0,none⟩=some (.int .i64 0):=by rw[hW6];simp[go_sem, *]
      have hsz:=k.size;have z0:=HK5.out.size;refine⟨(k.cell (p:=⟨w.heap.size,0,none⟩) (by show w.heap.size<_;omega) (fun z=>z)).trans x0,(k.cell (p:=⟨w.heap.size,1,none⟩) (by show w.heap.size<_;omega) (fun z=>z)).trans x1,(k.cell (p:=⟨w.heap.size+1,0,none⟩) (by show w.heap.size+1<_;omega) (fun z=>z)).trans x2,(k.cell (p:=⟨w.heap.size+2,0,none⟩) (by show w.heap.size+2<_;omega) (fun z=>z)).trans x3,0,0,uT ls qs,G,_,_,rs,cs,HP.out,rfl,?_,HG3.out.2,?_,HSM.out⟩
      ·exact HG5.out.on (by omega) (fun b hb hg=>(k.block b (by omega) (fun z=>z)).trans (st6 b (fun e=>hg (HG3.out.1 b (by omega))) (fun e=>hg (HG3.out.1 b (by omega))) (fun e=>hg (HG3.out.1 b (by omega))))) (fun _ _ _=>rfl) HG5.out.new
      ·have k5:=HK5.out
       exact⟨k.os.trans (by rw[hW6];exact k5.os),k.tape.trans (by rw[hW6];exact k5.tape),k.output.trans (by rw[hW6];exact k5.output),by omega,fun b hb hc=>(k.block b (by omega) (fun z=>z)).trans ((st6 b (by omega) (by omega) (by omega)).trans (k5.block b hb hc))⟩
     go_wp2;refine leaves_cons (f:=17) (args:=#[.pointer (some ⟨w.heap.size,0,none⟩),.pointer (some ⟨w.heap.size+1,0,none⟩),.pointer (some ⟨w.heap.size+2,0,none⟩)]) (by simp) (by simp[go_sem]) ?_
     refine (uhA w.heap.size (w.heap.size+1) (w.heap.size+2) _).mono ?_;rintro e u' w'' ⟨rfl,rfl,hk6⟩;obtain⟨g0,g1,c0,a0,hI⟩:=HFI.out w'' hk6;refine⟨_,?_,hI⟩;clear hI HFI hk6 HG5 HG3 HB5;simp[results,Tryz.f7,go_sem,g0,g1,c0,a0]
  ·have HP:Hid (PRs t 5 (p:Nat) kK):=.inr ⟨hn4,.inl ⟨p,hrd,rfl,rfl,rfl⟩⟩
   have HKX:Hid (Keep (fun _=>False) V W1):=by
    have h:=HKA.out W1 hk1;rw[←hV]at h;exact h
   clear hk1 hrd;go_wp2;refine jO HP.out (HKV.out.trans HKX.out) (HB0.out _ HKX.out).1 (HB0.out _ HKX.out).2.1 (HB0.out _ HKX.out).2.2 ?_;intro W g0 g1 c0 a0;simp[results,Tryz.f7,go_sem,g0,g1,c0,a0]
end
end Go.Proofs.YthicmmhmmfhncaaGreat
