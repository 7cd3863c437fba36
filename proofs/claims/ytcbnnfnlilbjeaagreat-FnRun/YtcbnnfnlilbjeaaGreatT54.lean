import Derived.Test.YtcbnnfnlilbjeaaGreatRows
import Derived.Test.YtcbnnfnlilbjeaaGreatT24
import Derived.Test.YtcbnnfnlilbjeaaGreatT32
import Derived.Test.YtcbnnfnlilbjeaaGreatT41
import Derived.Test.YtcbnnfnlilbjeaaGreatT42
import Derived.Test.YtcbnnfnlilbjeaaGreatT53
import Derived.WalkKit
import Derived.ProofKit
import Derived.OpenShut
import Derived.Deep.Slices
import Derived.Deep.Strs
import Derived.ShutString
import Derived.ChangeOld
import Derived.Deep.RegionWith
set_option linter.unusedVariables false
set_option linter.unusedSimpArgs false
namespace Go.Proofs.YtcbnnfnlilbjeaaGreat
section
open Go.RowKit
open M (OpD NodeD Gr InsD EX ins)
theorem nd_elem{g:Gr}(hV:M.Valid g){p:Nat}(hp:p<g.nr+g.nb):∀i,i<(nd g p).bl→M.ElemOK g.nr g.nb ((nd g p).body i):=by
 intro i hi;by_cases e:p<g.nr
 ·rw[nd_rule g e]at hi ⊢
  exact (hV.rb p e).1 i hi
 ·obtain⟨k,rfl⟩:∃k,p=g.nr+k:=⟨p-g.nr,by omega⟩
  rw[nd_lab]at hi ⊢;have hk:k<g.nb:=by omega
  cases hh:(g.lab k).has with
  |true=>exact (hV.lb k hk hh).1 i hi
  |false =>
   have:=hV.lz k hk hh;omega
theorem body_pos{nr nb n:Nat}{B:Nat→OpD}(h:M.BodyOK nr nb n B):0<n:=by
 by_cases e:n=0
 ·subst e
  have:=h.2.2;simp[M.dep]at this
 ·omega
theorem run_never{g:Gr}(hV:M.Valid g){il:Nat}{I:Nat→Int}{fuel most:Int}{t:MSt}(h:Ends (PL g (g.nr+g.nb)) (dat (progG g (g.nr+g.nb))) il I fuel most s0 t):t.code≠4:=by
 have hd:dat (progG g (g.nr+g.nb))=lget (progG g (g.nr+g.nb)):=by
  funext i
  unfold dat lget;rw[List.getD_eq_getElem?_getD]
 have hlen:PL g (g.nr+g.nb)=(progG g (g.nr+g.nb)).length:=(progG_len g _).symm;rw[hd,hlen]at h;have hP:=prog_prg (opG g) (trG g) (hasB g) (g.nr+g.nb) (fun k=>k<g.nr) (by have:=hV.r1;omega) (by
  have h1:=body_pos (hV.rb 0 hV.r1);simp[hasB,nd_rule g hV.r1,h1]) (fun k hk=>by
  have h1:=body_pos (hV.rb k hk);simp[hasB,nd_rule g hk,h1]) (fun p=>by
  unfold opG;split
  ·exact .inl rfl
  ·exact .inr rfl) (fun i hi _=>M.tree_below (nd_elem hV hi)) (fun i hi _=>tree_ref (nd_elem hV hi))
 exact never_bad hP h start_fine
theorem elem_sl{nr nb:Nat}{o:OpD}(h:M.ElemOK nr nb o):o.sl≤512:=by
 obtain⟨_,_,h1,h2,_⟩:=h;by_cases e:o.kind=1
 ·have:=canonLen (h1 e)
  omega
 ·have:=h2 e
  omega
theorem prog_512{g:Gr}(hV:M.Valid g)(k:Nat)(hk:k≤g.nr+g.nb):∀d,d∈progG g k→d.sl≤512:=by
 have hin:∀k a z:Int,(ins k a z).sl≤512:=fun k a z=>Nat.zero_le _
 induction k with
 |zero =>
  intro d hd;have hd':d=ins 6 0 (plc g 0)∨d=ins 12 0 0:=by simpa[progG,M.progC] using hd
  rcases hd' with rfl | rfl<;>exact hin _ _ _
 |succ k ih =>
  intro d hd;by_cases h:0<(nd g k).bl
  ·rw[progG_succ g k h]at hd
   simp only[List.mem_append,List.mem_singleton]at hd;rcases hd with (((q | q) | q) | q) | q
   ·exact ih (by omega) d q
   ·subst q
    unfold opG;split<;>exact hin _ _ _
   ·exact M.emit_setLe _ _ _ (M.tree_setLe (fun i hi=>elem_sl (nd_elem hV (by omega) i hi))) _ d q
   ·subst q;exact hin _ _ _
   ·subst q;exact hin _ _ _
  ·rw[progG_skip g k h]at hd
   exact ih (by omega) d hd
theorem ends_good{n:Nat}{R:Nat→InsD}{il:Nat}{I:Nat→Int}{fuel most:Int}{s t:MSt}(h:Ends n R il I fuel most s t):Good most s→(s.steps:Int)≤fuel→Good most t∧(t.steps:Int)≤fuel:=by
 induction h with
 |over _=>exact fun g k=>⟨g,k⟩
 |go hd _ ih=>exact fun g k=>ih (next_good g) (next_measure hd k).1
theorem run_fine{g:Gr}(hV:M.Valid g){il:Nat}{I:Nat→Int}{fuel most:Int}{o:OutD}(hf:0≤fuel∧fuel≤50000)(hm:0≤most∧most≤1000)(h:RunD (PL g (g.nr+g.nb)) (dat (progG g (g.nr+g.nb))) il I fuel most o):o.code≠4∧o.steps≤fuel:=by
 have hA:RArgs (PL g (g.nr+g.nb)) (dat (progG g (g.nr+g.nb))) fuel most:=⟨hf.1,hf.2,hm.1,hm.2,fun i hi=>by
  have hl:i<(progG g (g.nr+g.nb)).length:=by rw[progG_len];exact hi
  have e:dat (progG g (g.nr+g.nb)) i=(progG g (g.nr+g.nb))[i]:=by simp[dat,hl]
  rw[e];exact prog_512 hV _ (Nat.le_refl _) _ (List.getElem_mem hl)⟩
 rcases h with⟨_,t,he,rfl⟩|⟨q,_⟩
 ·have hn:=run_never hV he
  obtain⟨_,hs⟩:=ends_good he ⟨hA.m0,Nat.le_refl _,fun f hf=>by simp[s0]at hf,List.Pairwise.nil,fun f hf=>by simp[s0]at hf⟩ hA.f0
  unfold outOf;split
  ·rename_i hc
   refine⟨?_,?_⟩
   ·show t.code≠4
    exact hn
   ·show (0:Int)≤fuel
    exact hf.1
  ·exact⟨hn,hs⟩
 ·exact absurd hA q
def inpI(W:World)(v iv:Value)(wr:World):Prop :=
 ∃(k:Nat) (l:List Int),2≤k∧k≤40∧l.length≤k∧iv=.int .i64 (k:Int)∧(∀x∈l,0≤x∧x≤255)∧OwnC (New W wr) wr v 1 l.length (intVs .u8 (lf l) l.length)∧Keep (fun _=>False) W wr
theorem in_snoc(k:IntKind)(l:List Int)(x:Int):intVs k (lf l) l.length++[.int k x]=intVs k (lf (l++[x])) (l++[x]).length:=by
 rw[List.length_append];unfold intVs;rw[show l.length + [x].length=l.length+1 from rfl,List.range_succ,List.map_append]
 congr 1
 ·apply List.map_congr_left
  intro i hi;have:=List.mem_range.1 hi;rw[lf_left l [x] (by omega)]
 ·simp only[List.map_cons,List.map_nil]
  have:=lf_right l [x] 0;rw[Nat.add_zero]at this;rw[this];rfl
theorem in_step{W wr W5:World}{l:List Int}{v5:Value}{o:Obj}{k:Nat}{x:Int}(hk1:2≤k)(hk2:k<40)(hl:l.length≤k)(hx:0≤x∧x≤255)(hb:∀x∈l,0≤x∧x≤255)(hk:Keep (fun _=>False) W wr)(own:OwnC (fun b=>New W wr b∨(wr.alloc o).heap.size≤b) W5 v5 1 (l.length+1) (intVs .u8 (lf l) l.length++[.int .u8 x]))(g:Grew (New W wr) (wr.alloc o) W5):inpI W v5 (.int .i64 ((k+1:Nat):Int)) W5:=by
 have hlen:(l++[x]).length=l.length+1:=by simp
 refine⟨k+1,l++[x],by omega,by omega,by omega,rfl,fun y hy=>?_,?_,keep_new (hk.trans (Keep.alloc _ _ _)) g (fun b q=>q.1)⟩
 ·rcases List.mem_append.1 hy with q | q
  ·exact hb y q
  ·obtain rfl:=List.mem_singleton.1 q;exact hx
 ·rw[in_snoc]at own
  rw[hlen]at own ⊢;have zk:=hk.size;rcases own with⟨_,q,_⟩|⟨b,cap,e,hq,h3,h4,h5,h6⟩
  ·omega
  refine .inr ⟨b,cap,e,⟨?_,?_⟩,h3,h4,h5,h6⟩
  ·rcases hq with q | q
   ·exact q.1
   ·simp at q;omega
  ·have hl:0<(intVs .u8 (lf (l++[x])) (l.length+1)).length:=by rw[intVs_len];omega
   have h:=h5 0 hl;rw[List.getElem?_eq_getElem hl]at h;exact lt_of_cell h
theorem list_byt{l:List Int}(h:∀x∈l,0≤x∧x≤255):Byt l.length (lf l):=fun i hi=>by
 unfold lf;rw[List.getD_eq_getElem?_getD,List.getElem?_eq_getElem hi];exact h _ (List.getElem_mem hi)
set_option maxRecDepth 100000 in
set_option maxHeartbeats 16000000 in
theorem walkFR(Q Q':Nat→Prop)(a:Option Addr)(n c:Nat)(S:Nat→Int)(b:Option Addr)(m d:Nat)(T:Nat→Int)(w:World)(hI:Ints Q .u8 w a n S)(hB:Byt n S)(hc:n≤c)(hnil:a=none→n=0∧c=0)(hnm:n≤9223372036854775807)(hI':Ints Q' .u8 w b m T)(hB':Byt m T)(hmm:m≤9223372036854775807) :
  Calls Tryz.prog 3 #[.slice a n c,.slice b m d] w fun e w'=>e=.returned (.bool true)∧Below w.heap.size w w':=by
 have HI:Hid (Ints Q .u8 w a n S):=hI;have HI':Hid (Ints Q' .u8 w b m T):=hI';have HB':Hid (Byt m T):=hB';clear hI hI' hB';by_cases h1:1048576<n
 ·have h1':(1048576:Int)<(n:Int):=by omega
  go_enter Tryz.func3,Tryz.ntmps3;go_wp2;go_ret;exact⟨rfl,Below.refl _ _⟩
 have h1':¬(1048576:Int)<(n:Int):=by omega
 by_cases h2:1048576<m
 ·have h2':(1048576:Int)<(m:Int):=by omega
  go_enter Tryz.func3,Tryz.ntmps3;go_wp2;go_ret;exact⟨rfl,Below.refl _ _⟩
 have h2':¬(1048576:Int)<(m:Int):=by omega
 have hm2:m≤1048576:=by omega
 obtain⟨g,hg⟩:∃g,drawn (tpOf n S hB)=g:=⟨_,rfl⟩;have HSG:Hid (SmallG g):=hg▸drawn_small _;have HDR:Hid (∀W,Ints Q .u8 W a n S→Calls Tryz.prog 4 #[.slice a n c] W (DrawIs g W)):=fun W hW=>hg▸drawCompile_any Q a n c S W hW hB (by omega) hc hnil
 clear hg hB hnil h1 h2;go_enter Tryz.func3,Tryz.ntmps3;go_wp2_with fail;refine Calls.mono (HDR.out w HI.out) ?_;rintro e W1 ⟨ra,rc,la,lc,rfl,hX,hb1⟩;have HX1:Hid (GramX (New w W1) W1 ra la g):=hX;have HB1:Hid (Below w.heap.size w W1):=hb1;clear hX hb1;go_wp2_with fail;have hbx:=World.alloc_heap_new W1 (.cells #[.slice ra g.nr rc,.slice la g.nb lc] 26);have hbX:=bel1 W1 (.cells #[.slice ra g.nr rc,.slice la g.nb lc] 26);generalize W1.alloc (.cells #[.slice ra g.nr rc,.slice la g.nb lc] 26)=X1 at *;have HBX:Hid (Below W1.heap.size W1 X1):=hbX;have HXB:Hid (X1.heap[W1.heap.size]? = some (.cells #[.slice ra g.nr rc,.slice la g.nb lc] 26)):=hbx;have hsX:W1.heap.size<X1.heap.size:=(Array.getElem?_eq_some_iff.1 hbx).1;clear hbx hbX;refine (svalid_any (New w W1) ra la rc lc g X1 (HX1.out.later HBX.out).plain HSG.out).mono ?_;rintro e W2 ⟨⟨r,rfl,hr⟩,hb2⟩;have HB2:Hid (Below X1.heap.size X1 W2):=hb2;have HBW2:Hid (Below w.heap.size w W2):=bel_tr (bel_tr HB1.out HBX.out) hb2;clear hb2;cases r with
 |false =>
  clear hr;go_wp2;go_ret;exact⟨rfl,HBW2.out⟩
 |true =>
  have HV:Hid (M.Valid g):=hr.1 rfl;clear hr;obtain⟨N,RR,hPI,hRF⟩:∃N RR,ProgIs g N 0 RR∧∀(il:Nat) (I:Nat→Int) (fuel most:Int) (o:OutD),(0≤fuel∧fuel≤50000)→(0≤most∧most≤1000)→RunD N RR il I fuel most o→o.code≠4∧o.steps≤fuel:=⟨_,_,.inl ⟨HV.out,rfl,rfl,rfl⟩,fun il I fuel most o h1 h2 h3=>run_fine HV.out h1 h2 h3⟩
  have HPI:Hid (ProgIs g N 0 RR):=hPI;have HRF:Hid (∀(il:Nat) (I:Nat→Int) (fuel most:Int) (o:OutD),(0≤fuel∧fuel≤50000)→(0≤most∧most≤1000)→RunD N RR il I fuel most o→o.code≠4∧o.steps≤fuel):=hRF;have HNS:Hid (N≤5000∧∀i,i<N→(RR i).sl≤1048576):=hPI.small HSG.out;clear hPI hRF;have HG2:Hid (GramX (New w W1) W2 ra la g):=(HX1.out.later HBX.out).later HB2.out;have HB2b:Hid (W2.heap[W1.heap.size]? = some (.cells #[.slice ra g.nr rc,.slice la g.nb lc] 26)):=(HB2.out.block W1.heap.size hsX).trans HXB.out;go_wp2_with fail;go_loopw [6,7] (fun v iv wr=>inpI W2 v iv wr) (fun _ iv _=>41-(intOf iv).toNat)
  case atStart=>exact⟨2,[],by omega,by omega,by simp,rfl,(fun x hx=>by cases hx),.inl ⟨rfl,rfl,rfl⟩,Keep.refl _ _⟩
  case round =>
   obtain⟨k,l,hk2,hk40,hl,rfl,hby,hown,hkeep⟩:=hrel;obtain⟨ia,ic,rfl⟩:=own_shape hown;have HO:Hid (OwnC (New W2 wr) wr (.slice ia l.length ic) 1 l.length (intVs .u8 (lf l) l.length)):=hown;have HK:Hid (Keep (fun _=>False) W2 wr):=hkeep
   have HBY:Hid (∀x∈l,0≤x∧x≤255):=hby;clear hown hkeep hby;by_cases hkm:k<m∧k<40
   ·obtain⟨hkm1,hkm2⟩:=hkm
    have hkm1':(k:Int)<(m:Int):=by omega
    have hkm2':(k:Int)<40:=by omega
    have hI2:=HI'.out.later (bel_tr HBW2.out HK.out.bel);rcases hI2 with q | ⟨bb,off,rfl,_,hcc⟩
    ·omega
    have cc:=hcc k hkm1;obtain⟨b0,b1⟩:=HB'.out k hkm1;obtain⟨tv,htv⟩:∃v:Nat,T k=(v:Int):=⟨(T k).toNat,by omega⟩
    rw[htv]at cc b1;have hx4:0≤97+(tv:Int)%4∧97+(tv:Int)%4≤255:=by omega
    have HSR:Hid (∀x:Int,Src Tryz.prog 1 22 (.slice (some ⟨wr.heap.size,0,none⟩) 1 1) 1 [.int .u8 x] (wr.alloc (.cells #[.int .u8 x] 5))):=fun x=>src_cells Tryz.underlying22 rfl (fun j u hu=>by
     have hb:=World.alloc_heap_new wr (.cells #[.int .u8 x] 5);simp only[World.cell?,hb];rw[←hu];simp) (fun u hu=>by obtain rfl:=List.mem_singleton.1 hu;rfl)
    clear hcc b0 htv;go_wp2_with (at_builtin;refine appE rfl _ _ 22 22 rfl rfl rfl elem22 (Q:=New W2 wr) (n:=l.length) (cs:=intVs .u8 (lf l) l.length) (m:=1) (news:=[.int .u8 (97+(tv:Int)%4)]) (HO.out.on (fun b hb=>Below.heap_alloc wr _ _ hb.2)) (HSR.out _) (by omega) ?_;intro v5 W5 hown hgrew hsz;have HE:Hid (inpI W2 v5 (.int .i64 ((k+1:Nat):Int)) W5):=in_step hk2 hkm2 hl hx4 HBY.out HK.out hown hgrew;clear hown hgrew hsz)
    go_roundw;all_goals first
     |exact HE.out
     | (simp[intOf];omega)
     |omega
   ·have hcase:¬(k:Int)<(m:Int)∨((k:Int)<(m:Int)∧¬(k:Int)<40):=by omega
    clear hkm;rcases hcase with hkm1' | ⟨hkm1',hkm2'⟩
    all_goals
     have HIW:Hid (Ints Q' .u8 wr b m T):=HI'.out.later (bel_tr HBW2.out HK.out.bel);have hwb:wr.heap[W1.heap.size]? = some (.cells #[.slice ra g.nr rc,.slice la g.nb lc] 26):=(HK.out.block W1.heap.size (by have:=HB2.out.size;omega) (fun e=>e)).trans HB2b.out
     have g0:=blk_cell (j:=0) hwb rfl;have g1:=blk_cell (j:=1) hwb rfl;clear hwb;go_wp2_with fail;refine (take_any Q' b m d 0 T wr HIW.out HB'.out hm2 (by omega)).mono ?_
     rintro e w3 ⟨⟨fv,rfl,hfv⟩,rfl⟩;go_wp2_with fail;refine (take_any Q' b m d 1 T wr HIW.out HB'.out hm2 (by omega)).mono ?_
     rintro e w4 ⟨⟨sv,rfl,hsv⟩,rfl⟩;obtain⟨o,hD⟩:=run_some N RR l.length (lf l) ((fv:Int)*40) ((sv:Int)*2);have HD:Hid (RunD N RR l.length (lf l) ((fv:Int)*40) ((sv:Int)*2) o):=hD;obtain⟨hcode,hstep⟩:=HRF.out _ _ _ _ o (by omega) (by omega) hD
     clear hD;have HLI:Hid (Ints (New W2 wr) .u8 wr ia l.length (lf l)):=own_lists HO.out;go_wp2_with fail;refine (scompile_any (New w W1) ra la rc lc g N 0 RR wr (HG2.out.later HK.out.bel) HSG.out HPI.out).mono ?_;rintro e W4 ⟨pa,pc,rfl,hins,hb4⟩;have HINS:Hid (InsA (New wr W4) W4 pa N RR):=hins;have HB4:Hid (Below wr.heap.size wr W4):=hb4;clear hins hb4;go_wp2_with fail;refine (srun_any (New wr W4) (New W2 wr) pa N pc RR ia l.length ic (lf l) ((fv:Int)*40) ((sv:Int)*2) o W4 HINS.out HNS.out.2 (by have:=HNS.out.1;omega) (HLI.out.later HB4.out) (list_byt HBY.out) (by omega) HD.out).mono ?_
     rintro e W5 ⟨ea,ec,va,vc,rfl,hout,hb5⟩;have HB5:Hid (Below W4.heap.size W4 W5):=hb5;clear hout hb5;unfold outV;go_wp2_with fail;have hbx:=World.alloc_heap_new W5 (.cells #[.int .i64 o.code,.int .i64 o.pos,.int .i64 o.label,.int .i64 o.far,.slice ea o.en ec,.int .i64 o.steps,.int .i64 o.throws,.slice va o.vn vc] 36);have hbX:=bel1 W5 (.cells #[.int .i64 o.code,.int .i64 o.pos,.int .i64 o.label,.int .i64 o.far,.slice ea o.en ec,.int .i64 o.steps,.int .i64 o.throws,.slice va o.vn vc] 36);generalize W5.alloc (.cells #[.int .i64 o.code,.int .i64 o.pos,.int .i64 o.label,.int .i64 o.far,.slice ea o.en ec,.int .i64 o.steps,.int .i64 o.throws,.slice va o.vn vc] 36)=X5 at *;have HX5:Hid (X5.heap[W5.heap.size]? = some (.cells #[.int .i64 o.code,.int .i64 o.pos,.int .i64 o.label,.int .i64 o.far,.slice ea o.en ec,.int .i64 o.steps,.int .i64 o.throws,.slice va o.vn vc] 36)):=hbx;have hsX5:W5.heap.size<X5.heap.size:=(Array.getElem?_eq_some_iff.1 hbx).1;have HBr:Hid (Below wr.heap.size wr X5):=bel_tr (bel_tr HB4.out HB5.out) hbX;have HBw:Hid (Below w.heap.size w X5):=bel_tr (bel_tr HBW2.out HK.out.bel) HBr.out;clear hbx hbX g0 g1;refine Calls.mono (HDR.out X5 (HI.out.later HBw.out)) ?_;rintro e W6 ⟨ra2,rc2,la2,lc2,rfl,hX2,hb6⟩;have HX2:Hid (GramX (New X5 W6) W6 ra2 la2 g):=hX2;have HB6:Hid (Below X5.heap.size X5 W6):=hb6;clear hX2 hb6;go_wp2_with fail;refine (icompile_any (New X5 W6) ra2 la2 rc2 lc2 g N 0 RR W6 HX2.out HSG.out HPI.out).mono ?_;rintro e W7 ⟨qa,qc,rfl,hap,hb7⟩;have HAP:Hid (InsA (New W6 W7) W7 qa N RR):=hap.ins;have HB7:Hid (Below W6.heap.size W6 W7):=hb7;clear hap hb7;have HBr7:Hid (Below wr.heap.size wr W7):=bel_tr (bel_tr HBr.out HB6.out) HB7.out;go_wp2_with fail;refine (irun_any (New W6 W7) (New W2 wr) qa N qc RR ia l.length ic (lf l) ((fv:Int)*40) ((sv:Int)*2) o W7 HAP.out HNS.out.2 (by have:=HNS.out.1;omega) (HLI.out.later HBr7.out) (list_byt HBY.out) (by omega) HD.out (fun y q=>q.2) (fun y q=>by have h1:=q.2;have h2:=HBr7.out.size;omega)).mono ?_
     rintro e W8 ⟨ea8,ec8,va8,vc8,Q1,Q2,rfl,hout8,hq1,hq2,hb8⟩;have HB8:Hid (Below W7.heap.size W7 W8):=hb8;clear hout8 hq1 hq2 hb8;unfold outV;have hwant:W8.heap[W5.heap.size]? = some (.cells #[.int .i64 o.code,.int .i64 o.pos,.int .i64 o.label,.int .i64 o.far,.slice ea o.en ec,.int .i64 o.steps,.int .i64 o.throws,.slice va o.vn vc] 36):=((bel_tr (bel_tr HB6.out HB7.out) HB8.out).block W5.heap.size hsX5).trans HX5.out;have hs58:W5.heap.size<W8.heap.size:=(Array.getElem?_eq_some_iff.1 hwant).1;have x0:=blk_cell (j:=0) hwant rfl;have x1:=blk_cell (j:=1) hwant rfl;have x5:=blk_cell (j:=5) hwant rfl;have x6:=blk_cell (j:=6) hwant rfl;have HFIN:Hid (Below w.heap.size w W8):=bel_tr HBw.out (bel_tr (bel_tr HB6.out HB7.out) HB8.out);have hst2:¬(fv:Int)*40<o.steps:=by omega
     have hcb:(o.code==4)=false:=by simp[hcode]
     clear hwant hcode hstep;go_wp2;all_goals first
      | (go_ret;exact⟨rfl,bel_tr HFIN.out (bel1 W8 _)⟩)
      | (go_ret;exact⟨by simp,bel_tr HFIN.out (bel1 W8 _)⟩)
      | (exfalso;rename_i hz;rcases hz with hz | hz;· (rw[hcb]at hz;cases hz);· exact absurd hz hst2)
end
namespace fnRun
open Go.ChangeShapes Go.WideShapes Go.ChangeAt Go.RowKit Go.Deep
theorem own:ownKnob Tryz.prog.godebug=none:=by kernel_rfl
theorem laidOut:laidOutB Tryz.prog=true:=by kernel_rfl
theorem cellsU8:Tryz.prog.cellsOf 5=1:=by kernel_rfl
theorem add_at(b off i:Nat):(⟨b,off,none⟩:Addr).add i=⟨b,off+i,none⟩:=by
 by_cases h0:i=0
 ·subst h0;simp[Addr.add]
 ·simp[Addr.add,h0]
theorem arg_bytes{H:Type}{enc:TypeId×Value→H}{w:World}{base:Nat}{spare:Nat→Bool}{held:Bool}{fuel:Nat}{cs:List Value}{x:DataW H×List MemPlace}(h:DataW.trod enc Tryz.prog w base spare held fuel 22 cs=some x) :
  ∃a n c S,cs = [.slice a n c]∧Ints (fun _=>True) .u8 w a n S∧n≤9223372036854775807∧Byt n S∧n≤c∧(a=none→n=0∧c=0):=by
 rcases open_ints Tryz.underlying22 Tryz.underlying5 cellsU8 h with⟨rfl,_⟩|⟨a,len,cap,zs,rfl,_,hl,hm,hz,_,hcell,hwf⟩
 ·exact⟨none,0,0,fun _=>0,rfl,.inl rfl,by omega,(fun i hi=>by omega),Nat.le_refl _,fun _=>⟨rfl,rfl⟩⟩
 ·have hle:len≤zs.length:=by rw[hz];split<;>omega
  have hmx:len≤9223372036854775807:=by have:=hm;unfold maxLen at this;omega
  refine⟨some a,len,cap,fun i=>zs.getD i 0,rfl,?_,hmx,(fun i hi=>?_),by omega,fun e=>by cases e⟩
  ·by_cases h0:len=0
   ·exact .inl h0
   ·obtain⟨b,off,spot⟩:=a
    have hc0:=hcell 0 (by omega)
    have hspot:spot=none:=by simpa[Addr.add] using World.cell?_spot hc0
    subst hspot;refine .inr ⟨b,off,rfl,trivial,fun i hi=>?_⟩
    have:=hcell i (by omega)
    rwa [add_at]at this
  ·have hi':i<zs.length:=by omega
   have:zs.getD i 0∈zs:=by
    rw[List.getD_eq_getElem?_getD,List.getElem?_eq_getElem hi'];exact List.getElem_mem hi'
   exact bounds_u8 (hwf _ this)
set_option maxRecDepth 100000 in
theorem lifted(os:Os)(started:os.Started)(H:Type)(enc:TypeId×Value→H) :
  ReturnsInHanded {} Tryz.checked os 3 .any (Rows.fnRunSpec.pre6 enc Tryz.prog Tryz.f3 Rows.fnRunRow.domain false) (Rows.fnRunSpec.post enc Tryz.prog Tryz.f3 false true false false):=by
 refine returnsInHanded_of_change (C:=Tryz.checked) own started (by kernel_rfl) Tryz.func3
  (ChangeSpec.witness6 (enc:=enc) (C:=Tryz.checked) false ⟨#[],#[.slice none 0 0,.slice none 0 0],[]⟩ 8 (by kernel_rfl) (by kernel_rfl) (by kernel_rfl) (by kernel_rfl)) ?_
 intro W base args ds gs before hval0 hW hcnd _;have hval:∀(j:Nat) t v,Tryz.f3.params[j]? = some t→args[j]? = some v→Value.okWide Tryz.prog W .any base t v:=hval0;have hW':=hW;obtain⟨p,q,hA0,hV,rfl,hfz,hnd⟩:=hW;have hA:DataW.TrodAll enc Tryz.prog W 0 (fun _=>true) true Tryz.f3.params.toList args.toList ds p:=hA0
 rw[Tryz.params3]at hA hval;obtain⟨v0,vs0,d0,ds0,p0,q0,hargs,rfl,rfl,h0,r0⟩:=trodAll_cons hA;obtain⟨v1,vs1,d1,ds1,p1,q1,rfl,rfl,rfl,h1,r1⟩:=trodAll_cons r0;obtain⟨rfl,rfl,rfl⟩:=trodAll_nil r1;obtain rfl:args=#[v0,v1]:=by cases args;simp_all
 obtain⟨rfl,rfl⟩:=trodVars_none hV;obtain⟨a0,len0,cap0,rfl⟩:=okWide_slice Tryz.underlying22 (hval 0 22 v0 rfl rfl);obtain⟨a1,len1,cap1,rfl⟩:=okWide_slice Tryz.underlying22 (hval 1 22 v1 rfl rfl);have k0:=h0;have lt0:∀x∈p0,x.block<W.heap.size:=by obtain⟨m,hm⟩:=k0;exact DataW.trod_lt m _ _ _ hm
 have k1:=h1;have lt1:∀x∈p1,x.block<W.heap.size:=by obtain⟨m,hm⟩:=k1;exact DataW.trod_lt m _ _ _ hm
 obtain⟨S,hS,hn,hB,hc,hnl⟩:∃S:Nat→Int,Ints (fun _=>True) .u8 W a0 len0 S∧len0≤9223372036854775807∧Byt len0 S∧len0≤cap0∧(a0=none→len0=0∧cap0=0):=by
  obtain⟨fuel,hf⟩:=h0;obtain⟨a,n,c,S,e,hS,hn,hB,hc,hnl⟩:=arg_bytes hf;simp[Value.cells]at e;obtain⟨rfl,rfl,rfl⟩:=e;exact⟨S,hS,hn,hB,hc,hnl⟩
 obtain⟨I,hI,hil,hBI⟩:∃I:Nat→Int,Ints (fun _=>True) .u8 W a1 len1 I∧len1≤9223372036854775807∧Byt len1 I:=by
  obtain⟨fuel,hf⟩:=h1;obtain⟨a,n,c,S,e,hS,hn,hB,hc,hnl⟩:=arg_bytes hf;simp[Value.cells]at e;obtain⟨rfl,rfl,rfl⟩:=e;exact⟨S,hS,hn,hB⟩
 clear hA0 hval0;refine (walkFR (fun _=>True) (fun _=>True) a0 len0 cap0 S a1 len1 cap1 I W hS hB hc hnl hn hI hBI hil).mono fun e W' ⟨he,bel⟩=>?_
 subst he;exact⟨_,rfl,_,_,_,[],_,[],hW',trodAll_mk1 (shut_bool Tryz.underlying4 _),(trodAll_cons_mk (Below.trod laidOut (by kernel_rfl) (of_decide_eq_true (by kernel_rfl)) k0 bel lt0) (trodAll_cons_mk (Below.trod laidOut (by kernel_rfl) (of_decide_eq_true (by kernel_rfl)) k1 bel lt1) trodAll_mk0)),rfl,bel.frame _,fun h=>by cases h⟩
theorem over:Rows.fnRunRow.holds Tryz.pinned (OpenSpec.ofChange Rows.fnRunSpec) :=
 OpenClaim.holds_of_wide 3 Tryz.f3 rfl rfl rfl rfl rfl rfl rfl ⟨rfl,rfl,rfl,rfl,rfl⟩ rfl rfl rfl rfl rfl (by kernel_rfl) Tryz.func3 (by kernel_rfl)
  (of_decide_eq_true (by kernel_rfl)) (by unfold Func.isWrapper;first|(rw[if_pos (by decide +kernel)];kernel_rfl)|(rw[if_neg (by decide +kernel)];exact⟨rfl,rfl⟩))
  (fun os started H enc _=>lifted os started H enc)
end fnRun
section
theorem fnRun_holds:Rows.FnRunSaid:=fnRun.over
end
end Go.Proofs.YtcbnnfnlilbjeaaGreat
