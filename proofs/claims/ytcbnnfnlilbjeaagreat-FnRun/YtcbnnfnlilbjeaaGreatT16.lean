import Derived.Test.YtcbnnfnlilbjeaaGreatT08
import Derived.Test.YtcbnnfnlilbjeaaGreatT11
import Derived.Test.YtcbnnfnlilbjeaaGreatT15
import Derived.Test.YtcbnnfnlilbjeaaGreatT09
import Derived.Deep.RegionHeld3
import Derived.Test.YtcbnnfnlilbjeaaGreatT01
import Derived.Laws.BitsAllLaws
import Derived.Test.YtcbnnfnlilbjeaaGreatT03
import Derived.Test.YtcbnnfnlilbjeaaGreatT04
import Derived.Deep.RegionWith
import Derived.Deep.RegionLaw
set_option linter.unusedVariables false
set_option linter.unusedSimpArgs false
namespace Go.Proofs.YtcbnnfnlilbjeaaGreat
section
open Go.RowKit
open M (OpD NodeD Gr)
def NodeOK(g:Gr)(p:Nat):Prop:=(nd g p).bl=0∨M.BodyOK g.nr g.nb (nd g p).bl (nd g p).body
theorem valid_node{g:Gr}(h:M.Valid g){p:Nat}(hp:p<g.nr+g.nb):NodeOK g p:=by
 unfold NodeOK;by_cases e:p<g.nr
 ·rw[nd_rule g e];exact .inr (h.rb p e)
 ·obtain⟨i,rfl⟩:∃i,p=g.nr+i:=⟨p-g.nr,by omega⟩
  rw[nd_lab];cases hh:(g.lab i).has with
  |true=>exact .inr (h.lb i (by omega) hh)
  |false=>exact .inl (h.lz i (by omega) hh)
theorem dep_pos(B:Nat→OpD)(n:Nat)(h:M.Fed B n)(hn:0<n):1≤M.dep B n:=by
 obtain⟨q,rfl⟩:∃q,n=q+1:=⟨n-1,by omega⟩
 have:=h q (by omega)
 rw[M.dep];omega
theorem stk_whole{α:Type}[Inhabited α](f:OpD→α→α→α)(B:Nat→OpD)(n:Nat)(h:M.Shape n B):M.stk f B n=(0,M.top (M.stk f B n))::M.stk f B 0:=by
 have hF:M.Fed B n:=h.1;have hl:=M.stk_len f B n hF;rw[h.2]at hl;match hs:M.stk f B n with
 | []=>rw[hs]at hl;simp at hl
 | [(s,x)] =>
  obtain⟨a1,a2,_⟩:=M.stk_cons f B n hF s x _ hs;have l2:=M.stk_len f B s (hF.less (by omega))
  rw[←a2]at l2;have:s=0:=by
   by_cases e:s=0
   ·exact e
   ·have:=dep_pos B s (hF.less (by omega)) (by omega)
    simp at l2;omega
  subst this;rfl
 |a::b::r=>rw[hs]at hl;simp at hl;omega
structure BodyIs(Q:Nat→Prop)(d:NodeD)(w:World)(e:Ending)(w':World):Prop where
 val:∃a c,e=.returned (.slice a d.bl c)∧OpsA Q w' a d.bl d.body∧d.bl≤c
 bel:Below w.heap.size w w'
set_option maxHeartbeats 2000000 in
theorem l3body_any(Q:Nat→Prop)(ra la:Option Addr)(rc lc:Nat)(g:Gr)(w:World)(hG:GramX Q w ra la g)(h1:g.nr≤100)(h2:g.nb≤100)(p:Nat)(hp:p<g.nr+g.nb) :
  Calls Tryz.prog 39 #[.agg #[.slice ra g.nr rc,.slice la g.nb lc],.int .i64 (p:Int)] w (BodyIs Q (nd g p) w):=by
 by_cases e:p<g.nr
 ·rw[nd_rule g e]
  rcases hG.rules with h0 | ⟨b,off,rfl,hq,hR⟩
  ·omega
  obtain⟨⟨_,⟨a0,c0',k0,hb0⟩⟩,⟨ba,bc,c1,hcap⟩⟩:=hR p e;have hae:a0=ba∧c0'=bc:=by rw[c1]at k0;simp at k0;exact⟨k0.1.symm,k0.2.symm⟩
  obtain⟨rfl,rfl⟩:=hae;have HB:Hid (OpsA Q w a0 (g.rule p).bl (g.rule p).body):=hb0;have hbl:b<w.heap.size:=lt_of_cell c1;have HC:Hid ((g.rule p).bl≤c0'):=hcap;clear hb0 hcap k0 hR hG;go_enter Tryz.func39,Tryz.ntmps39;go_wp2;go_ret;exact⟨⟨a0,c0',rfl,HB.out.later (bel1 w _),HC.out⟩,bel1 w _⟩
 ·obtain⟨i,rfl⟩:∃i,p=g.nr+i:=⟨p-g.nr,by omega⟩
  rw[nd_lab];rcases hG.labs with h0 | ⟨b,off,rfl,hq,hR⟩
  ·omega
  obtain⟨⟨_,_,⟨a0,c0',k0,hb0⟩⟩,⟨ba,bc,c1,hcap⟩⟩:=hR i (by omega)
  have hae:a0=ba∧c0'=bc:=by rw[c1]at k0;simp at k0;exact⟨k0.1.symm,k0.2.symm⟩
  obtain⟨rfl,rfl⟩:=hae;have HB:Hid (OpsA Q w a0 (g.lab i).bl (g.lab i).body):=hb0;have hbl:b<w.heap.size:=lt_of_cell c1;have HC:Hid ((g.lab i).bl≤c0'):=hcap;have hi:i<g.nb:=by omega
  have x1:¬((g.nr+i:Nat):Int)<(g.nr:Int):=by omega
  have x2:((g.nr+i:Nat):Int)-(g.nr:Int)=(i:Int):=by omega
  clear hb0 hcap k0 hR hG;go_enter Tryz.func39,Tryz.ntmps39;go_wp2;go_ret;exact⟨⟨a0,c0',rfl,HB.out.later (bel1 w _),HC.out⟩,bel1 w _⟩
set_option maxHeartbeats 1000000 in
theorem l3nodes_any(ra la:Option Addr)(nr rc nb lc:Nat)(w:World)(h1:nr≤100)(h2:nb≤100) :
  Calls Tryz.prog 38 #[.agg #[.slice ra nr rc,.slice la nb lc]] w fun e w'=>e=.returned (.int .i64 ((nr+nb:Nat):Int))∧Below w.heap.size w w':=by
 go_enter Tryz.func38,Tryz.ntmps38;go_wp2;go_ret;exact⟨ret_int (by omega),bel1 w _⟩
end
section
open Go.RowKit
open M (OpD NodeD Gr InsD EX ins emit wsum wt)
def hasB(g:Gr)(p:Nat):Bool:=decide (0<(nd g p).bl)
def trG(g:Gr)(p:Nat):EX:=M.treeE g.nr (nd g p).bl (nd g p).body
def opG(g:Gr)(p:Nat):InsD:=if p<g.nr then ins 9 p 0 else ins 10 ((p-g.nr:Nat):Int) 0
def PL(g:Gr)(k:Nat):Nat:=(M.progC (fun _=>0) (opG g) (trG g) (hasB g) k).length
def plc(g:Gr)(p:Nat):Int:=M.placeC (opG g) (trG g) (hasB g) p
theorem plc_eq(g:Gr)(p:Nat):plc g p=if 0<(nd g p).bl then (PL g p:Int) else -1:=by
 unfold plc M.placeC PL;by_cases h:0<(nd g p).bl
 ·have e:hasB g p=true:=by simp[hasB,h]
  rw[if_pos e,if_pos h]
 ·have e:¬hasB g p=true:=by simp[hasB,h]
  rw[if_neg e,if_neg h]
theorem PL_succ(g:Gr)(k:Nat):PL g (k+1)=if 0<(nd g k).bl then PL g k+((trG g k).len+3) else PL g k:=by
 unfold PL;rw[M.progC];by_cases h:0<(nd g k).bl
 ·have e:hasB g k=true:=by simp[hasB,h]
  rw[if_pos e,if_pos h,List.length_append,M.nodeC_len]
 ·have e:¬hasB g k=true:=by simp[hasB,h]
  rw[if_neg e,if_neg h]
theorem tree_len{nr nb n:Nat}{B:Nat→OpD}(h:M.BodyOK nr nb n B):(M.treeE nr n B).len=wsum B n:=by
 have:=M.top_len nr B n 0 _ h.2.1 (stk_whole (M.nodeE nr) B n h.2) (Nat.zero_le _);simp only[wsum,Nat.add_zero]at this;exact this
theorem seg_len{nr:Nat}{B:Nat→OpD}{hi lo n:Nat}{x:EX}(hF:M.Fed B hi)(h:M.stk (M.nodeE nr) B hi=(lo,x)::M.stk (M.nodeE nr) B lo)(hl:n+lo=hi):wsum (fun i=>B (lo+i)) n=x.len:=by
 have h1:=M.top_len nr B hi lo x hF h (by omega)
 have h2:=M.wsum_shift B lo n;rw[show lo+n=hi by omega]at h2
 omega
def lszI(w:World)(T:Nat→OpD)(n:Nat)(sv iv:Value)(wr:World):Prop:=∃k:Nat,k≤n∧iv=.int .i64 (k:Int)∧sv=.int .i64 ((wsum T k:Nat):Int)∧wr=w
set_option maxHeartbeats 4000000 in
theorem l4size_any(Q:Nat→Prop)(a:Option Addr)(n c:Nat)(T:Nat→OpD)(w:World)(hB:OpsA Q w a n T)(hk:∀i,i<n→0≤(T i).kind∧(T i).kind≤7)(hn:n≤2000) :
  Calls Tryz.prog 69 #[.slice a n c] w fun e w'=>e=.returned (.int .i64 ((wsum T n:Nat):Int))∧w=w':=by
 have HB:Hid (OpsA Q w a n T):=hB;have HK:Hid (∀i,i<n→0≤(T i).kind∧(T i).kind≤7):=hk;clear hB hk;go_enter Tryz.func69,Tryz.ntmps69;go_wp2;go_loopw [3,4] (fun sv iv wr=>lszI w T n sv iv wr) (fun _ iv _=>n-(intOf iv).toNat)
 case atStart=>exact⟨0,Nat.zero_le _,rfl,rfl,rfl⟩
 case round =>
  obtain⟨k,hk,rfl,rfl,rfl⟩:=hrel;have hwb:=M.wsum_bd T k;by_cases hlt:k<n
  ·rcases HB.out with h0 | ⟨b,off,rfl,hq,hB⟩
   ·omega
   obtain⟨c0,_,_⟩:=hB k hlt;obtain⟨k0,k7⟩:=HK.out k hlt;have HS:Hid (wsum T (k+1)=wsum T k+wt (T k).kind):=rfl;have hlt':(k:Int)<(n:Int):=by omega
   clear hB;generalize wsum T k=ws at *;have hc:(T k).kind=0∨(T k).kind=1∨(T k).kind=2∨(T k).kind=3∨(T k).kind=4∨(T k).kind=5∨(T k).kind=6∨(T k).kind=7:=by omega
   clear k0 k7;generalize (T k).kind=kd at *;rcases hc with rfl | rfl | rfl | rfl | rfl | rfl | rfl | rfl
   all_goals (
    go_wp2;go_roundw
    case rel=>exact⟨k+1,by omega,by go_num,by rw[HS.out];first|rfl|(simp[wt]),rfl⟩
    case measure=>simp[intOf];omega)
  ·obtain rfl:k=n:=by omega
   go_wp2;go_ret;exact⟨rfl,rfl⟩
theorem elem_kinds{nr nb n:Nat}{B:Nat→OpD}(h:∀i,i<n→M.ElemOK nr nb (B i)):∀i,i<n→0≤(B i).kind∧(B i).kind≤7:=fun i hi=>⟨(h i hi).1,(h i hi).2.1⟩
theorem nd_bd{g:Gr}(hV:M.Valid g){p:Nat}(hp:p<g.nr+g.nb):(nd g p).bl≤2000:=by
 have h3:=hV.ol;unfold M.ops at h3;by_cases e:p<g.nr
 ·rw[nd_rule g e]
  have:=M.le_sum (fun i=>(g.rule i).bl) e
  omega
 ·obtain⟨i,rfl⟩:∃i,p=g.nr+i:=⟨p-g.nr,by omega⟩
  rw[nd_lab];have:=M.le_sum (fun i=>(g.lab i).bl) (i:=i) (n:=g.nb) (by omega)
  omega
theorem nd_sum{g:Gr}(k:Nat)(hk:k≤g.nr+g.nb):M.sum (fun i=>(nd g i).bl) k≤M.ops g:=by
 unfold M.ops;by_cases e:k≤g.nr
 ·have h1:∀j,j≤g.nr→M.sum (fun i=>(nd g i).bl) j=M.sum (fun i=>(g.rule i).bl) j:=by
   intro j;induction j with
   |zero=>intro _;rfl
   |succ j ih=>intro hj;rw[M.sum,M.sum,ih (by omega),nd_rule g (show j<g.nr by omega)]
  rw[h1 k e];have:=M.sum_le (fun i=>(g.rule i).bl) e
  omega
 ·have h1:∀j,j≤g.nr→M.sum (fun i=>(nd g i).bl) j=M.sum (fun i=>(g.rule i).bl) j:=by
   intro j;induction j with
   |zero=>intro _;rfl
   |succ j ih=>intro hj;rw[M.sum,M.sum,ih (by omega),nd_rule g (show j<g.nr by omega)]
  have h2:∀j,M.sum (fun i=>(nd g i).bl) (g.nr+j)=M.sum (fun i=>(g.rule i).bl) g.nr+M.sum (fun i=>(g.lab i).bl) j:=by
   intro j;induction j with
   |zero=>rw[Nat.add_zero,h1 g.nr (Nat.le_refl _)];rfl
   |succ j ih=>rw[←Nat.add_assoc,M.sum,ih,M.sum,nd_lab];omega
  obtain⟨j,rfl⟩:∃j,k=g.nr+j:=⟨k-g.nr,by omega⟩
  rw[h2 j];have:=M.sum_le (fun i=>(g.lab i).bl) (show j≤g.nb by omega)
  omega
theorem PL_bd{g:Gr}(hV:M.Valid g)(k:Nat)(hk:k≤g.nr+g.nb):PL g k≤2+3*k+2*M.sum (fun i=>(nd g i).bl) k:=by
 induction k with
 |zero=>exact Nat.le_refl _
 |succ k ih =>
  have h:=ih (by omega)
  rw[PL_succ,M.sum];split
  ·rename_i hp
   have hb:M.BodyOK g.nr g.nb (nd g k).bl (nd g k).body:=(valid_node hV (show k<g.nr+g.nb by omega)).elim (fun q=>by omega) id
   have h1:=tree_len hb;have h2:=M.wsum_bd (nd g k).body (nd g k).bl;unfold trG;omega
  ·omega
theorem PL_small{g:Gr}(hV:M.Valid g)(k:Nat)(hk:k≤g.nr+g.nb):PL g k≤5000:=by
 have h1:=PL_bd hV k hk;have h2:=nd_sum k hk;have h3:=hV.ol;have h4:=hV.r2;have h5:=hV.l2;omega
def plI(w:World)(g:Gr)(p:Nat)(av iv:Value)(wr:World):Prop:=∃k:Nat,k≤p∧iv=.int .i64 (k:Int)∧av=.int .i64 ((PL g k:Nat):Int)∧Below w.heap.size w wr
set_option maxRecDepth 100000 in
set_option maxHeartbeats 4000000 in
theorem l4place_any(Q:Nat→Prop)(ra la:Option Addr)(rc lc:Nat)(g:Gr)(hV:M.Valid g)(w:World)(hG:GramX Q w ra la g)(p:Nat)(hp:p<g.nr+g.nb) :
  Calls Tryz.prog 67 #[.agg #[.slice ra g.nr rc,.slice la g.nb lc],.int .i64 (p:Int)] w fun e w'=>e=.returned (.int .i64 (plc g p))∧Below w.heap.size w w':=by
 have HG:Hid (GramX Q w ra la g):=hG;have HV:Hid (M.Valid g):=hV;have h1:=hV.r2;have h2:=hV.l2;have HP:Hid (plc g p=if 0<(nd g p).bl then (PL g p:Int) else -1):=plc_eq g p
 clear hG hV;go_enter Tryz.func67,Tryz.ntmps67;go_wp2_with fail;refine (l3body_any Q ra la rc lc g _ (HG.out.later (bel1 w _)) h1 h2 p hp).mono ?_;rintro e W1 ⟨⟨a1,c1,rfl,ho1,hc1⟩,hb1⟩;have g0:=cell_on (a:=⟨w.heap.size,0,none⟩) (v:=.slice ra g.nr rc) (cN w.heap.size rfl rfl) hb1;have g1:=cell_on (a:=⟨w.heap.size,1,none⟩) (v:=.slice la g.nb lc) (cN w.heap.size rfl rfl) hb1;have B1:Hid (Below w.heap.size w W1):=bel_tr (bel1 w _) hb1;have hw1:w.heap.size<W1.heap.size:=lt_of_cell g0;clear ho1 hc1 hb1;by_cases h0:(nd g p).bl=0
 ·have HR:Hid (plc g p = -1):=by show _=_;rw[HP.out,if_neg (by omega)]
  have f0:(((nd g p).bl:Int)==0)=true:=by simp[h0]
  clear h0;go_wp2;go_ret;exact⟨ret_int HR.out.symm,B1.out⟩
 ·have HR:Hid (plc g p=(PL g p:Int)):=by show _=_;rw[HP.out,if_pos (by omega)]
  have f0:(((nd g p).bl:Int)==0)=false:=by simp[h0]
  have G0:Hid (W1.cell? ⟨w.heap.size,0,none⟩=some (.slice ra g.nr rc)):=g0;have G1:Hid (W1.cell? ⟨w.heap.size,1,none⟩=some (.slice la g.nb lc)):=g1;clear h0;go_wp2;go_loopw [5,6] (fun av iv wr=>plI W1 g p av iv wr) (fun _ iv _=>p-(intOf iv).toNat)
  case atStart=>exact⟨0,Nat.zero_le _,rfl,rfl,Below.refl _ _⟩
  case round =>
   clear g0 g1;obtain⟨k,hk,rfl,rfl,hbel⟩:=hrel;have HB:Hid (Below W1.heap.size W1 wr):=hbel;have y0:=cell_on G0.out hbel;have y1:=cell_on G1.out hbel;have hpl:=PL_small HV.out k (by omega)
   have hwr:w.heap.size<wr.heap.size:=lt_of_cell y0;clear hbel;by_cases hlt:k<p
   ·have HPS:=PL_succ g k
    have hlt':(k:Int)<(p:Int):=by omega
    go_wp2_with fail;refine (l3body_any Q ra la rc lc g _ (HG.out.later (bel_tr B1.out HB.out)) h1 h2 k (by omega)).mono ?_
    rintro e W2 ⟨⟨a2,c2,rfl,ho2,hc2⟩,hb2⟩;have B2:Hid (Below W1.heap.size W1 W2):=bel_tr HB.out hb2;have z0:=cell_on y0 hb2;have z1:=cell_on y1 hb2;clear ho2 hc2 hb2 y0 y1;by_cases hk0:0<(nd g k).bl
    ·have hk0':(0:Int)<((nd g k).bl:Int):=by omega
     have hok:M.BodyOK g.nr g.nb (nd g k).bl (nd g k).body:=(valid_node HV.out (show k<g.nr+g.nb by omega)).elim (fun q=>by omega) id
     have HOK:Hid (M.BodyOK g.nr g.nb (nd g k).bl (nd g k).body):=hok;have hws:=M.wsum_bd (nd g k).body (nd g k).bl;have hbd:=nd_bd HV.out (show k<g.nr+g.nb by omega)
     have HN:Hid (PL g (k+1)=PL g k+(wsum (nd g k).body (nd g k).bl+3)):=by
      show _=_;rw[HPS,if_pos hk0,show (trG g k).len=wsum (nd g k).body (nd g k).bl from tree_len hok]
     clear HPS hk0 hok;go_wp2_with fail;refine (l3body_any Q ra la rc lc g _ (HG.out.later (bel_tr B1.out B2.out)) h1 h2 k (by omega)).mono ?_
     rintro e W3 ⟨⟨a3,c3,rfl,ho3,hc3⟩,hb3⟩;have B3:Hid (Below W1.heap.size W1 W3):=bel_tr B2.out hb3;have HO3:Hid (OpsA Q W3 a3 (nd g k).bl (nd g k).body):=ho3;clear ho3 hc3 hb3 z0 z1;go_wp2_with (go_at_call 69;refine (l4size_any Q a3 (nd g k).bl c3 (nd g k).body _ HO3.out (elem_kinds HOK.out.1) hbd).mono ?_;rintro e W4 ⟨rfl,hw⟩;subst W4);go_roundw
     case rel=>exact⟨k+1,by omega,by go_num,by rw[HN.out];first|go_num|(congr 1;omega),B3.out⟩
     case measure=>simp[intOf];omega
    ·have hk0':¬(0:Int)<((nd g k).bl:Int):=by omega
     have HN:Hid (PL g (k+1)=PL g k):=by show _=_;rw[HPS,if_neg hk0]
     clear HPS hk0;go_wp2;go_roundw
     case rel=>exact⟨k+1,by omega,by go_num,by rw[HN.out],B2.out⟩
     case measure=>simp[intOf];omega
   ·obtain rfl:k=p:=by omega
    go_wp2;go_ret;exact⟨ret_int HR.out.symm,bel_tr B1.out HB.out⟩
end
section
open Go.RowKit
open M (OpD NodeD Gr InsD EX ins emit wsum wt)
section
variable {α:Type} [Inhabited α] (f:OpD→α→α→α) (B:Nat→OpD)
theorem bin_splitG(q lo:Nat)(x:α)(hF:M.Fed B (q+1))(h2:M.ar (B q).kind=2)(e:M.stk f B (q+1)=(lo,x)::M.stk f B lo) :
  ∃s y z,lo<s∧s<q∧M.stk f B q=(s,y)::M.stk f B s∧M.stk f B s=(lo,z)::M.stk f B lo∧x=f (B q) z y∧M.dep B s+1=M.dep B q∧∀j,s<j→j≤q→M.dep B q≤M.dep B j:=by
 have hq:M.Fed B q:=hF.less (by omega)
 have hl:=M.stk_len f B q hq;have hi:=hF q (by omega)
 rw[M.stk]at e;match hs:M.stk f B q with
 | []=>rw[hs]at hl;simp at hl;omega
 | [(s,y)]=>rw[hs]at hl;simp at hl;omega
 | (s,y)::(s1,z)::r =>
  rw[hs]at e hl;simp only[M.stp,h2,if_true,List.cons.injEq,Prod.mk.injEq]at e;obtain⟨⟨rfl,rfl⟩,er⟩:=e;obtain⟨a1,a2,a3⟩:=M.stk_cons f B q hq s y _ hs;obtain⟨b1,b2,b3⟩:=M.stk_cons f B s (hq.less (by omega)) s1 z r a2.symm
  have l2:=M.stk_len f B s (hq.less (by omega))
  rw[←a2]at l2;simp at hl l2;exact⟨s,y,z,b1,a1,by rw[←a2],by rw[←a2,b2],rfl,by omega,a3⟩
theorem un_splitG(q lo:Nat)(x:α)(hF:M.Fed B (q+1))(h1:M.ar (B q).kind=1)(e:M.stk f B (q+1)=(lo,x)::M.stk f B lo) :
  ∃z,lo<q∧M.stk f B q=(lo,z)::M.stk f B lo∧x=f (B q) z default:=by
 have hq:M.Fed B q:=hF.less (by omega)
 have hl:=M.stk_len f B q hq;have hi:=hF q (by omega)
 rw[M.stk]at e;match hs:M.stk f B q with
 | []=>rw[hs]at hl;simp at hl;omega
 | (s,z)::r =>
  rw[hs]at e hl;simp[M.stp,h1]at e;obtain⟨⟨rfl,rfl⟩,er⟩:=e;obtain⟨a1,a2,a3⟩:=M.stk_cons f B q hq s z _ hs;exact⟨z,a1,by rw[←er],rfl⟩
theorem leaf_splitG(q lo:Nat)(x:α)(h0:M.ar (B q).kind=0)(e:M.stk f B (q+1)=(lo,x)::M.stk f B lo):x=f (B q) default default:=by
 rw[M.stk]at e;simp[M.stp,h0]at e;exact e.1.2.symm
end
def GivesR(l:List InsD)(w:World)(e:Ending)(w':World):Prop:=∃a n c L,e=.returned (.slice a n c)∧Hid (n=L.length)∧Hid (L.map IC.d=l)∧Hid (IRow w w' (.slice a n c) L)
theorem givesR{l:List InsD}{w w':World}{a:Option Addr}{n c:Nat}{L:List IC}(h:IRow w w' (.slice a n c) L)(hl:L.map IC.d=l):GivesR l w (.returned (.slice a n c)) w':=by
 obtain⟨a',c',e⟩:=h.shape;cases e
 exact⟨a,_,c,L,rfl,rfl,hl,h⟩
theorem len_of{L:List IC}{l:List InsD}{n:Nat}(h1:n=L.length)(h2:L.map IC.d=l):L.length=l.length∧n=l.length:=by
 rw[←h2,List.length_map];exact⟨rfl,h1⟩
theorem stepC2{P:Program}{ops:Array Oper}{o:Oper}{a:Act}{w:World}{K:Act→World→Prop}{P':Exit→Act→World→Prop}{E:Prop}{f:FuncId}(hf:∀args w,(callFunc f args).run P w=.ok (.enter f args) w)(hgd:o.guard=none)(x1 x2:Operand)(t1 t2:TypeId)
  (ho:o.op=.call { callee:=.value (.func f),args:=#[x1,x2],argTypes:=#[t1,t2] }) {y1 y2:Value} (hx1:a.eval x1=y1) (hx2:a.eval x2=y2) (h:Calls P f #[y1,y2] w (fun e w'=>∃u,e=.returned u∧K (a.put o.dst u) w')):if Region.wanted o (yielded ops a.tmps)=true then Oper.wp P o a w K P' else E:=by
 have hw:Region.wanted o (yielded ops a.tmps)=true:=by simp[Region.wanted,hgd]
 rw[if_pos hw];have hrun:(execOp a.eval o).run P w=.ok (.enter f #[y1,y2]) w:=by
  have e:a.eval (.func f)=.func (.func f) #[] #[]:=rfl;unfold execOp;simp only[ho,resolve,invoke,Deferred.ofValue,Sem.run_bind,Sem.run_pure,Result.andThen_ok,List.map_toArray,List.map_cons,List.map_nil,hx1,hx2,e];exact hf #[y1,y2] w
 unfold Oper.wp;rw[hrun];refine Calls.mono h ?_;rintro e w' ⟨u,rfl,hk⟩;exact hk
theorem canonLen{n:Nat}{S:Nat→Int}(h:M.Canon n S):n≤256:=by
 obtain⟨h1,h2⟩:=h;obtain⟨k,rfl⟩:∃k,n=2*k:=⟨n / 2,by omega⟩
 have hp:=(M.pairs_canon S k).2 h2;have key:∀j,j<k→2*(j:Int)≤S (2*j):=by
  intro j;induction j with
  |zero=>intro hj;have:=(hp 0 hj).1;simp[M.least]at this;simpa using this
  |succ j ih =>
   intro hj;have a:=ih (by omega)
   have b:=(hp j (by omega)).2.1
   have c:=(hp (j+1) hj).1;unfold M.least at c;rw[if_neg (by omega),show 2*(j+1)-1=2*j+1 by omega]at c
   push_cast
   omega
 by_cases hk:k=0
 ·omega
 ·have a:=key (k-1) (by omega)
  have b:=hp (k-1) (by omega)
  have:=b.2.1;have:=b.2.2;omega
theorem l4size_seg(Q:Nat→Prop)(a:Option Addr)(n c:Nat)(T:Nat→OpD)(w:World)(hB:OpsA Q w a n T)(hk:∀i,i<n→0≤(T i).kind∧(T i).kind≤7)(hn:n≤2000){k:Nat}(h:wsum T n=k) :
  Calls Tryz.prog 69 #[.slice a n c] w fun e w'=>e=.returned (.int .i64 (k:Int))∧w=w':=by
 subst h;exact l4size_any Q a n c T w hB hk hn
theorem enter68(args:Array Value)(w:World):(callFunc 68 args).run Tryz.prog w=.ok (.enter 68 args) w:=by
 simp[callFunc,Tryz.func68,Tryz.f68,go_sem]
theorem enter67(args:Array Value)(w:World):(callFunc 67 args).run Tryz.prog w=.ok (.enter 67 args) w:=by
 simp[callFunc,Tryz.func67,Tryz.f67,go_sem]
theorem enter69(args:Array Value)(w:World):(callFunc 69 args).run Tryz.prog w=.ok (.enter 69 args) w:=by
 simp[callFunc,Tryz.func69,Tryz.f69,go_sem]
theorem enter40(args:Array Value)(w:World):(callFunc 40 args).run Tryz.prog w=.ok (.enter 40 args) w:=by
 simp[callFunc,Tryz.func40,Tryz.f40,go_sem]
theorem stepC1{P:Program}{ops:Array Oper}{o:Oper}{a:Act}{w:World}{K:Act→World→Prop}{P':Exit→Act→World→Prop}{E:Prop}{f:FuncId}(hf:∀args w,(callFunc f args).run P w=.ok (.enter f args) w)(hgd:o.guard=none)(x1:Operand)(t1:TypeId)
  (ho:o.op=.call { callee:=.value (.func f),args:=#[x1],argTypes:=#[t1] }) {y1:Value} (hx1:a.eval x1=y1) (h:Calls P f #[y1] w (fun e w'=>∃u,e=.returned u∧K (a.put o.dst u) w')):if Region.wanted o (yielded ops a.tmps)=true then Oper.wp P o a w K P' else E:=by
 have hw:Region.wanted o (yielded ops a.tmps)=true:=by simp[Region.wanted,hgd]
 rw[if_pos hw];have hrun:(execOp a.eval o).run P w=.ok (.enter f #[y1]) w:=by
  have e:a.eval (.func f)=.func (.func f) #[] #[]:=rfl;unfold execOp;simp only[ho,resolve,invoke,Deferred.ofValue,Sem.run_bind,Sem.run_pure,Result.andThen_ok,List.map_toArray,List.map_cons,List.map_nil,hx1,e];exact hf #[y1] w
 unfold Oper.wp;rw[hrun];refine Calls.mono h ?_;rintro e w' ⟨u,rfl,hk⟩;exact hk
theorem stepC3{P:Program}{ops:Array Oper}{o:Oper}{a:Act}{w:World}{K:Act→World→Prop}{P':Exit→Act→World→Prop}{E:Prop}{f:FuncId}(hf:∀args w,(callFunc f args).run P w=.ok (.enter f args) w)(hgd:o.guard=none)(x1 x2 x3:Operand)(t1 t2 t3:TypeId)
  (ho:o.op=.call { callee:=.value (.func f),args:=#[x1,x2,x3],argTypes:=#[t1,t2,t3] }) {y1 y2 y3:Value} (hx1:a.eval x1=y1) (hx2:a.eval x2=y2) (hx3:a.eval x3=y3) (h:Calls P f #[y1,y2,y3] w (fun e w'=>∃u,e=.returned u∧K (a.put o.dst u) w')):if Region.wanted o (yielded ops a.tmps)=true then Oper.wp P o a w K P' else E:=by
 have hw:Region.wanted o (yielded ops a.tmps)=true:=by simp[Region.wanted,hgd]
 rw[if_pos hw];have hrun:(execOp a.eval o).run P w=.ok (.enter f #[y1,y2,y3]) w:=by
  have e:a.eval (.func f)=.func (.func f) #[] #[]:=rfl;unfold execOp;simp only[ho,resolve,invoke,Deferred.ofValue,Sem.run_bind,Sem.run_pure,Result.andThen_ok,List.map_toArray,List.map_cons,List.map_nil,hx1,hx2,hx3,e];exact hf #[y1,y2,y3] w
 unfold Oper.wp;rw[hrun];refine Calls.mono h ?_;rintro e w' ⟨u,rfl,hk⟩;exact hk
theorem target_at(ra la sa:Option Addr)(nr rc nb lc sc:Nat)(o:OpD)(w:World)(hn:M.Names o){k a:Int}(hk:o.kind=k)(ha:o.arg=a)(h0:0≤o.arg)(h1:o.arg≤1048576)(h2:nr≤1048576) :
  Calls Tryz.prog 68 #[.agg #[.slice ra nr rc,.slice la nb lc],.agg #[.int .i64 k,.slice sa o.sl sc,.int .i64 a]] w fun e w'=>e=.returned (.int .i64 (M.tg nr o:Nat))∧Below w.heap.size w w':=by
 subst hk ha;exact l3target_any ra la sa nr rc nb lc sc o w hn h0 h1 h2
end
section
open Go.RowKit
open M (OpD NodeD Gr)
structure NS where
 a:Nat
 b:Nat
 c:Nat
 d:Nat
def NS.w(s:NS)(i:Nat):Nat:=if i=0 then s.a else if i=1 then s.b else if i=2 then s.c else if i=3 then s.d else 0
structure NS.OK(s:NS):Prop where
 a:s.a<18446744073709551616
 b:s.b<18446744073709551616
 c:s.c<18446744073709551616
 d:s.d<18446744073709551616
def nz:NS:=⟨0,0,0,0⟩
instance:Inhabited NS:=⟨nz⟩
def NS.has(s:NS)(p:Nat):Bool:=(s.w (p / 64)).testBit (p%64)
def NS.put(s:NS)(p:Nat):NS :=
 ⟨if p / 64=0 then s.a ||| 2 ^ (p%64) else s.a,if p / 64=1 then s.b ||| 2 ^ (p%64) else s.b,if p / 64=2 then s.c ||| 2 ^ (p%64) else s.c,if p / 64=3 then s.d ||| 2 ^ (p%64) else s.d⟩
theorem NS.OK.zero:nz.OK:=⟨by decide,by decide,by decide,by decide⟩
theorem or_lt{x y:Nat}(hx:x<18446744073709551616)(hy:y<18446744073709551616):x ||| y<18446744073709551616:=Nat.or_lt_two_pow (n:=64) hx hy
theorem pow_lt{r:Nat}(h:r<64):2 ^ r<18446744073709551616:=Nat.pow_lt_pow_right (n:=64) (by decide) h
theorem NS.OK.put{s:NS}(h:s.OK)(p:Nat):(s.put p).OK:=by
 have hr:2 ^ (p%64)<18446744073709551616:=pow_lt (Nat.mod_lt _ (by decide))
 refine⟨?_,?_,?_,?_⟩<;>(simp only[NS.put];split)
 ·exact or_lt h.a hr
 ·exact h.a
 ·exact or_lt h.b hr
 ·exact h.b
 ·exact or_lt h.c hr
 ·exact h.c
 ·exact or_lt h.d hr
 ·exact h.d
def part(s t:NS)(k:Nat):NS:=⟨if 0<k then s.a ||| t.a else s.a,if 1<k then s.b ||| t.b else s.b,if 2<k then s.c ||| t.c else s.c,if 3<k then s.d ||| t.d else s.d⟩
def nsc(s:NS):Obj:=.cells #[.int .u64 s.a,.int .u64 s.b,.int .u64 s.c,.int .u64 s.d] 100
end
section
open Go.RowKit
open M (OpD NodeD Gr)
set_option maxHeartbeats 1000000 in
theorem nodeMeant_any(ra la sa:Option Addr)(nr rc nb lc sc:Nat)(o:OpD)(w:World)(h0:0≤o.arg)(h1:o.arg≤1048576)(h2:nr≤1048576) :
  Calls Tryz.prog 78 #[.agg #[.slice ra nr rc,.slice la nb lc],.agg #[.int .i64 o.kind,.slice sa o.sl sc,.int .i64 o.arg]] w fun e w'=>e=.returned (.int .i64 (M.tg nr o:Nat))∧Below w.heap.size w w':=by
 by_cases e3:o.kind=3
 ·have f3:(o.kind==3)=true:=by simp[e3]
  have E3:Hid (o.kind=3):=e3;clear e3;go_enter Tryz.func78,Tryz.ntmps78;go_wp2;go_ret;exact⟨ret_int (by unfold M.tg;rw[if_pos E3.out];omega),bel2 w _ _⟩
 ·have f3:(o.kind==3)=false:=by simp[e3]
  have E3:Hid (¬o.kind=3):=e3;clear e3;go_enter Tryz.func78,Tryz.ntmps78;go_wp2;go_ret;exact⟨ret_int (by unfold M.tg;rw[if_neg E3.out];omega),bel2 w _ _⟩
def At(w:World)(b:Nat)(s:NS):Prop:=w.heap[b]? = some (nsc s)
theorem At.cells{w:World}{b:Nat}{s:NS}(h:At w b s):w.cell? ⟨b,0,none⟩=some (.int .u64 s.a)∧w.cell? ⟨b,1,none⟩=some (.int .u64 s.b)∧w.cell? ⟨b,2,none⟩=some (.int .u64 s.c)∧w.cell? ⟨b,3,none⟩=some (.int .u64 s.d):=by
 unfold At at h;simp[World.cell?,h,nsc]
theorem At.soft{w:World}{b:Nat}{s:NS}(h:At w b s):w.frozen? ⟨b,0,none⟩=false∧w.frozen? ⟨b,1,none⟩=false∧w.frozen? ⟨b,2,none⟩=false∧w.frozen? ⟨b,3,none⟩=false:=by
 unfold At at h;simp[World.frozen?,h,nsc]
theorem At.lt{w:World}{b:Nat}{s:NS}(h:At w b s):b<w.heap.size:=(Array.getElem?_eq_some_iff.1 h).1
theorem At.new(w:World)(s:NS):At (w.alloc (nsc s)) w.heap.size s:=World.alloc_heap_new w (nsc s)
theorem At.later{w w':World}{b:Nat}{s:NS}(h:At w b s)(k:Below w.heap.size w w'):At w' b s:=(k.block b h.lt).trans h
theorem At.keep{w w':World}{b:Nat}{s:NS}(h:At w b s)(k:w'.heap[b]? = w.heap[b]?):At w' b s:=k.trans h
def set4(w:World)(b:Nat)(s:NS):World:=(((w.setCell ⟨b,0,none⟩ (.int .u64 s.a)).setCell ⟨b,1,none⟩ (.int .u64 s.b)).setCell ⟨b,2,none⟩ (.int .u64 s.c)).setCell ⟨b,3,none⟩ (.int .u64 s.d)
theorem set_block{w:World}{b:Nat}{cs:Array Value}{t:TypeId}(h:w.heap[b]? = some (.cells cs t))(o:Nat)(v:Value):(w.setCell ⟨b,o,none⟩ v).heap[b]? = some (.cells (cs.setIfInBounds o v) t):=by
 have hb:b<w.heap.size:=(Array.getElem?_eq_some_iff.1 h).1;simp[World.setCell,Array.getElem?_modify,h]
theorem At.set{w:World}{b:Nat}{s:NS}(h:At w b s)(t:NS):At (set4 w b t) b t :=
 set_block (set_block (set_block (set_block h 0 (.int .u64 t.a)) 1 (.int .u64 t.b)) 2 (.int .u64 t.c)) 3 (.int .u64 t.d)
end
end Go.Proofs.YtcbnnfnlilbjeaaGreat
