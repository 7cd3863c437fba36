import Derived.Test.YthicmmhmmfhncaaGreatT40
import Derived.Test.YthicmmhmmfhncaaGreatT43
import Derived.Test.YthicmmhmmfhncaaGreatT49
import Derived.Test.YthicmmhmmfhncaaGreatT52
import Derived.Test.YthicmmhmmfhncaaGreatRows
import Derived.Test.YthicmmhmmfhncaaGreatT17
import Derived.WalkKit
import Derived.ProofKit
import Derived.OpenShut
import Derived.Deep.Slices
import Derived.Deep.Strs
import Derived.ShutString
import Derived.ChangeOld
import Derived.Deep.RegionWith
set_option linter.unusedVariables false
set_option linter.unusedSimpArgs false
namespace Go.Proofs.YthicmmhmmfhncaaGreat
section
open Go.RowKit
open M (OpD uj Gr)
theorem uj0{Q Q':Nat→Prop}{w:World}{v:Value}{s:ByteArray}(h:OutQ Q w v s)(k:∀b,Q b→Q' b)(hl:∀b,Q' b→b<w.heap.size):OutQ Q' w v s:=⟨ug3 h.own k,hl⟩
theorem uj1{g:Gr}{s:ByteArray}(hV:M.Valid g)(hT:s=uaY g)(ra la:Option Addr)(rc lc:Nat){Q:Nat→Prop}{w:World}(hG:GramA Q w ra la g)(hs:yb g) :
  Calls Tryz.prog 8 #[.agg #[.slice ra g.nr rc,.slice la g.nb lc]] w (fun e w'=>∃a c,e=.returned (.slice a s.size c)∧OutQ (New w w') w' (.slice a s.size c) s∧Below w.heap.size w w'):=by
 refine (uch Q ra la rc lc g w hG hs).mono ?_;rintro e w' ⟨v,rfl,h⟩;have hN:NewOut w w' v s:=by
  rcases h with⟨h1,h2⟩|⟨h1,rfl,h2⟩
  ·rw[hT];exact h2
  ·exact absurd hV h1
 obtain⟨a,c,rfl⟩:=Gone.shape hN;have hb:=hN.below;obtain⟨Q',h1,h2,h3⟩:=hN;exact⟨a,c,rfl,uj0 h1 (fun b q=>⟨(h2 b q).elim (fun x=>x.elim) id,h1.lt b q⟩) (fun b q=>q.2),hb⟩
theorem uqr{Q:Nat→Prop}{w:World}{a:Option Addr}{c:Nat}{s:ByteArray}(h:OutQ Q w (.slice a s.size c) s):Ints Q .u8 w a s.size (bT s):=by
 obtain⟨a',c',e,h1,_⟩:=h.ints;cases e
 exact h1
theorem uqs{Q:Nat→Prop}{w:World}{a:Option Addr}{c:Nat}{s:ByteArray}(h:OutQ Q w (.slice a s.size c) s):s.size≤c:=by
 rcases h.own with⟨_,h0,_⟩|⟨g,cap,e,_,_,hc,_⟩
 ·omega
 ·injection e with _ _ e
  omega
def unO(s:ByteArray)(h:s.size≤4000):Tx:=⟨s.size,bT s,fun i=>by
 unfold bT;have:=(s.data.toList.getD i 0).toNat_lt;omega,by omega⟩
theorem up4(s:ByteArray)(h:s.size≤4000):AtB (unO s h) 0 (bl s):=by
 refine⟨by rw[umE,Nat.zero_add];exact Nat.le_refl _,fun k x hx=>?_⟩
 unfold bl at hx;rw[List.getElem?_map]at hx;show bT s (0+k)=x;unfold bT;rw[Nat.zero_add,List.getD_eq_getElem?_getD];cases e:s.data.toList[k]? with
 |none=>rw[e]at hx;cases hx
 |some y=>rw[e]at hx;injection hx
theorem ufa{Q:Nat→Prop}{k:IntKind}{w:World}{a:Option Addr}{n:Nat}{S T:Nat→Int}(h:Ints Q k w a n S)(e:∀i,i<n→S i=T i):Ints Q k w a n T:=by
 rcases h with h | ⟨b,off,h1,h2,h3⟩
 ·exact .inl h
 ·exact .inr ⟨b,off,h1,h2,fun i hi=>by rw[h3 i hi,e i hi]⟩
theorem umm{Q:Nat→Prop}{w:World}{a:Option Addr}{n:Nat}{B C:Nat→OpD}(h:OpsA Q w a n B)(e:∀i,i<n→(B i).kind=(C i).kind∧(B i).arg=(C i).arg∧(B i).sl=(C i).sl∧∀j,j<(C i).sl→(B i).set j=(C i).set j):OpsA Q w a n C:=by
 rcases h with h | ⟨b,off,h1,h2,h3⟩
 ·exact .inl h
 ·refine .inr ⟨b,off,h1,h2,fun i hi=>?_⟩
  obtain⟨q1,⟨sa,sc,q2,q2'⟩,q3⟩:=h3 i hi;obtain⟨e1,e2,e3,e4⟩:=e i hi;exact⟨by rw[q1,e1],⟨sa,sc,by rw[q2,e3],ufa (e3▸q2') (fun j hj=>e4 j hj)⟩,by rw[q3,e2]⟩
theorem uj2{Q:Nat→Prop}{w:World}{ra la:Option Addr}{a b:Gr}(h:GramA Q w ra la a)(s:uhg a b):GramA Q w ra la b:=by
 have hb:∀{x y:uj} {ba:Option Addr},uhf x y→OpsA Q w ba x.bl x.body→OpsA Q w ba y.bl y.body:=fun {x y ba} hn ho=>by
  have:=hn.bl;rw[this]at ho;exact umm ho (fun i hi=>hn.body i hi)
 have hm:∀{x y:uj} {na:Option Addr},uhf x y→Ints Q .u8 w na x.nl x.name→Ints Q .u8 w na y.nl y.name:=fun {x y na} hn ho=>by
  have:=hn.nl;rw[this]at ho;exact ufa ho (fun i hi=>hn.name i hi)
 refine⟨?_,?_⟩
 ·rcases h.rules with h0 | ⟨p,off,h1,h2,h3⟩
  ·exact .inl (s.nr▸h0)
  ·refine .inr ⟨p,off,h1,h2,fun i hi=>?_⟩
   obtain⟨⟨na,nc,q1,q1'⟩,⟨ba,bc,q2,q2'⟩⟩:=h3 i (by rw[s.nr];exact hi)
   have e:=s.rule i hi;exact⟨⟨na,nc,by rw[q1,e.nl],hm e q1'⟩,⟨ba,bc,by rw[q2,e.bl],hb e q2'⟩⟩
 ·rcases h.labs with h0 | ⟨p,off,h1,h2,h3⟩
  ·exact .inl (s.nb▸h0)
  ·refine .inr ⟨p,off,h1,h2,fun i hi=>?_⟩
   obtain⟨⟨na,nc,q1,q1'⟩,q0,⟨ba,bc,q2,q2'⟩⟩:=h3 i (by rw[s.nb];exact hi)
   obtain⟨e,e'⟩:=s.lab i hi;exact⟨⟨na,nc,by rw[q1,e.nl],hm e q1'⟩,by rw[q0,e'],⟨ba,bc,by rw[q2,e.bl],hb e q2'⟩⟩
theorem IPIs.gram{t:Tx}{w w':World}{e:Ending}{c0 a0:Int}{g' g:Gr}(h:IPIs t w e w')(hp:PRs t c0 a0 g')(hs:uhg g' g):∃ra la rc lc,e=.returned (.tuple #[.agg #[.slice ra g.nr rc,.slice la g.nb lc],.int .i64 c0,.int .i64 a0])∧GramA (New w w') w' ra la g∧Below w.heap.size w w':=by
 obtain⟨code,at_,g2,G,rv,lv,rs,cs,hP,rfl,hB,hg,hK,hS⟩:=h;obtain⟨rfl,rfl,rfl⟩:=unA hP hp;obtain⟨ra,rc,la,lc,erv,elv,hX⟩:=hB.grP.gram;subst erv elv;rw[hg]at hX;have e1:g.nr=rs.length:=by rw[←hs.nr,←hg];show (rs.map (·.d)).length=_;rw[List.length_map]
 have e2:g.nb=cs.length:=by rw[←hs.nb,←hg];show (cs.map (·.d)).length=_;rw[List.length_map]
 exact⟨ra,la,rc,lc,by rw[e1,e2],uj2 hX.plain hs,hK.bel⟩
end
section
open Go.RowKit
open M (OpD uj Gr)
set_option maxRecDepth 100000 in
set_option maxHeartbeats 16000000 in
theorem up5(Q:Nat→Prop)(a:Option Addr)(n c:Nat)(S:Nat→Int)(w:World)(hI:Ints Q .u8 w a n S)(hB:Byt n S)(hc:n≤c)(hnil:a=none→n=0∧c=0)(hnm:n≤9223372036854775807) :
  Calls Tryz.prog 3 #[.slice a n c] w fun e w'=>e=.returned (.bool true)∧Below w.heap.size w w':=by
 have HI:Hid (Ints Q .u8 w a n S):=hI;clear hI;by_cases h1:1048576<n
 ·have h1':(1048576:Int)<(n:Int):=by omega
  go_enter Tryz.func3,Tryz.ntmps3;go_wp2;go_ret;exact⟨rfl,Below.refl _ _⟩
 have h1':¬(1048576:Int)<(n:Int):=by omega
 obtain⟨g,hg⟩:∃g,ugv (ujN n S hB)=g:=⟨_,rfl⟩;have HSG:Hid (yb g):=hg▸ugw _;have HDR:Hid (∀W,Ints Q .u8 W a n S→Calls Tryz.prog 4 #[.slice a n c] W (uhN g W)):=fun W hW=>hg▸uev Q a n c S W hW hB (by omega) hc hnil
 clear hg hB hnil h1;go_enter Tryz.func3,Tryz.ntmps3;go_wp2_with fail;refine Calls.mono (HDR.out w HI.out) ?_;rintro e W1 ⟨ra,rc,la,lc,rfl,hX,hb1⟩;have HX1:Hid (GramX (New w W1) W1 ra la g):=hX;have HB1:Hid (Below w.heap.size w W1):=hb1;clear hX hb1;go_wp2_with fail;have hbx:=World.alloc_heap_new W1 (.cells #[.slice ra g.nr rc,.slice la g.nb lc] 26);have hbX:=up W1 (.cells #[.slice ra g.nr rc,.slice la g.nb lc] 26);generalize W1.alloc (.cells #[.slice ra g.nr rc,.slice la g.nb lc] 26)=X1 at *;have HBX:Hid (Below W1.heap.size W1 X1):=hbX;have HXB:Hid (X1.heap[W1.heap.size]? = some (.cells #[.slice ra g.nr rc,.slice la g.nb lc] 26)):=hbx;have hsX:W1.heap.size<X1.heap.size:=(Array.getElem?_eq_some_iff.1 hbx).1;clear hbx hbX;refine (uei (New w W1) ra la rc lc g X1 (HX1.out.later HBX.out).plain HSG.out).mono ?_;rintro e W2 ⟨⟨r,rfl,hr⟩,hb2⟩;have HB2:Hid (Below X1.heap.size X1 W2):=hb2;have HBW2:Hid (Below w.heap.size w W2):=uh (uh HB1.out HBX.out) hb2;clear hb2;cases r with
 |false =>
  clear hr;go_wp2;go_ret;exact⟨rfl,HBW2.out⟩
 |true =>
  have HV:Hid (M.Valid g):=hr.1 rfl;clear hr;have HG2:Hid (GramX (New w W1) W2 ra la g):=(HX1.out.later HBX.out).later HB2.out;have hbk:W2.heap[W1.heap.size]? = some (.cells #[.slice ra g.nr rc,.slice la g.nb lc] 26):=(HB2.out.block W1.heap.size hsX).trans HXB.out;have HBK:Hid (W2.heap[W1.heap.size]? = some (.cells #[.slice ra g.nr rc,.slice la g.nb lc] 26)):=hbk;have c0:W2.cell? ⟨W1.heap.size,0,none⟩=some (.slice ra g.nr rc):=ud hbk rfl;have c1:W2.cell? ⟨W1.heap.size,1,none⟩=some (.slice la g.nb lc):=ud hbk rfl;clear hbk HXB HB2 HBX HX1 HB1;have hsW:W1.heap.size<W2.heap.size:=ub c0;obtain⟨s,hs⟩:∃s,s=uaY g:=⟨_,rfl⟩;have HTX:Hid (s=uaY g):=hs;have hsz:s.size≤2700000:=by rw[hs];exact uaZ HV.out _ (Nat.le_refl _)
  clear hs;go_wp2_with fail;refine (uii (New w W1) ra la rc lc g s W2 HG2.out HSG.out (.inl ⟨HV.out,HTX.out⟩)).mono ?_;rintro e W3 ⟨a3,c3,rfl,hI3,hb3⟩;have HB3:Hid (Below W2.heap.size W2 W3):=hb3;clear hI3 hb3;by_cases h4:4000<s.size
  ·have h4':(4000:Int)<(s.size:Int):=by omega
   go_wp2;go_ret;exact⟨rfl,uh HBW2.out HB3.out⟩
  ·have h4':¬(4000:Int)<(s.size:Int):=by omega
   have h4n:s.size≤4000:=by omega
   go_wp2_with fail;refine Calls.mono (HDR.out W3 (HI.out.later (uh HBW2.out HB3.out))) ?_;rintro e W4 ⟨ra4,rc4,la4,lc4,rfl,hX4,hb4⟩;have HX4:Hid (GramX (New W3 W4) W4 ra4 la4 g):=hX4;have HB4:Hid (Below W3.heap.size W3 W4):=hb4;clear hX4 hb4;go_wp2_with fail;refine (uj1 HV.out HTX.out ra4 la4 rc4 lc4 HX4.out.plain HSG.out).mono ?_;rintro e W5 ⟨a5,c5,rfl,hO5,hb5⟩;have HB5:Hid (Below W4.heap.size W4 W5):=hb5;have HIP:Hid (Calls Tryz.prog 7 #[.slice a5 s.size c5] W5 (IPIs (unO s h4n) W5)):=uhz (unO s h4n) a5 c5 W5 (vu (uqr hO5) (fun b q=>q.2)) (uqs hO5)
   clear hO5 hb5;go_wp2_with fail;refine HIP.out.mono ?_;rintro e W6 hip;obtain⟨g',hP,hSm⟩:=uih HV.out (t:=unO s h4n) (by show s.size=_;rw[HTX.out]) (by have e:bl s=bl (uaY g):=congrArg bl HTX.out;rw[←e];exact up4 s h4n) h4n
   obtain⟨ra6,la6,rc6,lc6,rfl,hg6,hb6⟩:=hip.gram hP hSm;have HG6:Hid (GramA (New W5 W6) W6 ra6 la6 g):=hg6;have HB36:Hid (Below W2.heap.size W2 W6):=uh HB3.out (uh HB4.out (uh HB5.out hb6));have d0:∀o,(W6.alloc o).cell? ⟨W1.heap.size,0,none⟩=some (.slice ra g.nr rc):=fun o=>ug c0 (uh HB36.out (up W6 o))
   have d1:∀o,(W6.alloc o).cell? ⟨W1.heap.size,1,none⟩=some (.slice la g.nb lc):=fun o=>ug c1 (uh HB36.out (up W6 o))
   clear hip hP hSm hg6 hb6 HIP c0 c1;go_wp2_with fail;refine (ucV _ _ ra6 ra la6 la rc6 rc lc6 lc g _ (HG6.out.later (up W6 _)) (HG2.out.plain.later (uh HB36.out (up W6 _))) HSG.out).mono ?_;rintro e W7 ⟨⟨r,rfl,hr⟩,hb7⟩;obtain rfl:r=true:=hr.2 trivial;have HB7:Hid _:=hb7;clear hr hb7;go_wp2;go_ret;exact⟨rfl,uh HBW2.out (uh HB36.out (uh (up W6 _) HB7.out))⟩
end
namespace fnPrint
open Go.ChangeShapes Go.WideShapes Go.ChangeAt Go.RowKit Go.Deep
theorem own:ownKnob Tryz.prog.godebug=none:=by kernel_rfl
theorem unP:laidOutB Tryz.prog=true:=by kernel_rfl
theorem unQ:Tryz.prog.cellsOf 5=1:=by kernel_rfl
theorem upi(b off i:Nat):(⟨b,off,none⟩:Addr).add i=⟨b,off+i,none⟩:=by
 by_cases h0:i=0
 ·subst h0;simp[Addr.add]
 ·simp[Addr.add,h0]
theorem uj3{H:Type}{enc:TypeId×Value→H}{w:World}{base:Nat}{spare:Nat→Bool}{held:Bool}{fuel:Nat}{cs:List Value}{x:DataW H×List MemPlace}(h:DataW.trod enc Tryz.prog w base spare held fuel 22 cs=some x) :
  ∃a n c S,cs = [.slice a n c]∧Ints (fun _=>True) .u8 w a n S∧n≤9223372036854775807∧Byt n S∧n≤c∧(a=none→n=0∧c=0):=by
 rcases open_ints Tryz.underlying22 Tryz.underlying5 unQ h with⟨rfl,_⟩|⟨a,len,cap,zs,rfl,_,hl,hm,hz,_,hcell,hwf⟩
 ·exact⟨none,0,0,fun _=>0,rfl,.inl rfl,by omega,(fun i hi=>by omega),Nat.le_refl _,fun _=>⟨rfl,rfl⟩⟩
 ·have hle:len≤zs.length:=by rw[hz];split<;>omega
  have hmx:len≤9223372036854775807:=by have:=hm;unfold maxLen at this;omega
  refine⟨some a,len,cap,fun i=>zs.getD i 0,rfl,?_,hmx,(fun i hi=>?_),by omega,fun e=>by cases e⟩
  ·by_cases h0:len=0
   ·exact .inl h0
   ·obtain⟨b,off,spot⟩:=a
    have hc0:=hcell 0 (by omega)
    have hspot:spot=none:=by simpa[Addr.add] using World.cell?_spot hc0
    subst hspot;refine .inr ⟨b,off,rfl,trivial,fun i hi=>?_⟩
    have:=hcell i (by omega)
    rwa [upi]at this
  ·have hi':i<zs.length:=by omega
   have:zs.getD i 0∈zs:=by
    rw[List.getD_eq_getElem?_getD,List.getElem?_eq_getElem hi'];exact List.getElem_mem hi'
   exact bounds_u8 (hwf _ this)
set_option maxRecDepth 100000 in
theorem upj(os:Os)(started:os.Started)(H:Type)(enc:TypeId×Value→H) :
  ReturnsInHanded {} Tryz.checked os 3 .any (Rows.fnPrintSpec.pre6 enc Tryz.prog Tryz.f3 Rows.fnPrintRow.domain false) (Rows.fnPrintSpec.post enc Tryz.prog Tryz.f3 false true false false):=by
 refine returnsInHanded_of_change (C:=Tryz.checked) own started (by kernel_rfl) Tryz.func3
  (ChangeSpec.witness6 (enc:=enc) (C:=Tryz.checked) false ⟨#[],#[.slice none 0 0],[]⟩ 8 (by kernel_rfl) (by kernel_rfl) (by kernel_rfl) (by kernel_rfl)) ?_
 intro W base args ds gs before hval0 hW hcnd _;have hval:∀(j:Nat) t v,Tryz.f3.params[j]? = some t→args[j]? = some v→Value.okWide Tryz.prog W .any base t v:=hval0;have hW':=hW;obtain⟨p,q,hA0,hV,rfl,hfz,hnd⟩:=hW;have hA:DataW.TrodAll enc Tryz.prog W 0 (fun _=>true) true Tryz.f3.params.toList args.toList ds p:=hA0
 rw[Tryz.params3]at hA hval;obtain⟨v0,vs0,d0,ds0,p0,q0,hargs,rfl,rfl,h0,r0⟩:=trodAll_cons hA;obtain⟨rfl,rfl,rfl⟩:=trodAll_nil r0;obtain rfl:args=#[v0]:=by cases args;simp_all
 obtain⟨rfl,rfl⟩:=trodVars_none hV;obtain⟨a0,len0,cap0,rfl⟩:=okWide_slice Tryz.underlying22 (hval 0 22 v0 rfl rfl);have k0:=h0;have lt0:∀x∈p0,x.block<W.heap.size:=by obtain⟨m,hm⟩:=k0;exact DataW.trod_lt m _ _ _ hm
 obtain⟨S,hS,hn,hB,hc,hnl⟩:∃S:Nat→Int,Ints (fun _=>True) .u8 W a0 len0 S∧len0≤9223372036854775807∧Byt len0 S∧len0≤cap0∧(a0=none→len0=0∧cap0=0):=by
  obtain⟨fuel,hf⟩:=h0;obtain⟨a,n,c,S,e,hS,hn,hB,hc,hnl⟩:=uj3 hf;simp[Value.cells]at e;obtain⟨rfl,rfl,rfl⟩:=e;exact⟨S,hS,hn,hB,hc,hnl⟩
 clear hA0 hval0;refine (up5 (fun _=>True) a0 len0 cap0 S W hS hB hc hnl hn).mono fun e W' ⟨he,bel⟩=>?_
 subst he;exact⟨_,rfl,_,_,_,[],_,[],hW',trodAll_mk1 (shut_bool Tryz.underlying4 _),(trodAll_cons_mk (Below.trod unP (by kernel_rfl) (of_decide_eq_true (by kernel_rfl)) k0 bel lt0) trodAll_mk0),rfl,bel.frame _,fun h=>by cases h⟩
theorem over:Rows.fnPrintRow.holds Tryz.pinned (OpenSpec.ofChange Rows.fnPrintSpec) :=
 OpenClaim.holds_of_wide 3 Tryz.f3 rfl rfl rfl rfl rfl rfl rfl ⟨rfl,rfl,rfl,rfl,rfl⟩ rfl rfl rfl rfl rfl (by kernel_rfl) Tryz.func3 (by kernel_rfl)
  (of_decide_eq_true (by kernel_rfl)) (by unfold Func.isWrapper;first|(rw[if_pos (by decide +kernel)];kernel_rfl)|(rw[if_neg (by decide +kernel)];exact⟨rfl,rfl⟩))
  (fun os started H enc _=>upj os started H enc)
end fnPrint
section
theorem fnPrint_holds:Rows.FnPrintSaid:=fnPrint.over
end
end Go.Proofs.YthicmmhmmfhncaaGreat
