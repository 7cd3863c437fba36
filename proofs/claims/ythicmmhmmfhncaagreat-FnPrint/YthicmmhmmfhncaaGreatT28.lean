import Derived.Test.YthicmmhmmfhncaaGreatT27
import Derived.Test.YthicmmhmmfhncaaGreatT25
import Derived.Test.YthicmmhmmfhncaaGreatT19
set_option linter.unusedVariables false
set_option linter.unusedSimpArgs false
namespace Go.Proofs.YthicmmhmmfhncaaGreat
section
open Go.RowKit
open M (OpD uj Gr)
theorem uoQ:(Tryz.prog.info? 51).map (fun i=>(i.zero,i.size,i.bytes))=some (some (.agg #[.int .u8 0,.int .i64 0,.string ⟨#[]⟩,.slice none 0 0]),4,56):=by kernel_rfl
theorem ulg:xM 53 51 4 56:=⟨Tryz.underlying53,⟨_,uoQ,rfl⟩,by omega⟩
theorem ulh(W:World)(a b:Int)(z:ByteArray)(sa:Option Addr)(n sc:Nat){ty:TypeId}:Src Tryz.prog 4 53 (.slice (some ⟨W.heap.size,0,none⟩) 1 1) 1 [.int .u8 a,.int .i64 b,.string z,.slice sa n sc] (W.alloc (.cells #[.int .u8 a,.int .i64 b,.string z,.slice sa n sc] ty)) :=
  yH Tryz.underlying53 rfl (fun j u hu=>by
    have hb:=World.alloc_heap_new W (.cells #[.int .u8 a,.int .i64 b,.string z,.slice sa n sc] ty);simp only[World.cell?,hb];rw[←hu];simp) (fun u hu=>by
    simp only[List.mem_cons,List.not_mem_nil,or_false]at hu;rcases hu with rfl | rfl | rfl | rfl<;>rfl)
theorem uhx{A:Nat→Prop}{w2 w3:World}{v:Value}{n:Nat}{cs:List Value}(h:OwnC (fun b=>A b∨w2.heap.size≤b) w3 v 4 (n+1) cs):OwnC (fun b=>A b∨New w2 w3 b) w3 v 4 (n+1) cs:=by
  rcases h with h | ⟨g,cap,e,hq,h1,h2,h3,h4⟩
  · exact absurd h.2.1 (by omega)
  · refine .inr ⟨g,cap,e,?_,h1,h2,h3,h4⟩
    rcases hq with q | q
    · exact .inl q
    · obtain⟨u,hu⟩:∃u,cs[0]? = some u:=⟨_,List.getElem?_eq_getElem (by omega)⟩
      have:=ub ((h3 0 (by omega)).trans hu)
      exact .inr ⟨q,this⟩
theorem RS.addRef{rb:Nat}{t:Tx}{r:Rv}{k:Tok}{sa:Option Addr}{sc i:Nat}{l rf th:List Tok}{A B N:Nat→Prop}{w2 w3:World}(h:RS rb t r k sa sc i l rf th A B N w2){v':Value}{x:Tok}{sx:Option Addr}{sn sm:Nat}{cs:List Value}(hcs:TkCs rf cs)(ho:OwnC (fun b=>A b∨w2.heap.size≤b) w3 v' 4 (rf.length+1) (cs++tkC x (.slice sx sn sm)))(hg:Grew (fun b=>A b) w2 w3)(hbig:rf.length+1+th.length+l.length≤1000000) :
    RS rb t { r with v7:=v' } k sa sc i l (rf++[x]) th (fun b=>A b∨New w2 w3 b) B N (w3.setCell ⟨rb,7,none⟩ v'):=by
  have hs:=hg.size;have hrb:=h.blk.lt;have hA:¬A rb:=fun q=>(h.apt.rows rb q).2.1 rfl
  have hst:∀b,b<w2.heap.size→¬A b→b≠rb→(w3.setCell ⟨rb,7,none⟩ v').heap[b]? = w2.heap[b]?:=fun b h1 h2 h3=>(Below.heap_setCell _ _ _ _ h3).trans (hg.block b h1 h2)
  have hb3:RB rb t (yy r k sa sc) i w3:=(hg.block rb hrb hA).trans h.blk;refine⟨xp v' hb3,h.set.on (fun b q=>hst b (h.apt.set b q).1 (fun z=>(h.apt.rows b z).2.2.2 q) (h.apt.set b q).2),?_,h.thrs.on (fun b q=>hst b (h.apt.thrs b q).1 (fun z=>(h.apt.rows b z).2.2.1 q) (h.apt.thrs b q).2.1) (fun b q=>q),h.left,?_,h.cap,⟨?_,?_,?_⟩,h.tok,h.kind,?_,h.tn⟩
  · refine⟨cs++tkC x (.slice sx sn sm),?_,hcs.snoc⟩
    rw[List.length_append];refine (uhx ho).on (fun b q=>Below.heap_setCell _ _ _ _ ?_)
    rcases q with q | q
    · exact (h.apt.rows b q).2.1
    · have:=q.1;show b≠rb;omega
  · exact vu (xf h.txt (fun b q=>hst b q.1 q.2.2.1 q.2.1)) (fun b q=>⟨by have:=q.1;simp only[ul];omega,q.2.1,(fun z=>z.elim q.2.2.1 (fun z=>by have:=z.1;have:=q.1;omega)),q.2.2.2⟩)
  · rintro b (q | q)
    · exact⟨by have:=(h.apt.rows b q).1;simp only[ul];omega,(h.apt.rows b q).2⟩
    · exact⟨by have:=q.2;simp only[ul];omega,by have:=q.1;omega,fun z=>by have:=q.1;have:=(h.apt.thrs b z).1;omega,fun z=>by have:=q.1;have:=(h.apt.set b z).1;omega⟩
  · exact fun b q=>⟨by have:=(h.apt.thrs b q).1;simp only[ul];omega,(h.apt.thrs b q).2⟩
  · exact fun b q=>⟨by have:=(h.apt.set b q).1;simp only[ul];omega,(h.apt.set b q).2⟩
  · rw[List.length_append];simp only[List.length_cons,List.length_nil];omega
theorem uhy{rb:Nat}{A B:Nat→Prop}{w2 w3:World}{v:Value}{o:Nat}(hg:Grew (fun b=>A b) w2 w3):Keep (C3 rb A B) w2 (w3.setCell ⟨rb,o,none⟩ v) :=
  ⟨hg.os,hg.tape,hg.output,by simp only[ul];exact hg.size,fun b hb hc=>(Below.heap_setCell _ _ _ _ (fun e=>hc (.inl e))).trans (hg.block b hb (fun q=>hc (.inr (.inl q))))⟩
theorem uli{rb:Nat}{t:Tx}{r:Rv}{k:Tok}{sa:Option Addr}{sc i:Nat}{l1 rf th:List Tok}{A B N:Nat→Prop}{w w1 w2 w3:World}(h:RS rb t r k sa sc i (k::l1) rf th A B N w)(hk:Keep (fun b=>b=rb) w w1){k1:Tok}{sa1:Option Addr}{sc1 i1:Nat}{N1:Nat→Prop}(h1:RS rb t r k1 sa1 sc1 i1 l1 rf th A B N1 w1)(hN:∀b,N1 b→New w w1 b)
    (hk2:Keep (fun _=>False) w1 w2) {v':Value} {sx:Option Addr} {sn sm:Nat} {cs:List Value} (hcs:TkCs rf cs) (ho:OwnC (fun b=>A b∨w2.heap.size≤b) w3 v' 4 (rf.length+1) (cs++tkC k (.slice sx sn sm))) (hg:Grew (fun b=>A b) w2 w3) :
    Keep (C3 rb A B) w (w3.setCell ⟨rb,7,none⟩ v')∧RdOK rb t r 1 (k::l1) rf th A B N w (.ref k) l1 (.iface 117 (.agg #[.string (str k.nm.length (lf k.nm))])) (w3.setCell ⟨rb,7,none⟩ v') v' r.v8 k1 sa1 sc1 i1 (fun b=>A b∨New w2 w3 b) B N1 (fun _=>False):=by
  have hs:=hk.size;have hs2:=hk2.size;have hs3:=hg.size;refine⟨(uY hk).trans ((hk2.mono (fun b q=>q.elim)).trans (uhy hg)),by simp,?_,rfl,?_,fun b q=>.inl q,fun b q=>.inr ⟨(hN b q).1,by have:=(hN b q).2;simp only[ul];omega⟩,fun b q=>q.elim⟩
  · have:=(h1.kept hk2).addRef hcs ho hg (by have:=h.big;simp only[List.length_cons]at this;omega)
    rw[show PE.refT (.ref k) = [k] from rfl,show PE.thrT (.ref k) = [] from rfl,List.append_nil]
    exact this
  · rintro b (q | q)
    · exact .inl q
    · exact .inr ⟨by have:=q.1;omega,by simp only[ul];exact q.2⟩
set_option maxHeartbeats 1000000 in
set_option maxRecDepth 100000 in
theorem ulj{F:Nat}(rb:Nat)(t:Tx)(r:Rv)(k:Tok)(sa:Option Addr)(sc i:Nat)(l rf th:List Tok)(A B N:Nat→Prop)(w:World)(hS:RS rb t r k sa sc i l rf th A B N w)(hk:k.kind=110):Calls Tryz.prog 124 #[.pointer (some ⟨rb,0,none⟩)] w (vt (rd t.n (F+1) 0 .emp l) 1 rb t r l rf th A B N w):=by
  obtain⟨l1,rfl⟩:=hS.cons (by rw[hk];omega)
  have HS:Hid (RS rb t r k sa sc i (k::l1) rf th A B N w):=hS;have HR:Hid (rd t.n (F+1) 0 .emp (k::l1)=.inr (.ref k,l1)):=by
    rw[rd.eq_def];simp only[hk];rfl
  have HKI:Hid (kk k.kind=97):=by rw[hk];rfl
  have hrb:=hS.blk.lt;have c2:w.cell? ⟨rb,2,none⟩=some (.int .u8 97):=by
    have h:w.cell? ⟨rb,2,none⟩=some (.int .u8 (kk k.kind)):=ud hS.blk rfl;rw[hk]at h;exact h
  have c3:w.cell? ⟨rb,3,none⟩=some (.int .i64 (k.at_:Nat)):=ud hS.blk rfl;have c4:w.cell? ⟨rb,4,none⟩=some (.string (str k.nm.length (lf k.nm))):=ud hS.blk rfl;have c5:w.cell? ⟨rb,5,none⟩=some (.slice sa k.set.length sc):=ud hS.blk rfl;clear hS hk;generalize hsz:str k.nm.length (lf k.nm)=sz at *;have HSZ:Hid (str k.nm.length (lf k.nm)=sz):=hsz;clear hsz;go_enter Tryz.func124,Tryz.ntmps124;go_wp2_with fail;obtain⟨W0,hW0⟩:∃W0,W0=w.alloc (.cells #[.int .u8 97,.int .i64 (k.at_:Nat),.string sz,.slice sa k.set.length sc] 51):=⟨_,rfl⟩;have HK0:Hid (Keep (fun _=>False) w W0):=by rw[hW0];exact Keep.alloc _ _ _
  have HC0:Hid (W0.heap[w.heap.size]? = some (.cells #[.int .u8 97,.int .i64 (k.at_:Nat),.string sz,.slice sa k.set.length sc] 51)):=by rw[hW0];exact yX w _ _ rfl
  rw[←hW0];clear hW0 c2 c3 c4 c5;refine (udr (HS.out.kept HK0.out)).mono ?_;rintro e W1 ⟨hk1,⟨vv,k1,sa1,sc1,i1,rfl,hS1⟩|⟨y,rfl,hy,rfl⟩⟩
  · have HK1:Hid (Keep (fun b=>b=rb) w W1):=(yh HK0.out).trans hk1
    have HN1:Hid (∀b,New W0 W1 b→New w W1 b):=fun b q=>vd HK0.out.size q
    have cC:W1.heap[w.heap.size]? = some (.cells #[.int .u8 97,.int .i64 (k.at_:Nat),.string sz,.slice sa k.set.length sc] 51):=(hk1.block w.heap.size (Array.getElem?_eq_some_iff.1 HC0.out).1 (by show ¬w.heap.size=rb;omega)).trans HC0.out
    have y0:W1.cell? ⟨w.heap.size,0,none⟩=some (.int .u8 97):=ud cC rfl;have y1:W1.cell? ⟨w.heap.size,1,none⟩=some (.int .i64 (k.at_:Nat)):=ud cC rfl;have y2:W1.cell? ⟨w.heap.size,2,none⟩=some (.string sz):=ud cC rfl;have y3:W1.cell? ⟨w.heap.size,3,none⟩=some (.slice sa k.set.length sc):=ud cC rfl;have HS1:Hid (RS rb t r k1 sa1 sc1 i1 l1 rf th A B (New W0 W1) W1):=hS1;obtain⟨cs,hcs1,hcs2⟩:=hS1.refs;have HCS:Hid (TkCs rf cs):=hcs2;obtain⟨ra,rc,hv7⟩:=um hcs1;have c7:W1.cell? ⟨rb,7,none⟩=some (.slice ra rf.length rc):=by
      have h:W1.cell? ⟨rb,7,none⟩=some r.v7:=ud hS1.blk rfl;rw[hv7]at h;exact h
    have hlen:rf.length+1≤16777216:=by have:=hS1.big;omega
    have HK2:Hid (Keep (fun _=>False) W1 (W1.drew.alloc (.cells #[.int .u8 97,.int .i64 (k.at_:Nat),.string sz,.slice sa k.set.length sc] 51))):=(Keep.drew (fun _=>False) W1).trans (Keep.alloc _ _ _)
    have HOW:Hid (OwnC A (W1.drew.alloc (.cells #[.int .u8 97,.int .i64 (k.at_:Nat),.string sz,.slice sa k.set.length sc] 51)) (.slice ra rf.length rc) 4 rf.length cs):=by rw[←hv7];exact hcs1.on (fun b q=>HK2.out.block b (hS1.apt.rows b q).1 (fun e=>e))
    have HSR:Hid (Src Tryz.prog 4 53 (.slice (some ⟨W1.drew.heap.size,0,none⟩) 1 1) 1 [.int .u8 97,.int .i64 (k.at_:Nat),.string sz,.slice sa k.set.length sc] (W1.drew.alloc (.cells #[.int .u8 97,.int .i64 (k.at_:Nat),.string sz,.slice sa k.set.length sc] 51))):=ulh W1.drew _ _ _ _ _ _;have hrb1:rb<W1.heap.size:=hS1.blk.lt;have HAf:Hid (∀v4 W4,OwnC (fun b=>A b∨(W1.drew.alloc (.cells #[.int .u8 97,.int .i64 (k.at_:Nat),.string sz,.slice sa k.set.length sc] 51)).heap.size≤b) W4 v4 4 (rf.length+1) (cs++[.int .u8 97,.int .i64 (k.at_:Nat),.string sz,.slice sa k.set.length sc])→Grew (fun b=>A b) (W1.drew.alloc (.cells #[.int .u8 97,.int .i64 (k.at_:Nat),.string sz,.slice sa k.set.length sc] 51)) W4→vt (rd t.n (F+1) 0 .emp (k::l1)) 1 rb t r (k::l1) rf th A B N w (.returned (.iface 117 (.agg #[.string sz]))) (W4.setCell ⟨rb,7,none⟩ v4)∧RB rb t (yy r k1 sa1 sc1) i1 W4∧W4.heap[w.heap.size]? = some (.cells #[.int .u8 97,.int .i64 (k.at_:Nat),.string sz,.slice sa k.set.length sc] 51)):=fun v4 W4 ho hg=>by
      have hlt:=(Array.getElem?_eq_some_iff.1 cC).1;have hks:=HK2.out.size;refine⟨?_,(hg.block rb (by omega) (fun q=>(HS1.out.apt.rows rb q).2.1 rfl)).trans (HS1.out.kept HK2.out).blk,(hg.block w.heap.size (by omega) (fun q=>by have:=(HS.out.apt.rows _ q).1;omega)).trans ((HK2.out.block w.heap.size hlt (fun e=>e)).trans cC)⟩
      have he:tkC k (.slice sa k.set.length sc) = [.int .u8 97,.int .i64 (k.at_:Nat),.string sz,.slice sa k.set.length sc]:=by unfold tkC;rw[HKI.out,HSZ.out]
      have ho2:OwnC (fun b=>A b∨(W1.drew.alloc (.cells #[.int .u8 97,.int .i64 (k.at_:Nat),.string sz,.slice sa k.set.length sc] 51)).heap.size≤b) W4 v4 4 (rf.length+1) (cs++tkC k (.slice sa k.set.length sc)):=by rw[he];exact ho
      obtain⟨q1,q2⟩:=uli HS.out HK1.out HS1.out HN1.out HK2.out HCS.out ho2 hg;rw[HSZ.out]at q2;exact⟨q1,.inl ⟨_,_,_,_,_,_,_,_,_,_,_,_,_,HR.out,rfl,q2⟩⟩
    clear hk1 hS1 HC0 hcs1 hv7 HS1 cC;go_wp2_with fail;go_region_law
      (refine kE rfl (.tmp 20) (.tmp 22) 53 53 rfl (v:=.slice ra rf.length rc) (y:=.slice (some ⟨W1.drew.heap.size,0,none⟩) 1 1) (by simp[Act.eval,Act.put]) (by simp[Act.eval,Act.put]) ulg (Q:=A) (n:=rf.length) (cs:=cs) (m:=1) (news:=[.int .u8 97,.int .i64 (k.at_:Nat),.string sz,.slice sa k.set.length sc]) HOW.out HSR.out hlen ?_
       intro v4 W4 hown4 hgrew4 hsz4;obtain⟨hF4,hB4,hC4⟩:=HAf.out v4 W4 hown4 hgrew4;obtain⟨a4,n4,rfl⟩:=um hown4;have HFI:Hid (vt (rd t.n (F+1) 0 .emp (k::l1)) 1 rb t r (k::l1) rf th A B N w (.returned (.iface 117 (.agg #[.string sz]))) (W4.setCell ⟨rb,7,none⟩ (.slice a4 (rf.length+1) n4))):=hF4;have z7:W4.cell? ⟨rb,7,none⟩=some r.v7:=ud hB4 rfl;have g7:W4.frozen? ⟨rb,7,none⟩=false:=ut hB4;have x2:W4.cell? ⟨w.heap.size,2,none⟩=some (.string sz):=ud hC4 rfl;have lt4:=ub z7;have lt5:=ub x2;clear hown4 hgrew4 hsz4 hF4 hB4 hC4)
    all_goals (
      go_wp2;go_ret;exact HFI.out)
  · have HFI:Hid (vt (rd t.n (F+1) 0 .emp [k,y]) 1 rb t r [k,y] rf th A B N w (.panicked (flt 5 (y.at_:Nat))) W1) :=
      ⟨uY ((yh HK0.out).trans hk1),.inr ⟨y.at_,rfl,.inr ⟨_,y,[],HR.out,hy,rfl⟩⟩⟩
    clear hk1 hy;go_wp2;exact⟨rfl,HFI.out⟩
end
section
open Go.RowKit
open M (OpD uj Gr)
theorem RS.addThr{rb:Nat}{t:Tx}{r:Rv}{k:Tok}{sa:Option Addr}{sc i:Nat}{l rf th:List Tok}{A B N:Nat→Prop}{w2 w3:World}(h:RS rb t r k sa sc i l rf th A B N w2){v':Value}{x:Tok}{sx:Option Addr}{sn sm:Nat}{cs:List Value}(hcs:TkCs th cs)(ho:OwnC (fun b=>B b∨w2.heap.size≤b) w3 v' 4 (th.length+1) (cs++tkC x (.slice sx sn sm)))(hg:Grew (fun b=>B b) w2 w3)(hbig:rf.length+(th.length+1)+l.length≤1000000) :
    RS rb t { r with v8:=v' } k sa sc i l rf (th++[x]) A (fun b=>B b∨New w2 w3 b) N (w3.setCell ⟨rb,8,none⟩ v'):=by
  have hs:=hg.size;have hrb:=h.blk.lt;have hB:¬B rb:=fun q=>(h.apt.thrs rb q).2.1 rfl
  have hst:∀b,b<w2.heap.size→¬B b→b≠rb→(w3.setCell ⟨rb,8,none⟩ v').heap[b]? = w2.heap[b]?:=fun b h1 h2 h3=>(Below.heap_setCell _ _ _ _ h3).trans (hg.block b h1 h2)
  have hb3:RB rb t (yy r k sa sc) i w3:=(hg.block rb hrb hB).trans h.blk;refine⟨xp v' hb3,h.set.on (fun b q=>hst b (h.apt.set b q).1 (fun z=>(h.apt.thrs b z).2.2 q) (h.apt.set b q).2),h.refs.on (fun b q=>hst b (h.apt.rows b q).1 (h.apt.rows b q).2.2.1 (h.apt.rows b q).2.1) (fun b q=>q),?_,h.left,?_,h.cap,⟨?_,?_,?_⟩,h.tok,h.kind,?_,h.tn⟩
  · refine⟨cs++tkC x (.slice sx sn sm),?_,hcs.snoc⟩
    rw[List.length_append];refine (uhx ho).on (fun b q=>Below.heap_setCell _ _ _ _ ?_)
    rcases q with q | q
    · exact (h.apt.thrs b q).2.1
    · have:=q.1;show b≠rb;omega
  · exact vu (xf h.txt (fun b q=>hst b q.1 q.2.2.2 q.2.1)) (fun b q=>⟨by have:=q.1;simp only[ul];omega,q.2.1,q.2.2.1,(fun z=>z.elim q.2.2.2 (fun z=>by have:=z.1;have:=q.1;omega))⟩)
  · exact fun b q=>⟨by have:=(h.apt.rows b q).1;simp only[ul];omega,(h.apt.rows b q).2.1,(fun z=>z.elim (h.apt.rows b q).2.2.1 (fun z=>by have:=z.1;have:=(h.apt.rows b q).1;omega)),(h.apt.rows b q).2.2.2⟩
  · rintro b (q | q)
    · exact⟨by have:=(h.apt.thrs b q).1;simp only[ul];omega,(h.apt.thrs b q).2⟩
    · exact⟨by have:=q.2;simp only[ul];omega,by have:=q.1;omega,fun z=>by have:=q.1;have:=(h.apt.set b z).1;omega⟩
  · exact fun b q=>⟨by have:=(h.apt.set b q).1;simp only[ul];omega,(h.apt.set b q).2⟩
  · rw[List.length_append];simp only[List.length_cons,List.length_nil];omega
theorem ugm{rb:Nat}{A B:Nat→Prop}{w2 w3:World}{v:Value}{o:Nat}(hg:Grew (fun b=>B b) w2 w3):Keep (C3 rb A B) w2 (w3.setCell ⟨rb,o,none⟩ v) :=
  ⟨hg.os,hg.tape,hg.output,by simp only[ul];exact hg.size,fun b hb hc=>(Below.heap_setCell _ _ _ _ (fun e=>hc (.inl e))).trans (hg.block b hb (fun q=>hc (.inr (.inr q))))⟩
theorem ulA{rb:Nat}{t:Tx}{r:Rv}{k:Tok}{sa:Option Addr}{sc i:Nat}{y:Tok}{l1 rf th:List Tok}{A B N:Nat→Prop}{w w1 w2 w3:World}(h:RS rb t r k sa sc i (k::y::l1) rf th A B N w)(hk:Keep (fun b=>b=rb) w w1){k1:Tok}{sa1:Option Addr}{sc1 i1:Nat}{N1:Nat→Prop}(h1:RS rb t r k1 sa1 sc1 i1 l1 rf th A B N1 w1)(hN:∀b,N1 b→New w w1 b)
    (hk2:Keep (fun _=>False) w1 w2) {v':Value} {sx:Option Addr} {sn sm:Nat} {cs:List Value} (hcs:TkCs th cs) (ho:OwnC (fun b=>B b∨w2.heap.size≤b) w3 v' 4 (th.length+1) (cs++tkC y (.slice sx sn sm))) (hg:Grew (fun b=>B b) w2 w3) :
    Keep (C3 rb A B) w (w3.setCell ⟨rb,8,none⟩ v')∧RdOK rb t r 1 (k::y::l1) rf th A B N w (.thr k y) l1 (.iface 119 (.agg #[.string (str y.nm.length (lf y.nm))])) (w3.setCell ⟨rb,8,none⟩ v') r.v7 v' k1 sa1 sc1 i1 A (fun b=>B b∨New w2 w3 b) N1 (fun _=>False):=by
  have hs:=hk.size;have hs2:=hk2.size;have hs3:=hg.size;refine⟨(uY hk).trans ((hk2.mono (fun b q=>q.elim)).trans (ugm hg)),by simp,?_,rfl,fun b q=>.inl q,?_,fun b q=>.inr ⟨(hN b q).1,by have:=(hN b q).2;simp only[ul];omega⟩,fun b q=>q.elim⟩
  · have:=(h1.kept hk2).addThr hcs ho hg (by have:=h.big;simp only[List.length_cons]at this;omega)
    rw[show PE.refT (.thr k y) = [] from rfl,show PE.thrT (.thr k y) = [y] from rfl,List.append_nil]
    exact this
  · rintro b (q | q)
    · exact .inl q
    · exact .inr ⟨by have:=q.1;omega,by simp only[ul];exact q.2⟩
theorem uiB{n f:Nat}{k y:Tok}{l:List Tok}(h:k.kind=94)(hy:y.kind=110):rd n (f+1) 0 .emp (k::y::l)=.inr (.thr k y,l):=by
  rw[rd.eq_def];simp only[h,hy];rfl
theorem udz{n f:Nat}{k:Tok}{l:List Tok}(h:k.kind=94)(hy:∀y r,l=y::r→y.kind≠110):rd n (f+1) 0 .emp (k::l)=.inl (pos n l):=by
  rw[rd.eq_def];simp only[h];cases l with
  |nil=>rfl
  |cons y r =>
    have:=hy y r rfl;simp only[this];rfl
set_option maxHeartbeats 1000000 in
set_option maxRecDepth 100000 in
theorem ulB{F:Nat}(rb:Nat)(t:Tx)(r:Rv)(k:Tok)(sa:Option Addr)(sc i:Nat)(l rf th:List Tok)(A B N:Nat→Prop)(w:World)(hS:RS rb t r k sa sc i l rf th A B N w)(hk:k.kind=94):Calls Tryz.prog 124 #[.pointer (some ⟨rb,0,none⟩)] w (vt (rd t.n (F+1) 0 .emp l) 1 rb t r l rf th A B N w):=by
  obtain⟨l1,rfl⟩:=hS.cons (by rw[hk];omega)
  have HS:Hid (RS rb t r k sa sc i (k::l1) rf th A B N w):=hS;have HKI:Hid (k.kind=94):=hk;have hrb:=hS.blk.lt;have c2:w.cell? ⟨rb,2,none⟩=some (.int .u8 94):=by
    have h:w.cell? ⟨rb,2,none⟩=some (.int .u8 (kk k.kind)):=ud hS.blk rfl;rw[hk]at h;exact h
  have c3:w.cell? ⟨rb,3,none⟩=some (.int .i64 (k.at_:Nat)):=ud hS.blk rfl;have c4:w.cell? ⟨rb,4,none⟩=some (.string (str k.nm.length (lf k.nm))):=ud hS.blk rfl;have c5:w.cell? ⟨rb,5,none⟩=some (.slice sa k.set.length sc):=ud hS.blk rfl;clear hS hk;generalize str k.nm.length (lf k.nm)=sz at *;go_enter Tryz.func124,Tryz.ntmps124;go_wp2_with fail;obtain⟨W0,hW0⟩:∃W0,W0=w.alloc (.cells #[.int .u8 94,.int .i64 (k.at_:Nat),.string sz,.slice sa k.set.length sc] 51):=⟨_,rfl⟩;have HK0:Hid (Keep (fun _=>False) w W0):=by rw[hW0];exact Keep.alloc _ _ _
  rw[←hW0];clear hW0 c2 c3 c4 c5;refine (udr (HS.out.kept HK0.out)).mono ?_;rintro e W1 ⟨hk1,⟨vv,k1,sa1,sc1,i1,rfl,hS1⟩|⟨y,rfl,hy,rfl⟩⟩
  · have HK1:Hid (Keep (fun b=>b=rb) w W1):=(yh HK0.out).trans hk1
    have HS1:Hid (RS rb t r k1 sa1 sc1 i1 l1 rf th A B (New W0 W1) W1):=hS1;have H97:Hid (kk k1.kind=97↔k1.kind=110):=ufw hS1.kind;clear hk1 hS1;go_wp2_with fail;refine (xY HS1.out 110 (by omega) H97.out).mono ?_
    rintro e W2 ⟨hk2,⟨h110,rfl⟩|⟨h110,l2,rfl,⟨k2,sa2,sc2,i2,rfl,hS2⟩|⟨y,rfl,hy,rfl⟩⟩⟩
    · have HFI:Hid (vt (rd t.n (F+1) 0 .emp (k::l1)) 1 rb t r (k::l1) rf th A B N w (.panicked (flt 5 (pos t.n l1:Nat))) W2) :=
        ⟨uY (HK1.out.trans hk2),.inr ⟨_,rfl,.inl (udz HKI.out (fun y r' e=>by rw[HS1.out.head e];exact h110))⟩⟩
      clear hk2 h110;go_wp2;exact⟨rfl,HFI.out⟩
    · have HK2:Hid (Keep (fun b=>b=rb) w W2):=HK1.out.trans hk2
      have HN2:Hid (∀b,New W1 W2 b→New w W2 b):=fun b q=>vd HK1.out.size q
      have HR:Hid (rd t.n (F+1) 0 .emp (k::k1::l2)=.inr (.thr k k1,l2)):=uiB HKI.out h110;have HS2:Hid (RS rb t r k2 sa2 sc2 i2 l2 rf th A B (New W1 W2) W2):=hS2;rw[H97.out.2 h110];have HK97:Hid (kk k1.kind=97):=H97.out.2 h110;generalize hsz:str k1.nm.length (lf k1.nm)=sz1;have HSZ:Hid (str k1.nm.length (lf k1.nm)=sz1):=hsz;obtain⟨cs,hcs1,hcs2⟩:=hS2.thrs;have HCS:Hid (TkCs th cs):=hcs2;obtain⟨ra,rc,hv8⟩:=um hcs1;have c8:W2.cell? ⟨rb,8,none⟩=some (.slice ra th.length rc):=by
        have h:W2.cell? ⟨rb,8,none⟩=some r.v8:=ud hS2.blk rfl;rw[hv8]at h;exact h
      have hlen:th.length+1≤16777216:=by have:=hS2.big;omega
      have hrb2:rb<W2.heap.size:=hS2.blk.lt;have HK3:Hid (Keep (fun _=>False) W2 ((W2.alloc (.cells #[.int .u8 97,.int .i64 (k1.at_:Nat),.string sz1,.slice sa1 k1.set.length sc1] 51)).drew.alloc (.cells #[.int .u8 97,.int .i64 (k1.at_:Nat),.string sz1,.slice sa1 k1.set.length sc1] 51))):=(Keep.alloc _ _ _).trans ((Keep.drew (fun _=>False) _).trans (Keep.alloc _ _ _))
      have HOW:Hid (OwnC B ((W2.alloc (.cells #[.int .u8 97,.int .i64 (k1.at_:Nat),.string sz1,.slice sa1 k1.set.length sc1] 51)).drew.alloc (.cells #[.int .u8 97,.int .i64 (k1.at_:Nat),.string sz1,.slice sa1 k1.set.length sc1] 51)) (.slice ra th.length rc) 4 th.length cs):=by rw[←hv8];exact hcs1.on (fun b q=>HK3.out.block b (hS2.apt.thrs b q).1 (fun e=>e))
      have HSR:Hid (Src Tryz.prog 4 53 (.slice (some ⟨W2.heap.size+1,0,none⟩) 1 1) 1 [.int .u8 97,.int .i64 (k1.at_:Nat),.string sz1,.slice sa1 k1.set.length sc1] ((W2.alloc (.cells #[.int .u8 97,.int .i64 (k1.at_:Nat),.string sz1,.slice sa1 k1.set.length sc1] 51)).drew.alloc (.cells #[.int .u8 97,.int .i64 (k1.at_:Nat),.string sz1,.slice sa1 k1.set.length sc1] 51))):=by
        have h:=ulh (W2.alloc (.cells #[.int .u8 97,.int .i64 (k1.at_:Nat),.string sz1,.slice sa1 k1.set.length sc1] 51)).drew 97 (k1.at_:Nat) sz1 sa1 k1.set.length sc1 (ty:=51)
        rwa [show (W2.alloc (.cells #[.int .u8 97,.int .i64 (k1.at_:Nat),.string sz1,.slice sa1 k1.set.length sc1] 51)).drew.heap.size=W2.heap.size+1 by simp]at h
      have HAf:Hid (∀v4 W4,OwnC (fun b=>B b∨((W2.alloc (.cells #[.int .u8 97,.int .i64 (k1.at_:Nat),.string sz1,.slice sa1 k1.set.length sc1] 51)).drew.alloc (.cells #[.int .u8 97,.int .i64 (k1.at_:Nat),.string sz1,.slice sa1 k1.set.length sc1] 51)).heap.size≤b) W4 v4 4 (th.length+1) (cs++[.int .u8 97,.int .i64 (k1.at_:Nat),.string sz1,.slice sa1 k1.set.length sc1])→Grew (fun b=>B b) ((W2.alloc (.cells #[.int .u8 97,.int .i64 (k1.at_:Nat),.string sz1,.slice sa1 k1.set.length sc1] 51)).drew.alloc (.cells #[.int .u8 97,.int .i64 (k1.at_:Nat),.string sz1,.slice sa1 k1.set.length sc1] 51)) W4→vt (rd t.n (F+1) 0 .emp (k::k1::l2)) 1 rb t r (k::k1::l2) rf th A B N w (.returned (.iface 119 (.agg #[.string sz1]))) (W4.setCell ⟨rb,8,none⟩ v4)∧RB rb t (yy r k2 sa2 sc2) i2 W4∧W4.heap[W2.heap.size]? = some (.cells #[.int .u8 97,.int .i64 (k1.at_:Nat),.string sz1,.slice sa1 k1.set.length sc1] 51)):=fun v4 W4 ho hg=>by
        have hks:((W2.alloc (.cells #[.int .u8 97,.int .i64 (k1.at_:Nat),.string sz1,.slice sa1 k1.set.length sc1] 51)).drew.alloc (.cells #[.int .u8 97,.int .i64 (k1.at_:Nat),.string sz1,.slice sa1 k1.set.length sc1] 51)).heap.size=W2.heap.size+2:=by simp
        refine⟨?_,(hg.block rb (by omega) (fun q=>(HS2.out.apt.thrs rb q).2.1 rfl)).trans (HS2.out.kept HK3.out).blk,(hg.block W2.heap.size (by omega) (fun q=>by have:=(HS2.out.apt.thrs _ q).1;omega)).trans (ufQ (yX W2 _ _ rfl) _)⟩
        have he:tkC k1 (.slice sa1 k1.set.length sc1) = [.int .u8 97,.int .i64 (k1.at_:Nat),.string sz1,.slice sa1 k1.set.length sc1]:=by unfold tkC;rw[HK97.out,HSZ.out]
        have ho2:OwnC (fun b=>B b∨((W2.alloc (.cells #[.int .u8 97,.int .i64 (k1.at_:Nat),.string sz1,.slice sa1 k1.set.length sc1] 51)).drew.alloc (.cells #[.int .u8 97,.int .i64 (k1.at_:Nat),.string sz1,.slice sa1 k1.set.length sc1] 51)).heap.size≤b) W4 v4 4 (th.length+1) (cs++tkC k1 (.slice sa1 k1.set.length sc1)):=by rw[he];exact ho
        obtain⟨q1,q2⟩:=ulA HS.out HK2.out HS2.out HN2.out HK3.out HCS.out ho2 hg;rw[HSZ.out]at q2;exact⟨q1,.inl ⟨_,_,_,_,_,_,_,_,_,_,_,_,_,HR.out,rfl,q2⟩⟩
      clear hk2 hS2 hcs1 hcs2 hv8 HS2 hsz h110 HK3;go_wp2_with fail;go_region_law
        (refine kE rfl (.tmp 40) (.tmp 42) 53 53 rfl (v:=.slice ra th.length rc) (y:=.slice (some ⟨W2.heap.size+1,0,none⟩) 1 1) (by simp[Act.eval,Act.put]) (by simp[Act.eval,Act.put]) ulg (Q:=B) (n:=th.length) (cs:=cs) (m:=1) (news:=[.int .u8 97,.int .i64 (k1.at_:Nat),.string sz1,.slice sa1 k1.set.length sc1]) HOW.out HSR.out hlen ?_
         intro v4 W4 hown4 hgrew4 hsz4;obtain⟨hF4,hB4,hC4⟩:=HAf.out v4 W4 hown4 hgrew4;obtain⟨a4,n4,rfl⟩:=um hown4;have HFI:Hid (vt (rd t.n (F+1) 0 .emp (k::k1::l2)) 1 rb t r (k::k1::l2) rf th A B N w (.returned (.iface 119 (.agg #[.string sz1]))) (W4.setCell ⟨rb,8,none⟩ (.slice a4 (th.length+1) n4))):=hF4;have z8:W4.cell? ⟨rb,8,none⟩=some r.v8:=ud hB4 rfl;have g8:W4.frozen? ⟨rb,8,none⟩=false:=ut hB4;have x2:W4.cell? ⟨W2.heap.size,2,none⟩=some (.string sz1):=ud hC4 rfl;have lt4:=ub z8;have lt5:=ub x2;clear hown4 hgrew4 hsz4 hF4 hB4 hC4)
      all_goals (
        go_wp2;go_ret;exact HFI.out)
    · have HFI:Hid (vt (rd t.n (F+1) 0 .emp [k,k1,y]) 1 rb t r [k,k1,y] rf th A B N w (.panicked (flt 5 (y.at_:Nat))) W2) :=
        ⟨uY (HK1.out.trans hk2),.inr ⟨y.at_,rfl,.inr ⟨_,y,[],uiB HKI.out h110,hy,rfl⟩⟩⟩
      clear hk2 hy h110;go_wp2;exact⟨rfl,HFI.out⟩
  · have HFI:Hid (vt (rd t.n (F+1) 0 .emp [k,y]) 1 rb t r [k,y] rf th A B N w (.panicked (flt 5 (y.at_:Nat))) W1) :=
      ⟨uY ((yh HK0.out).trans hk1),.inr ⟨y.at_,rfl,.inl (udz HKI.out (fun z r' e=>by injection e with e1 _;rw[←e1,hy];omega))⟩⟩
    clear hk1 hy;go_wp2;exact⟨rfl,HFI.out⟩
end
section
open Go.RowKit
open M (OpD uj Gr)
theorem ufs{F:Nat}(H5:RdC 72 5 6 0 F):RdC 124 0 1 1 (F+1):=by
 intro rb t r k sa sc i l rf th A B N w hS hf;by_cases h1:k.kind=110
 ·exact ulj rb t r k sa sc i l rf th A B N w hS h1
 by_cases h2:k.kind=34
 ·exact ulm rb t r k sa sc i l rf th A B N w hS h2
 by_cases h3:k.kind=91
 ·exact ulk rb t r k sa sc i l rf th A B N w hS h3
 by_cases h4:k.kind=46
 ·exact ull rb t r k sa sc i l rf th A B N w hS h4
 by_cases h5:k.kind=94
 ·exact ulB rb t r k sa sc i l rf th A B N w hS h5
 ·exact ulc H5 rb t r k sa sc i l rf th A B N w hS hf h1 h2 h3 h4 h5
def upO(g:Nat):Prop:=RdC 124 0 1 1 g∧RdC 111 1 2 1 g∧RdC 104 2 3 1 g∧RdC 91 4 4 0 g∧RdC 72 5 6 0 g
theorem uds:∀f g,g≤f→upO g
 |0,g,hg=>by
  obtain rfl:g=0:=by omega
  exact⟨fun _ _ _ _ _ _ _ _ _ _ _ _ _ _ _ h=>absurd h (by omega),fun _ _ _ _ _ _ _ _ _ _ _ _ _ _ _ h=>absurd h (by omega),fun _ _ _ _ _ _ _ _ _ _ _ _ _ _ _ h=>absurd h (by omega),fun _ _ _ _ _ _ _ _ _ _ _ _ _ _ _ h=>absurd h (by omega),fun _ _ _ _ _ _ _ _ _ _ _ _ _ _ _ h=>absurd h (by omega)⟩
 |f+1,g,hg=>by
  by_cases h:g≤f
  ·exact uds f g h
  ·obtain rfl:g=f+1:=by omega
   have ih:=uds f;obtain⟨h0,h1,h2,h4,h5⟩:=ih f (Nat.le_refl _);exact⟨ufs h5,ugh h0,ugi h1 h2,ulz (fun g hg=>(ih g hg).2.2.1),ukW (fun g hg=>(ih g hg).2.2.2.1)⟩
theorem ugd(f:Nat):RdC 72 5 6 0 f:=(uds f f (Nat.le_refl _)).2.2.2.2
end
section
open Go.RowKit
open M (OpD uj Gr)
theorem uoK:(Tryz.prog.info? 80).map (fun i=>(i.zero,i.size,i.bytes))=some (some (.agg #[.string ⟨#[]⟩,.int .i64 0,.bool false,.nilIface]),4,48):=by kernel_rfl
theorem uoL:xM 52 80 4 48:=⟨Tryz.underlying52,⟨_,uoK,rfl⟩,by omega⟩
theorem uoM(W:World)(z:ByteArray)(a:Int)(c:Bool)(y:TypeId)(u:Value){ty:TypeId}:Src Tryz.prog 4 52 (.slice (some ⟨W.heap.size,0,none⟩) 1 1) 1 [.string z,.int .i64 a,.bool c,.iface y u] (W.alloc (.cells #[.string z,.int .i64 a,.bool c,.iface y u] ty)) :=
 yH Tryz.underlying52 rfl (fun j u hu=>by
  have hb:=World.alloc_heap_new W (.cells #[.string z,.int .i64 a,.bool c,.iface y u] ty);simp only[World.cell?,World.alloc_heap_new];rw[←hu];simp) (fun u hu=>by
  simp only[List.mem_cons,List.not_mem_nil,or_false]at hu;rcases hu with rfl | rfl | rfl | rfl<;>rfl)
def dfC(q:Rl)(v:Value):List Value:=[.string (str q.name.nm.length (lf q.name.nm)),.int .i64 (q.name.at_:Nat),.bool q.car.isSome,v]
def DfT(w:World):List Rl→List Value→(Nat→Prop)→Prop
 | [],cs,T=>cs = []
 |q::r,cs,T=>∃v d P T',cs=dfC q v++d∧TrA w q.body v P∧DfT w r d T'∧(∀b,P b→T b)∧(∀b,T' b→T b)∧(∀b,P b→¬T' b)
theorem DfT.on{w w':World}:∀{qs:List Rl} {cs:List Value} {T T2:Nat→Prop},DfT w qs cs T→Stay T w w'→(∀b,T b→T2 b)→DfT w' qs cs T2
 | [],cs,T,T2,h,_,_=>h
 |q::r,cs,T,T2,h,k,t=>by
  obtain⟨v,d,P,T',e,h1,h2,h3,h4,h5⟩:=h;exact⟨v,d,P,T',e,TrA.on _ h1 (fun b z=>k b (h3 b z)) (fun b z=>z),DfT.on h2 (fun b z=>k b (h4 b z)) (fun b z=>z),fun b z=>t b (h3 b z),fun b z=>t b (h4 b z),h5⟩
theorem DfT.snoc{w:World}{q:Rl}{v:Value}{P:Nat→Prop}(ht:TrA w q.body v P):∀{qs:List Rl} {cs:List Value} {T:Nat→Prop},DfT w qs cs T→(∀b,T b→¬P b)→DfT w (qs++[q]) (cs++dfC q v) (fun b=>T b∨P b)
 | [],cs,T,h,hd=>by
  have h:cs = []:=h;subst h;exact⟨v,[],P,fun _=>False,by simp,ht,rfl,fun b z=>.inr z,fun b z=>z.elim,fun b z z'=>z'⟩
 |y::r,cs,T,h,hd=>by
  obtain⟨u,d,P',T',e,h1,h2,h3,h4,h5⟩:=h;subst e;refine⟨u,d++dfC q v,P',fun b=>T' b∨P b,by simp,h1,DfT.snoc ht h2 (fun b z=>hd b (h4 b z)),fun b z=>.inl (h3 b z),?_,?_⟩
  ·rintro b (z | z)
   ·exact .inl (h4 b z)
   ·exact .inr z
  ·rintro b z (z' | z')
   ·exact h5 b z z'
   ·exact hd b (h3 b z) z'
def DfRow(D T:Nat→Prop)(w:World)(v:Value)(qs:List Rl):Prop:=∃cs,OwnC D w v 4 qs.length cs∧DfT w qs cs T
theorem DfRow.on{D D2 T T2:Nat→Prop}{w w':World}{v:Value}{qs:List Rl}(h:DfRow D T w v qs)(k:Stay D w w')(k2:Stay T w w')(t:∀b,D b→D2 b)(t2:∀b,T b→T2 b):DfRow D2 T2 w' v qs:=by
 obtain⟨cs,h1,h2⟩:=h;exact⟨cs,uo (h1.on k) t,h2.on k2 t2⟩
def yc(qs:List Rl):List Tok:=qs.flatMap (fun q=>q.body.refT)
def vK(qs:List Rl):List Tok:=qs.flatMap (fun q=>q.body.thrT)
structure DS(rb:Nat)(t:Tx)(r:Rv)(k:Tok)(sa:Option Addr)(sc i:Nat)(l:List Tok)(qs:List Rl)(A B N D T:Nat→Prop)(w:World):Prop where
 st:RS rb t r k sa sc i l (yc qs) (vK qs) A B N w
 row:DfRow D T w r.v6 qs
 len:qs.length+l.length≤1000000
 da:∀b,D b→b<w.heap.size∧b≠rb∧¬A b∧¬B b∧¬N b∧¬T b
 ta:∀b,T b→b<w.heap.size∧b≠rb∧¬A b∧¬B b∧¬N b
 tx:Ints (fun b=>¬D b) .u8 w r.ta t.n t.T
theorem uit{n:Nat}{c:Option Tok}{l:List Tok}(h:∀y r,l=y::r→y.kind≠110):vR n c l=.inl (pos n l):=by
 cases l with
 |nil=>rfl
 |cons y r=>simp only[vR];rw[if_neg (h y r rfl)];rfl
theorem uiu{n:Nat}{c:Option Tok}{x:Tok}{l:List Tok}(hx:x.kind=110)(h:∀y r,l=y::r→y.kind≠61):vR n c (x::l)=.inl (pos n l):=by
 simp only[vR];rw[if_pos hx];cases l with
 |nil=>rfl
 |cons y r=>simp only;rw[if_neg (h y r rfl)];rfl
theorem uf8{n:Nat}{c:Option Tok}{x y:Tok}{l:List Tok}{p:Nat}(hx:x.kind=110)(hy:y.kind=61)(h:udu (rd n (8*l.length+8) 5 .emp l) p):vR n c (x::y::l)=.inl p:=by
 simp only[vR];rw[if_pos hx,if_pos hy];rcases h with q | ⟨e,z,l',q,hz,ha⟩
 ·rw[q]
 ·rw[q]
  simp only;rw[if_neg (by omega),ha]
theorem ujv{n:Nat}{c:Option Tok}{x y:Tok}{l l2:List Tok}{e:PE}(hx:x.kind=110)(hy:y.kind=61)(hr:rd n (8*l.length+8) 5 .emp l=.inr (e,l2))(h:∀z r,l2=z::r→z.kind≠59):vR n c (x::y::l)=.inl (pos n l2):=by
 simp only[vR];rw[if_pos hx,if_pos hy,hr];cases l2 with
 |nil=>rfl
 |cons z r=>simp only;rw[if_neg (h z r rfl)];rfl
theorem uiv{n:Nat}{c:Option Tok}{x y z:Tok}{l l2:List Tok}{e:PE}(hx:x.kind=110)(hy:y.kind=61)(hr:rd n (8*l.length+8) 5 .emp l=.inr (e,z::l2))(h:z.kind=59):vR n c (x::y::l)=.inr (⟨c,x,y,e,z⟩,l2):=by
 simp only[vR];rw[if_pos hx,if_pos hy,hr];simp only;rw[if_pos h]
end
section
open Go.RowKit
open M (OpD uj Gr)
def uB(qs:List Rl):List (List Int):=(qs.filter (fun q=>q.car.isSome)).map (fun q=>q.name.nm)
def ixN(ks:List (List Int))(z:List Int):Nat:=ks.idxOf z
theorem jN(qs:List Rl)(q:Rl):ue (qs++[q])=if q.car.isSome then ue qs else ue qs++[q.name.nm]:=by
 unfold ue;rw[List.filter_append,List.map_append];cases h:q.car with
 |none=>simp[h]
 |some c=>simp[h]
theorem ucA(qs:List Rl)(q:Rl):uB (qs++[q])=if q.car.isSome then uB qs++[q.name.nm] else uB qs:=by
 unfold uB;rw[List.filter_append,List.map_append];cases h:q.car.isSome<;>simp[h]
theorem xe{qs:List Rl}{k:Nat}{q:Rl}(h:qs[k]? = some q):qs.take (k+1)=qs.take k++[q]:=by
 rw[List.take_add_one,h];rfl
theorem udm{qs:List Rl}{k:Nat}{q:Rl}(h:qs[k]? = some q):qs.drop k=q::qs.drop (k+1):=by
 obtain⟨hk,e⟩:=List.getElem?_eq_some_iff.1 h;rw[List.drop_eq_getElem_cons hk,e]
theorem udn(seen:List Rl)(q:Rl):seen.any (fun s=>xS s q)=true↔q.name.nm∈(if q.car.isSome then uB seen else ue seen):=by
 rw[List.any_eq_true];unfold xS uB ue;cases h:q.car.isSome
 ·simp only[Bool.and_eq_true,beq_iff_eq,decide_eq_true_eq,List.mem_map,List.mem_filter,Bool.false_eq_true,if_false]
  constructor
  ·rintro⟨s,h1,h2,h3⟩
   exact⟨s,⟨h1,by rw[h2];rfl⟩,h3⟩
  ·rintro⟨s,⟨h1,h2⟩,h3⟩
   exact⟨s,h1,by simpa using h2,h3⟩
 ·simp only[Bool.and_eq_true,beq_iff_eq,decide_eq_true_eq,List.mem_map,List.mem_filter,if_true]
  constructor
  ·rintro⟨s,h1,h2,h3⟩
   exact⟨s,⟨h1,h2⟩,h3⟩
  ·rintro⟨s,⟨h1,h2⟩,h3⟩
   exact⟨s,h1,h2,h3⟩
theorem uoO{qs:List Rl}{k:Nat}{q:Rl}(h:qs[k]? = some q):xF (qs.take k) (qs.drop k)=if q.name.nm∈(if q.car.isSome then uB (qs.take k) else ue (qs.take k)) then some q.name.at_ else xF (qs.take (k+1)) (qs.drop (k+1)):=by
 rw[udm h,xF,xe h];by_cases e:(qs.take k).any (fun s=>xS s q)=true
 ·rw[if_pos e,if_pos ((udn _ _).1 e)]
 ·rw[if_neg e,if_neg (fun z=>e ((udn _ _).2 z))]
theorem ula{ks:List (List Int)}{z:List Int}(h:z ∉ ks):∀y∈ks++[z],ub8 (ixN ks) z ks.length y=ixN (ks++[z]) y:=by
 intro y hy;unfold ub8 ixN;by_cases e:y=z
 ·rw[if_pos e,e,List.idxOf_append,if_neg h]
  simp[List.idxOf_cons]
 ·rw[if_neg e]
  rcases List.mem_append.1 hy with q | q
  ·rw[List.idxOf_append,if_pos q]
  ·exact absurd (List.mem_singleton.1 q) e
theorem MapN.snoc{w w':World}{b:Nat}{ks:List (List Int)}{z:List Int}(h:MapN w' b (kU ks z) (ub8 (ixN ks) z ks.length))(hz:z ∉ ks):MapN w' b (ks++[z]) (ixN (ks++[z])):=by
 unfold kU at h;rw[if_neg hz]at h;exact h.congr (ula hz)
theorem uax{z:List Int}:∀{ks:List (List Int)} {i:Nat},z∈ks→vV z ks i=((i+ixN ks z:Nat):Int)
 | [],_,h=>by cases h
 |y::r,i,h=>by
  rw[vV];by_cases e:y=z
  ·rw[if_pos e,e]
   simp[ixN]
  ·rw[if_neg e]
   have hr:z∈r:=by
    rcases List.mem_cons.1 h with q | q
    ·exact absurd q.symm e
    ·exact q
   rw[uax hr];unfold ixN;have e':(y==z)=false:=by simp[e]
   rw[List.idxOf_cons,e'];simp only[cond_false]
   congr 1
   omega
theorem uay(q:Rl)(v:Value):(dfC q v).length=4:=rfl
theorem DfT.at{w:World}:∀{qs:List Rl} {cs:List Value} {T:Nat→Prop},DfT w qs cs T→∀{k:Nat} {q:Rl},qs[k]? = some q→∃v P,TrA w q.body v P∧(∀b,P b→T b)∧∀j,j<4→cs[k*4+j]? = (dfC q v)[j]?
 | [],cs,T,h,k,q,hq=>by simp at hq
 |y::r,cs,T,h,k,q,hq=>by
  obtain⟨u,d,P',T',e,h1,h2,h3,h4,h5⟩:=h;subst e;cases k with
  |zero =>
   simp at hq;subst hq;exact⟨u,P',h1,h3,fun j hj=>by rw[Nat.zero_mul,Nat.zero_add,List.getElem?_append_left (by rw[uay];exact hj)]⟩
  |succ k =>
   simp at hq;obtain⟨v,P,a1,a2,a3⟩:=DfT.at h2 hq;exact⟨v,P,a1,fun b z=>h4 b (a2 b z),fun j hj=>by rw[List.getElem?_append_right (by rw[uay];omega),uay,show (k+1)*4+j-4=k*4+j by omega];exact a3 j hj⟩
theorem DfT.len{w:World}:∀{qs:List Rl} {cs:List Value} {T:Nat→Prop},DfT w qs cs T→cs.length=qs.length*4
 | [],cs,T,h=>by
  have h:cs = []:=h;subst h;rfl
 |y::r,cs,T,h=>by
  obtain⟨u,d,P',T',e,h1,h2,h3,h4,h5⟩:=h;subst e;rw[List.length_append,uay,DfT.len h2,List.length_cons];omega
theorem uc0(x:Tok)(s:Value):(tkC x s).length=4:=rfl
theorem TkCs.at:∀{l:List Tok} {cs:List Value},TkCs l cs→∀{k:Nat} {x:Tok},l[k]? = some x→∃a n c,∀j,j<4→cs[k*4+j]? = (tkC x (.slice a n c))[j]?
 | [],cs,h,k,x,hx=>by simp at hx
 |y::r,cs,h,k,x,hx=>by
  obtain⟨ua,un,uc,d,e,h2⟩:=h;subst e;cases k with
  |zero =>
   simp at hx;subst hx;exact⟨ua,un,uc,fun j hj=>by rw[Nat.zero_mul,Nat.zero_add,List.getElem?_append_left (by rw[uc0];exact hj)]⟩
  |succ k =>
   simp at hx;obtain⟨sa,sn,sc,a3⟩:=TkCs.at h2 hx;exact⟨sa,sn,sc,fun j hj=>by rw[List.getElem?_append_right (by rw[uc0];omega),uc0,show (k+1)*4+j-4=k*4+j by omega];exact a3 j hj⟩
theorem TkCs.len:∀{l:List Tok} {cs:List Value},TkCs l cs→cs.length=l.length*4
 | [],cs,h=>by
  have h:cs = []:=h;subst h;rfl
 |y::r,cs,h=>by
  obtain⟨ua,un,uc,d,e,h2⟩:=h;subst e;rw[List.length_append,uc0,TkCs.len h2,List.length_cons];omega
theorem uoP{Q:Nat→Prop}{w:World}{v:Value}{n:Nat}{cs:List Value}(h:OwnC Q w v 4 n cs)(hl:cs.length=n*4)(hn:0<n):∃g c,v=.slice (some ⟨g,0,none⟩) n c∧Q g∧∀k,k<n→∀j,j<4→w.cell? ⟨g,k*4+j,none⟩=cs[k*4+j]?:=by
 obtain⟨g,c,e,hq,_,hc⟩:=h.at_ hn;exact⟨g,c,e,hq,fun k hk j hj=>(hc (k*4+j) (by omega)).1⟩
end
end Go.Proofs.YthicmmhmmfhncaaGreat
