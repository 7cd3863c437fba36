import Derived.Test.YthicmmhmmfhncaaGreatT28
set_option linter.unusedVariables false
set_option linter.unusedSimpArgs false
namespace Go.Proofs.YthicmmhmmfhncaaGreat
section
open Go.RowKit
open M (OpD uj Gr)
def uqo(rb:Nat)(t:Tx)(r:Rv)(l rf th:List Tok)(A B N:Nat→Prop)(w:World)(e:Ending)(w':World):Prop :=
 Keep (fun b=>b=rb) w w'∧((∃car l1 k sa sc i N',e=.returned (.bool (car:Option Tok).isSome)∧vH t.n l=vR t.n car l1∧l1.length≤l.length∧(∀b,N' b→N b∨New w w' b)∧RS rb t r k sa sc i l1 rf th A B N' w')∨(∃x:Tok,vH t.n l=.inl x.at_∧e=.panicked (flt 5 (x.at_:Nat))))
theorem uls{rb:Nat}{t:Tx}{r:Rv}{k:Tok}{sa:Option Addr}{sc i:Nat}{l rf th:List Tok}{A B N:Nat→Prop}{w:World}(h:RS rb t r k sa sc i l rf th A B N w) :
  Calls Tryz.prog 70 #[.pointer (some ⟨rb,0,none⟩),.int .u8 94] w (uqo rb t r l rf th A B N w):=by
 refine (xX h 94 (by omega) (by omega) (by omega)).mono ?_
 rintro e W (⟨h94,rfl,hw⟩|⟨h94,hk,l1,rfl,⟨k1,sa1,sc1,i1,rfl,hS1⟩|⟨x,rfl,hx,rfl⟩⟩)
 ·subst hw
  refine⟨Keep.refl _ _,.inl ⟨none,l,k,sa,sc,i,N,rfl,?_,Nat.le_refl _,fun b q=>.inl q,h⟩⟩
  cases hl:l with
  |nil=>rfl
  |cons y r'=>simp only[vH];rw[if_neg (by rw[h.head hl];exact h94)]
 ·refine⟨hk,.inl ⟨some k,l1,k1,sa1,sc1,i1,_,rfl,?_,by simp,fun b q=>.inr q,hS1⟩⟩
  simp only[vH];rw[if_pos h94]
 ·refine⟨hk,.inr ⟨x,?_,rfl⟩⟩
  simp only[vH];rw[if_pos h94,uit (fun y r' e=>by injection e with e1 _;rw[←e1,hx];omega)]
  rfl
end
section
open Go.RowKit
open M (OpD uj Gr)
theorem udj{P Q:Nat→Prop}{w:World}{a:Option Addr}{n:Nat}{T:Nat→Int}(h:Ints P .u8 w a n T)(k:Ints Q .u8 w a n T):Ints (fun b=>P b∧Q b) .u8 w a n T:=by
 rcases h with h | ⟨b,off,e,hq,h⟩
 ·exact .inl h
 ·rcases k with k | ⟨b',off',e',hq',k⟩
  ·exact .inl k
  ·rw[e]at e'
   injection e' with e'
   injection e' with e1 e2
   subst e1;exact .inr ⟨b,off,e,⟨hq,hq'⟩,h⟩
theorem RS.addDef{rb:Nat}{t:Tx}{r:Rv}{k:Tok}{sa:Option Addr}{sc i:Nat}{l rf th:List Tok}{A B N D:Nat→Prop}{w2 w3:World}(h:RS rb t r k sa sc i l rf th A B N w2){v':Value}(hD:∀b,D b→b≠rb∧¬A b∧¬B b∧¬N b)(htx:Ints (fun b=>¬D b) .u8 w2 r.ta t.n t.T)(hg:Grew (fun b=>D b) w2 w3) :
  RS rb t { r with v6:=v' } k sa sc i l rf th A B N (w3.setCell ⟨rb,6,none⟩ v')∧Ints (fun b=>¬D b∧b<w2.heap.size) .u8 (w3.setCell ⟨rb,6,none⟩ v') r.ta t.n t.T:=by
 have hs:=hg.size;have hrb:=h.blk.lt;have hst:∀b,b<w2.heap.size→¬D b→b≠rb→(w3.setCell ⟨rb,6,none⟩ v').heap[b]? = w2.heap[b]?:=fun b h1 h2 h3=>(Below.heap_setCell _ _ _ _ h3).trans (hg.block b h1 h2)
 have hb3:RB rb t (yy r k sa sc) i w3:=(hg.block rb hrb (fun q=>(hD rb q).1 rfl)).trans h.blk
 have htt:=xf (udj h.txt htx) (fun b q=>hst b q.1.1 q.2 q.1.2.1)
 refine⟨⟨xp v' hb3,h.set.on (fun b q=>hst b (h.apt.set b q).1 (fun z=>(hD b z).2.2.2 q) (h.apt.set b q).2),h.refs.on (fun b q=>hst b (h.apt.rows b q).1 (fun z=>(hD b z).2.1 q) (h.apt.rows b q).2.1) (fun b q=>q),h.thrs.on (fun b q=>hst b (h.apt.thrs b q).1 (fun z=>(hD b z).2.2.1 q) (h.apt.thrs b q).2.1) (fun b q=>q),h.left,?_,h.cap,⟨?_,?_,?_⟩,h.tok,h.kind,h.big,h.tn⟩,?_⟩
 ·exact vu htt (fun b q=>⟨by have:=q.1.1;simp only[ul];omega,q.1.2⟩)
 ·exact fun b q=>⟨by have:=(h.apt.rows b q).1;simp only[ul];omega,(h.apt.rows b q).2⟩
 ·exact fun b q=>⟨by have:=(h.apt.thrs b q).1;simp only[ul];omega,(h.apt.thrs b q).2⟩
 ·exact fun b q=>⟨by have:=(h.apt.set b q).1;simp only[ul];omega,(h.apt.set b q).2⟩
 ·exact vu htt (fun b q=>⟨q.2,q.1.1⟩)
theorem DS.add{rb:Nat}{t:Tx}{r:Rv}{l:List Tok}{qs:List Rl}{A B D T:Nat→Prop}{w6 w7:World}{q:Rl}{v v':Value}{P A4 B4 N5:Nat→Prop}{k5:Tok}{sa5:Option Addr}{sc5 i5:Nat}{cs:List Value}
  (hS:RS rb t r k5 sa5 sc5 i5 l (yc qs++q.body.refT) (vK qs++q.body.thrT) A4 B4 N5 w6) (hcs:DfT w6 qs cs T) (hT:TrA w6 q.body v P) (hlen:qs.length+1+l.length≤1000000)
  (hD:∀b,D b→b<w6.heap.size∧b≠rb∧¬A4 b∧¬B4 b∧¬N5 b∧¬T b∧¬P b) (hTa:∀b,T b→b<w6.heap.size∧b≠rb∧¬A4 b∧¬B4 b∧¬N5 b∧¬P b) (hP:∀b,P b→b<w6.heap.size∧b≠rb∧¬A4 b∧¬B4 b∧¬N5 b) (htx:Ints (fun b=>¬D b) .u8 w6 r.ta t.n t.T)
  (ho:OwnC (fun b=>D b∨w6.heap.size≤b) w7 v' 4 (qs.length+1) (cs++dfC q v)) (hg:Grew (fun b=>D b) w6 w7) :
  DS rb t { r with v6:=v' } k5 sa5 sc5 i5 l (qs++[q]) A4 B4 N5 (fun b=>D b∨New w6 w7 b) (fun b=>T b∨P b) (w7.setCell ⟨rb,6,none⟩ v'):=by
 have hs:=hg.size;have hrb:=hS.blk.lt;obtain⟨h1,h2⟩:=hS.addDef (v':=v') (fun b z=>⟨(hD b z).2.1,(hD b z).2.2.1,(hD b z).2.2.2.1,(hD b z).2.2.2.2.1⟩) htx hg
 have hst:∀b,b<w6.heap.size→¬D b→b≠rb→(w7.setCell ⟨rb,6,none⟩ v').heap[b]? = w6.heap[b]?:=fun b h1 h2 h3=>(Below.heap_setCell _ _ _ _ h3).trans (hg.block b h1 h2)
 refine⟨?_,⟨cs++dfC q v,?_,?_⟩,?_,?_,?_,?_⟩
 ·have e1:yc (qs++[q])=yc qs++q.body.refT:=by unfold yc;rw[List.flatMap_append];simp
  have e2:vK (qs++[q])=vK qs++q.body.thrT:=by unfold vK;rw[List.flatMap_append];simp
  rw[e1,e2];exact h1
 ·rw[List.length_append]
  refine (uhx ho).on (fun b z=>Below.heap_setCell _ _ _ _ ?_)
  rcases z with z | z
  ·exact (hD b z).2.1
  ·have:=z.1;show b≠rb;omega
 ·refine (DfT.snoc hT hcs (fun b z=>(hTa b z).2.2.2.2.2)).on (fun b z=>?_) (fun b z=>z)
  rcases z with z | z
  ·exact hst b (hTa b z).1 (fun y=>(hD b y).2.2.2.2.2.1 z) (hTa b z).2.1
  ·exact hst b (hP b z).1 (fun y=>(hD b y).2.2.2.2.2.2 z) (hP b z).2.1
 ·rw[List.length_append];simp only[List.length_cons,List.length_nil];omega
 ·rintro b (z | z)
  ·exact⟨by have:=(hD b z).1;simp only[ul];omega,(hD b z).2.1,(hD b z).2.2.1,(hD b z).2.2.2.1,(hD b z).2.2.2.2.1,fun y=>y.elim (hD b z).2.2.2.2.2.1 (hD b z).2.2.2.2.2.2⟩
  ·have hz:=z.1
   exact⟨by simp only[ul];exact z.2,by omega,fun y=>by have:=(hS.apt.rows b y).1;omega,fun y=>by have:=(hS.apt.thrs b y).1;omega,fun y=>by have:=(hS.apt.set b y).1;omega,fun y=>y.elim (fun y=>by have:=(hTa b y).1;omega) (fun y=>by have:=(hP b y).1;omega)⟩
 ·rintro b (z | z)
  ·exact⟨by have:=(hTa b z).1;simp only[ul];omega,(hTa b z).2.1,(hTa b z).2.2.1,(hTa b z).2.2.2.1,(hTa b z).2.2.2.2.1⟩
  ·exact⟨by have:=(hP b z).1;simp only[ul];omega,(hP b z).2⟩
 ·exact vu h2 (fun b z y=>y.elim z.1 (fun y=>by have:=y.1;have:=z.2;omega))
end
section
open Go.RowKit
open M (OpD uj Gr)
theorem uln{rb:Nat}{t:Tx}{r:Rv}{k:Tok}{sa:Option Addr}{sc i:Nat}{l:List Tok}{qs:List Rl}{A B N D T:Nat→Prop}{w:World}(hD:DS rb t r k sa sc i l qs A B N D T w)
  {W3 W5 W6:World} {l3 l5:List Tok} {x:PE} {v v7 v8:Value} {k5:Tok} {sa5:Option Addr} {sc5 i5:Nat} {A4 B4 N3 N5 P:Nat→Prop} (hO:RdOK rb t r 0 l3 (yc qs) (vK qs) A B N3 W3 x l5 v W5 v7 v8 k5 sa5 sc5 i5 A4 B4 N5 P)
  (hK:Keep (C3 rb A B) w W5) (h3:w.heap.size≤W3.heap.size) (h35:W3.heap.size≤W5.heap.size) (hN3:∀b,N3 b→w.heap.size≤b∧b<W3.heap.size) (hN5:∀b,N5 b→w.heap.size≤b) (hK6:Keep (fun _=>False) W5 W6) (hl:l5.length+1≤l.length) :
  ∃cs,OwnC D W6 r.v6 4 qs.length cs∧∀(q:Rl) (v':Value) (W7:World),q.body=x→OwnC (fun b=>D b∨W6.heap.size≤b) W7 v' 4 (qs.length+1) (cs++dfC q v)→Grew (fun b=>D b) W6 W7 →
   DS rb t { r with v6:=v',v7:=v7,v8:=v8 } k5 sa5 sc5 i5 l5 (qs++[q]) A4 B4 N5 (fun b=>D b∨New W6 W7 b) (fun b=>T b∨P b) (W7.setCell ⟨rb,6,none⟩ v'):=by
 obtain⟨cs,hc1,hc2⟩:=hD.row;have h6:=hK6.size;have hrb:=hD.st.blk.lt;have hst:∀b,b<w.heap.size→b≠rb→¬A b→¬B b→W6.heap[b]? = w.heap[b]?:=fun b h1 h2 h3' h4=>(hK6.block b (by omega) (fun e=>e)).trans (hK.block b h1 (fun q=>by rcases q with q | q | q;exact h2 q;exact h3' q;exact h4 q))
 have hP0:∀b,P b→w.heap.size≤b∧b<W5.heap.size:=fun b q=>by
  rcases (hO.rp b q).1 with z | z
  ·have:=hN3 b z;omega
  ·have:=z.1;have:=z.2;omega
 have hA:∀b,b<w.heap.size→¬A b→¬A4 b:=fun b h1 h2 q=>(hO.ra b q).elim h2 (fun z=>by have:=z.1;omega)
 have hB:∀b,b<w.heap.size→¬B b→¬B4 b:=fun b h1 h2 q=>(hO.rb' b q).elim h2 (fun z=>by have:=z.1;omega)
 have hN:∀b,b<w.heap.size→¬N5 b:=fun b h1 q=>by have:=hN5 b q;omega
 refine⟨cs,hc1.on (fun b q=>hst b (hD.da b q).1 (hD.da b q).2.1 (hD.da b q).2.2.1 (hD.da b q).2.2.2.1),fun q v' W7 hq ho hg=>?_⟩
 subst hq;refine DS.add (r:={ r with v7:=v7,v8:=v8 }) (A:=A) (B:=B) (hO.st.kept hK6) (hc2.on (fun b z=>hst b (hD.ta b z).1 (hD.ta b z).2.1 (hD.ta b z).2.2.1 (hD.ta b z).2.2.2.1) (fun b z=>z)) (TrA.on _ hO.tree (fun b z=>hK6.block b (hP0 b z).2 (fun e=>e)) (fun b z=>z)) ?_ ?_ ?_ ?_ ?_ ho hg
 ·have:=hD.len;omega
 ·exact fun b z=>⟨by have:=(hD.da b z).1;omega,(hD.da b z).2.1,hA b (hD.da b z).1 (hD.da b z).2.2.1,hB b (hD.da b z).1 (hD.da b z).2.2.2.1,hN b (hD.da b z).1,(hD.da b z).2.2.2.2.2,fun y=>by have:=(hP0 b y).1;have:=(hD.da b z).1;omega⟩
 ·exact fun b z=>⟨by have:=(hD.ta b z).1;omega,(hD.ta b z).2.1,hA b (hD.ta b z).1 (hD.ta b z).2.2.1,hB b (hD.ta b z).1 (hD.ta b z).2.2.2.1,hN b (hD.ta b z).1,fun y=>by have:=(hP0 b y).1;have:=(hD.ta b z).1;omega⟩
 ·exact fun b z=>⟨by have:=(hP0 b z).2;omega,by have:=(hP0 b z).1;omega,(hO.rp b z).2⟩
 ·exact vu (xf (udj hD.st.txt hD.tx) (fun b z=>hst b z.1.1 z.1.2.1 z.1.2.2.1 z.1.2.2.2)) (fun b z=>z.2)
end
section
open Go.RowKit
open M (OpD uj Gr)
def C4(rb:Nat)(A B D:Nat→Prop):Nat→Prop:=fun b=>C3 rb A B b∨D b
def uoS(R:Sum Nat (Rl×List Tok))(p:Nat):Prop:=R=.inl p∨∃q y l,R=.inr (q,y::l)∧y.kind=0∧y.at_=p
def ucQ(rb:Nat)(t:Tx)(r:Rv)(l:List Tok)(qs:List Rl)(A B N D T:Nat→Prop)(w:World)(e:Ending)(w':World):Prop :=
  Keep (C4 rb A B D) w w'∧((∃q l1 v v6 v7 v8 k sa sc i A' B' N' D' T',vH t.n l=.inr (q,l1)∧e=.returned v∧l1.length+1≤l.length∧DS rb t { r with v6:=v6,v7:=v7,v8:=v8 } k sa sc i l1 (qs++[q]) A' B' N' D' T' w'∧(∀b,A' b→A b∨New w w' b)∧(∀b,B' b→B b∨New w w' b)∧(∀b,D' b→D b∨New w w' b)∧(∀b,N' b→New w w' b)∧(∀b,T' b→T b∨New w w' b))∨(∃p:Nat,e=.panicked (flt 5 (p:Nat))∧uoS (vH t.n l) p))
theorem upT{rb:Nat}{A B D:Nat→Prop}{w w':World}(k:Keep (C3 rb A B) w w'):Keep (C4 rb A B D) w w':=k.mono (fun b q=>.inl q)
set_option maxHeartbeats 1000000 in
set_option maxRecDepth 100000 in
theorem ufx(rb:Nat)(t:Tx)(r:Rv)(k:Tok)(sa:Option Addr)(sc i:Nat)(l:List Tok)(qs:List Rl)(A B N D T:Nat→Prop)(w:World)(hD:DS rb t r k sa sc i l qs A B N D T w):Calls Tryz.prog 40 #[.pointer (some ⟨rb,0,none⟩)] w (ucQ rb t r l qs A B N D T w):=by
  have HD:Hid (DS rb t r k sa sc i l qs A B N D T w):=hD;have H97:Hid (∀k':Tok,k'.kind≠97→(kk k'.kind=97↔k'.kind=110)∧(kk k'.kind=61↔k'.kind=61)∧(kk k'.kind=59↔k'.kind=59)):=fun k' q=>⟨ufw q,qa q (by omega) (by omega),qa q (by omega) (by omega)⟩
  have HPA:Hid (∀(p:Nat) W,Keep (C3 rb A B) w W→uoS (vH t.n l) p→ucQ rb t r l qs A B N D T w (.panicked (flt 5 (p:Nat))) W):=fun p W h1 h2=>⟨upT h1,.inr ⟨p,rfl,h2⟩⟩
  clear hD;go_enter Tryz.func40,Tryz.ntmps40;go_wp2_with fail;refine (uls HD.out.st).mono ?_;rintro e W1 ⟨hk1,⟨car,l1,k1,sa1,sc1,i1,N1,rfl,hR1,hl1,hN1,hS1⟩|⟨x,hR1,rfl⟩⟩
  · have HS1:Hid (RS rb t r k1 sa1 sc1 i1 l1 (yc qs) (vK qs) A B N1 W1):=hS1
    have HR1:Hid (vH t.n l=vR t.n car l1):=hR1;have HL1:Hid (l1.length≤l.length):=hl1;have HK1:Hid (Keep (fun b=>b=rb) w W1):=hk1
    generalize hbv:car.isSome=bv;have HBV:Hid (car.isSome=bv):=hbv;clear hS1 hk1 hR1 hl1 hN1 hbv;go_wp2_with fail;refine (xY HS1.out 110 (by omega) (H97.out k1 HS1.out.kind).1).mono ?_
    rintro e W2 ⟨hk2,⟨h110,rfl⟩|⟨h110,l2,rfl,⟨k2,sa2,sc2,i2,rfl,hS2⟩|⟨y,rfl,hy,rfl⟩⟩⟩
    · have HFI:=HPA.out (pos t.n l1) W2 (uY (HK1.out.trans hk2)) (.inl (HR1.out.trans (uit (fun y r' e=>by rw[HS1.out.head e];exact h110))))
      have HFI':Hid (ucQ rb t r l qs A B N D T w (.panicked (flt 5 (pos t.n l1:Nat))) W2):=HFI;clear HFI hk2 h110;go_wp2;exact⟨rfl,HFI'.out⟩
    · have HS2:Hid (RS rb t r k2 sa2 sc2 i2 l2 (yc qs) (vK qs) A B (New W1 W2) W2):=hS2
      have H110:Hid (k1.kind=110):=h110;have HK2:Hid (Keep (fun b=>b=rb) w W2):=HK1.out.trans hk2
      generalize hsz:str k1.nm.length (lf k1.nm)=sz1;have HSZ:Hid (str k1.nm.length (lf k1.nm)=sz1):=hsz;rw[(H97.out k1 HS1.out.kind).1.2 h110];clear hS2 hk2 h110 hsz;go_wp2_with fail;have HK2a:Hid (Keep (fun _=>False) W2 (W2.alloc (.cells #[.int .u8 97,.int .i64 (k1.at_:Nat),.string sz1,.slice sa1 k1.set.length sc1] 51))):=Keep.alloc _ _ _
      have HC2:Hid ((W2.alloc (.cells #[.int .u8 97,.int .i64 (k1.at_:Nat),.string sz1,.slice sa1 k1.set.length sc1] 51)).heap[W2.heap.size]? = some (.cells #[.int .u8 97,.int .i64 (k1.at_:Nat),.string sz1,.slice sa1 k1.set.length sc1] 51)):=yX W2 _ _ rfl;obtain⟨W2a,hW2a⟩:∃W2a,W2a=(W2.alloc (.cells #[.int .u8 97,.int .i64 (k1.at_:Nat),.string sz1,.slice sa1 k1.set.length sc1] 51)):=⟨_,rfl⟩;rw[←hW2a]at HK2a HC2 ⊢;clear hW2a;refine (xY (HS2.out.kept HK2a.out) 61 (by omega) (H97.out k2 HS2.out.kind).2.1).mono ?_
      rintro e W3 ⟨hk3,⟨h61,rfl⟩|⟨h61,l3,rfl,⟨k3,sa3,sc3,i3,rfl,hS3⟩|⟨y,rfl,hy,rfl⟩⟩⟩
      · have HFI:Hid (ucQ rb t r l qs A B N D T w (.panicked (flt 5 (pos t.n l2:Nat))) W3):=HPA.out (pos t.n l2) W3 (uY ((HK2.out.trans (yh HK2a.out)).trans hk3)) (.inl (HR1.out.trans (uiu H110.out (fun y r' e=>by rw[HS2.out.head e];exact h61))))
        clear hk3 h61;go_wp2;exact⟨rfl,HFI.out⟩
      · have HS3:Hid (RS rb t r k3 sa3 sc3 i3 l3 (yc qs) (vK qs) A B (New W2a W3) W3):=hS3
        have HK3:Hid (Keep (fun b=>b=rb) w W3):=(HK2.out.trans (yh HK2a.out)).trans hk3
        have H61:Hid (k2.kind=61):=h61;have HC3:Hid (W3.heap[W2.heap.size]? = some (.cells #[.int .u8 97,.int .i64 (k1.at_:Nat),.string sz1,.slice sa1 k1.set.length sc1] 51)∧W2.heap.size≠rb∧W2.heap.size<W3.heap.size∧w.heap.size≤W2.heap.size∧w.heap.size≤W2a.heap.size):=by
          have a1:=HS2.out.blk.lt;have a2:=(Array.getElem?_eq_some_iff.1 HC2.out).1;have a3:=hk3.size;exact⟨(hk3.block _ a2 (by show ¬W2.heap.size=rb;omega)).trans HC2.out,by omega,by omega,HK2.out.size,by have:=HK2.out.size;omega⟩
        generalize Value.agg #[Value.int .u8 (kk k2.kind),Value.int .i64 (k2.at_:Nat),Value.string (str k2.nm.length (lf k2.nm)),Value.slice sa2 k2.set.length sc2]=vx;clear hS3 hk3 h61 HC2;go_wp2_with fail;refine (ugd (8*l3.length+8) rb t r k3 sa3 sc3 i3 l3 (yc qs) (vK qs) A B _ W3 HS3.out (by omega)).mono ?_
        rintro e W4 ⟨hk4,⟨x,l4,v,v7,v8,k4,sa4,sc4,i4,A4,B4,N4,P,hR,rfl,hO⟩|⟨p,rfl,hb⟩⟩
        · have HO:Hid (RdOK rb t r 0 l3 (yc qs) (vK qs) A B (New W2a W3) W3 x l4 v W4 v7 v8 k4 sa4 sc4 i4 A4 B4 N4 P):=hO
          have HR:Hid (rd t.n (8*l3.length+8) 5 .emp l3=.inr (x,l4)):=hR;have HK4:Hid (Keep (C3 rb A B) W3 W4):=hk4;obtain⟨ty,u,rfl⟩:=TrA.iface x hO.tree;clear hO hR hk4;go_wp2_with fail;refine (xY HO.out.st 59 (by omega) (H97.out k4 HO.out.st.kind).2.2).mono ?_
          rintro e W5 ⟨hk5,⟨h59,rfl⟩|⟨h59,l5,rfl,⟨k5,sa5,sc5,i5,rfl,hS5⟩|⟨y,rfl,hy,rfl⟩⟩⟩
          · have HFI:Hid (ucQ rb t r l qs A B N D T w (.panicked (flt 5 (pos t.n l4:Nat))) W5):=HPA.out (pos t.n l4) W5 (((uY HK3.out).trans HK4.out).trans (uY hk5)) (.inl (HR1.out.trans (ujv H110.out H61.out HR.out (fun y r' e=>by rw[HO.out.st.head e];exact h59))))
            clear hk5 h59;go_wp2;exact⟨rfl,HFI.out⟩
          · generalize Value.agg #[Value.int .u8 (kk k4.kind),Value.int .i64 (k4.at_:Nat),Value.string (str k4.nm.length (lf k4.nm)),Value.slice sa4 k4.set.length sc4]=vy
            have HO5:RdOK rb t r 0 l3 (yc qs) (vK qs) A B (New W2a W3) W3 x l5 (.iface ty u) W5 v7 v8 k5 sa5 sc5 i5 A4 B4 (New W4 W5) P:=HO.out.step HS3.out.apt.set HS3.out.blk.lt HK4.out.size hk5 hS5 rfl rfl (fun q=>q)
            have HKT:Hid (Keep (C3 rb A B) w W5):=((uY HK3.out).trans HK4.out).trans (uY hk5);have HK6:Hid (Keep (fun _=>False) W5 (W5.drew.alloc (.cells #[.string sz1,.int .i64 (k1.at_:Nat),.bool bv,.iface ty u] 80))):=(Keep.drew (fun _=>False) W5).trans (Keep.alloc _ _ _)
            have hz1:=HK3.out.size;have hz2:=HK4.out.size;have hz3:=hk5.size;have hz4:=HC3.out.2.2;have HLL:Hid (l5.length+1≤l.length):=by
              have a1:=HL1.out;have a2:=HO.out.len;simp only[List.length_cons]at a1 a2;have a3:l5.length+1≤l.length:=by omega
              exact a3
            obtain⟨cs,hcs,hfin⟩:=uln HD.out HO5 HKT.out (by omega) (by omega) (fun b q=>⟨by have:=q.1;omega,q.2⟩) (fun b q=>by have:=q.1;omega) HK6.out HLL.out
            obtain⟨ra,rc,hv6⟩:=um hcs;rw[hv6]at hcs;have HOW:Hid (OwnC D (W5.drew.alloc (.cells #[.string sz1,.int .i64 (k1.at_:Nat),.bool bv,.iface ty u] 80)) (.slice ra qs.length rc) 4 qs.length cs):=hcs;have c6:W5.cell? ⟨rb,6,none⟩=some (.slice ra qs.length rc):=by
              have h:W5.cell? ⟨rb,6,none⟩=some r.v6:=ud hS5.blk rfl;rw[hv6]at h;exact h
            have hC5:W5.heap[W2.heap.size]? = some (.cells #[.int .u8 97,.int .i64 (k1.at_:Nat),.string sz1,.slice sa1 k1.set.length sc1] 51):=(hk5.block _ (by omega) HC3.out.2.1).trans ((HK4.out.block _ hz4.1 (fun q=>by
              rcases q with q | q | q
              · exact HC3.out.2.1 q
              · have:=(HD.out.st.apt.rows _ q).1;omega
              · have:=(HD.out.st.apt.thrs _ q).1;omega)).trans HC3.out.1)
            have y1:W5.cell? ⟨W2.heap.size,1,none⟩=some (.int .i64 (k1.at_:Nat)):=ud hC5 rfl;have y2:W5.cell? ⟨W2.heap.size,2,none⟩=some (.string sz1):=ud hC5 rfl;have hlt5:=(Array.getElem?_eq_some_iff.1 hC5).1;have HSR:Hid (Src Tryz.prog 4 52 (.slice (some ⟨W5.drew.heap.size,0,none⟩) 1 1) 1 [.string sz1,.int .i64 (k1.at_:Nat),.bool bv,.iface ty u] (W5.drew.alloc (.cells #[.string sz1,.int .i64 (k1.at_:Nat),.bool bv,.iface ty u] 80))):=uoM W5.drew _ _ _ _ _;have hlen:qs.length+1≤16777216:=by have:=HD.out.len;omega
            have hrb5:rb<W5.heap.size:=hS5.blk.lt;have HAf:Hid (∀v6 W7,OwnC (fun b=>D b∨(W5.drew.alloc (.cells #[.string sz1,.int .i64 (k1.at_:Nat),.bool bv,.iface ty u] 80)).heap.size≤b) W7 v6 4 (qs.length+1) (cs++[.string sz1,.int .i64 (k1.at_:Nat),.bool bv,.iface ty u])→Grew (fun b=>D b) (W5.drew.alloc (.cells #[.string sz1,.int .i64 (k1.at_:Nat),.bool bv,.iface ty u] 80)) W7→(∀ve,ucQ rb t r l qs A B N D T w (.returned ve) (W7.setCell ⟨rb,6,none⟩ v6))∧RB rb t (yy { r with v7:=v7,v8:=v8 } k5 sa5 sc5) i5 W7):=fun v6 W7 ho hg=>by
              have he:dfC ⟨car,k1,k2,x,k4⟩ (.iface ty u) = [.string sz1,.int .i64 (k1.at_:Nat),.bool bv,.iface ty u]:=by unfold dfC;rw[HSZ.out,HBV.out]
              have ho2:OwnC (fun b=>D b∨(W5.drew.alloc (.cells #[.string sz1,.int .i64 (k1.at_:Nat),.bool bv,.iface ty u] 80)).heap.size≤b) W7 v6 4 (qs.length+1) (cs++dfC ⟨car,k1,k2,x,k4⟩ (.iface ty u)):=by rw[he];exact ho
              have hD2:=hfin ⟨car,k1,k2,x,k4⟩ v6 W7 rfl ho2 hg;have b6:=HK6.out.size;have b7:=hg.size;refine⟨fun ve=>⟨?_,.inl ⟨_,_,ve,_,_,_,_,_,_,_,_,_,_,_,_,HR1.out.trans (uiv H110.out H61.out HR.out h59),rfl,HLL.out,hD2,?_,?_,?_,?_,?_⟩⟩,(hg.block rb (by omega) (fun q=>(HD.out.da rb q).2.1 rfl)).trans (hS5.kept HK6.out).blk⟩
              · refine⟨hg.os.trans (HK6.out.os.trans HKT.out.os),hg.tape.trans (HK6.out.tape.trans HKT.out.tape),hg.output.trans (HK6.out.output.trans HKT.out.output),by simp only[ul];omega,fun b hb hc=>?_⟩
                exact (Below.heap_setCell _ _ _ _ (fun e=>hc (.inl (.inl e)))).trans ((hg.block b (by omega) (fun q=>hc (.inr q))).trans ((HK6.out.block b (by omega) (fun e=>e)).trans (HKT.out.block b hb (fun q=>hc (.inl q)))))
              · exact fun b q=>(HO5.ra b q).imp id (fun z=>⟨by have:=z.1;omega,by have:=z.2;simp only[ul];omega⟩)
              · exact fun b q=>(HO5.rb' b q).imp id (fun z=>⟨by have:=z.1;omega,by have:=z.2;simp only[ul];omega⟩)
              · exact fun b q=>q.imp id (fun z=>⟨by have:=z.1;omega,by have:=z.2;simp only[ul];omega⟩)
              · exact fun b q=>⟨by have:=q.1;omega,by have:=q.2;simp only[ul];omega⟩
              · exact fun b q=>q.imp id (fun z=>(HO5.rp b z).1.elim (fun y=>⟨by have:=y.1;omega,by have:=y.2;simp only[ul];omega⟩) (fun y=>⟨by have:=y.1;omega,by have:=y.2;simp only[ul];omega⟩))
            clear hfin hcs hC5 hS5 hk5 h59 HO5 hv6 hz1 hz2 hz3 hz4;go_wp2_with fail;go_region_law
              (refine kE rfl (.tmp 19) (.tmp 27) 52 52 rfl (v:=.slice ra qs.length rc) (y:=.slice (some ⟨W5.drew.heap.size,0,none⟩) 1 1) (by simp[Act.eval,Act.put]) (by simp[Act.eval,Act.put]) uoL (Q:=D) (n:=qs.length) (cs:=cs) (m:=1) (news:=[.string sz1,.int .i64 (k1.at_:Nat),.bool bv,.iface ty u]) HOW.out HSR.out hlen ?_
               intro v6 W7 hown4 hgrew4 hsz4;obtain⟨hF4,hB4⟩:=HAf.out v6 W7 hown4 hgrew4;obtain⟨a4,n4,rfl⟩:=um hown4;have HFI:Hid (∀ve,ucQ rb t r l qs A B N D T w (.returned ve) (W7.setCell ⟨rb,6,none⟩ (.slice a4 (qs.length+1) n4))):=hF4;have z6:W7.cell? ⟨rb,6,none⟩=some r.v6:=ud hB4 rfl;have g6:W7.frozen? ⟨rb,6,none⟩=false:=ut hB4;have lt4:=ub z6;clear hown4 hgrew4 hsz4 hF4 hB4)
            all_goals (
              go_wp2;exact⟨rfl,_,results_none rfl _ _ _,HFI.out _⟩)
          · have HFI:Hid (ucQ rb t r l qs A B N D T w (.panicked (flt 5 (y.at_:Nat))) W5):=HPA.out y.at_ W5 (((uY HK3.out).trans HK4.out).trans (uY hk5)) (.inr ⟨_,y,[],HR1.out.trans (uiv H110.out H61.out HR.out h59),hy,rfl⟩)
            clear hk5 h59 hy;go_wp2;exact⟨rfl,HFI.out⟩
        · have HFI:Hid (ucQ rb t r l qs A B N D T w (.panicked (flt 5 (p:Nat))) W4):=HPA.out p W4 ((uY HK3.out).trans hk4) (.inl (HR1.out.trans (uf8 H110.out H61.out hb)))
          clear hk4 hb;go_wp2;exact⟨rfl,HFI.out⟩
      · have HFI:Hid (ucQ rb t r l qs A B N D T w (.panicked (flt 5 (y.at_:Nat))) W3):=HPA.out y.at_ W3 (uY ((HK2.out.trans (yh HK2a.out)).trans hk3)) (.inl (HR1.out.trans (uf8 H110.out h61 (ya _ _ _ _ _ _ hy))))
        clear hk3 h61 hy;go_wp2;exact⟨rfl,HFI.out⟩
    · have HFI:Hid (ucQ rb t r l qs A B N D T w (.panicked (flt 5 (y.at_:Nat))) W2):=HPA.out y.at_ W2 (uY (HK1.out.trans hk2)) (.inl (HR1.out.trans (uiu h110 (fun z r' e=>by injection e with e1 _;rw[←e1,hy];omega))))
      clear hk2 h110 hy;go_wp2;exact⟨rfl,HFI.out⟩
  · have HFI:Hid (ucQ rb t r l qs A B N D T w (.panicked (flt 5 (x.at_:Nat))) W1):=HPA.out x.at_ W1 (uY hk1) (.inl hR1)
    clear hk1 hR1;go_wp2;exact⟨rfl,HFI.out⟩
end
section
open Go.RowKit
open M (OpD uj Gr)
theorem uhq{n:Nat}{y:Tok}{l:List Tok}(h:y.kind=0):vH n (y::l)=.inl y.at_:=by
 simp only[vH];rw[if_neg (by omega)]
 simp only[vR];rw[if_neg (by omega)]
theorem ueC{n f:Nat}{y:Tok}{l:List Tok}(h:y.kind=0):vQ n (f+1) (y::l)=.inl y.at_:=by
 simp only[vQ];rw[uhq h]
def uhr(qs:List Rl):Sum Nat (List Rl)→Sum Nat (List Rl)
 | .inl p=>.inl p
 | .inr q=>.inr (qs++q)
theorem ukX{n f:Nat}{l l1:List Tok}{q:Rl}(qs:List Rl)(h:vH n l=.inr (q,l1)):uhr qs (vQ n (f+1) l)=uhr (qs++[q]) (vQ n f l1):=by
 cases l with
 |nil=>simp[vH]at h
 |cons x r =>
  simp only[vQ];rw[h];simp only;cases vQ n f l1 with
  |inl p=>rfl
  |inr z=>simp[uhr]
theorem ukY{n f:Nat}{l:List Tok}{p:Nat}(qs:List Rl)(hl:l≠[])(hf:l.length<f+1)(hlen:∀q l1,vH n l=.inr (q,l1)→l1.length<l.length)(h:uoS (vH n l) p):uhr qs (vQ n (f+1) l)=.inl p:=by
 cases l with
 |nil=>exact absurd rfl hl
 |cons x r =>
  simp only[vQ];rcases h with h | ⟨q,y,l',h,hy,ha⟩
  ·rw[h];rfl
  ·rw[h]
   have h2:=hlen _ _ h;simp only[List.length_cons]at h2 hf;obtain⟨g,rfl⟩:∃g,f=g+1:=⟨f-1,by omega⟩
   simp only;rw[ueC hy,ha];rfl
theorem uhs{n:Nat}{l:List Tok}:∀q l1,vH n l=.inr (q,l1)→l1.length<l.length:=by
 intro q l1 h;cases l with
 |nil=>simp[vH]at h
 |cons x r =>
  obtain⟨_,h2,_⟩:=(udW n (x::r) (by simp)).2 q l1 h
  rw[h2,List.length_append];simp[Rl.tk];omega
def uf4(rb:Nat)(t:Tx)(r:Rv)(w:World)(e:Ending)(w':World):Prop :=
 Keep (fun b=>b=rb) w w'∧((∃qs v v6 v7 v8 k sa sc i A B N D T,vQ t.n ((uQ t).length+1) (uQ t)=.inr qs∧e=.returned v∧DS rb t { r with v6:=v6,v7:=v7,v8:=v8 } k sa sc i [] qs A B N D T w'∧∀b,(A b∨B b∨N b∨D b∨T b)→New w w' b)∨(∃p:Nat,e=.panicked (flt 5 (p:Nat))∧vQ t.n ((uQ t).length+1) (uQ t)=.inl p))
def raI(F:Nat)(rb:Nat)(t:Tx)(r:Rv)(w:World)(v:Value)(wr:World):Prop :=
 Keep (fun b=>b=rb) w wr∧∃f qs l v6 v7 v8 k sa sc i A B N D T,l.length<f∧vQ t.n F (uQ t)=uhr qs (vQ t.n f l)∧DS rb t { r with v6:=v6,v7:=v7,v8:=v8 } k sa sc i l qs A B N D T wr∧∀b,(A b∨B b∨N b∨D b∨T b)→New w wr b
theorem uf5{rb:Nat}{A B D:Nat→Prop}{w wr W:World}(h:Keep (fun b=>b=rb) w wr)(k:Keep (C4 rb A B D) wr W)(hn:∀b,(A b∨B b∨D b)→w.heap.size≤b):Keep (fun b=>b=rb) w W :=
 ⟨k.os.trans h.os,k.tape.trans h.tape,k.output.trans h.output,Nat.le_trans h.size k.size,fun b hb hc=>(k.block b (Nat.lt_of_lt_of_le hb h.size) (fun q=>by
  rcases q with (q | q | q) | q
  ·exact hc q
  ·have:=hn b (.inl q);omega
  ·have:=hn b (.inr (.inl q));omega
  ·have:=hn b (.inr (.inr q));omega)).trans (h.block b hb hc)⟩
theorem ukZ{rb:Nat}{t:Tx}{r:Rv}{w w':World}{sa:Option Addr}{sc:Nat}(h6:r.v6=.slice none 0 0)(h7:r.v7=.slice none 0 0)(h8:r.v8=.slice none 0 0)(hT:TxQ rb w r.ta t)(hrb:rb<w.heap.size)(htc:t.n≤r.tc)(hn:t.n≤4000)(hk:Keep (fun b=>b=rb) w w')(h0:vh t 0<t.n→(uM t 0).1.kind≠0)
  (hB:RB rb t (yy r (uM t 0).1 sa sc) (uM t 0).2 w') (hO:OwnC (New w w') w' (.slice sa (uM t 0).1.set.length sc) 1 (uM t 0).1.set.length (uz .i64 (lf (uM t 0).1.set) (uM t 0).1.set.length)) :
  DS rb t r (uM t 0).1 sa sc (uM t 0).2 (uQ t) [] (fun _=>False) (fun _=>False) (New w w') (fun _=>False) (fun _=>False) w':=by
 have hl:Left t (⟨1,0,[],[]⟩:Tok) 0 (⟨1,0,[],[]⟩::udg t 0):=.inl ⟨rfl,by show (1:Int)≠0;omega,Nat.zero_le _⟩
 have hs:=hk.size;have htl:(uQ t).length≤8000:=Nat.le_trans (ui0 _) (Nat.le_trans (udU t).2 (by omega))
 have ht':Ints (fun b=>b<w'.heap.size∧b≠rb) .u8 w' r.ta t.n t.T:=hT.keep hk
 refine⟨⟨hB,hO,⟨[],.inl ⟨h7,rfl,rfl⟩,rfl⟩,⟨[],.inl ⟨h8,rfl,rfl⟩,rfl⟩,ueB hl h0,vu ht' (fun b q=>⟨q.1,q.2,fun z=>z,fun z=>z⟩),htc,⟨fun b q=>q.elim,fun b q=>q.elim,fun b q=>⟨q.2,fun e=>by have:=q.1;omega⟩⟩,(uc1 t 0).1,(uc1 t 0).2,?_,by omega⟩,⟨[],.inl ⟨h6,rfl,rfl⟩,rfl⟩,?_,fun b q=>q.elim,fun b q=>q.elim,vu ht' (fun b q z=>z)⟩
 ·show 0+0+(uQ t).length≤1000000;omega
 ·show 0+(uQ t).length≤1000000;omega
set_option maxHeartbeats 1000000 in
set_option maxRecDepth 100000 in
theorem uf6(rb:Nat)(t:Tx)(r:Rv)(w:World)(hB:RB rb t r 0 w)(h6:r.v6=.slice none 0 0)(h7:r.v7=.slice none 0 0)(h8:r.v8=.slice none 0 0)(hT:TxQ rb w r.ta t)(htc:t.n≤r.tc)(hn:t.n≤4000) :
  Calls Tryz.prog 18 #[.pointer (some ⟨rb,0,none⟩)] w (uf4 rb t r w):=by
 have HAD:Hid (Calls Tryz.prog 39 #[.pointer (some ⟨rb,0,none⟩)] w (ko t 0 rb r w)):=kY rb t r 0 w hB hT (Nat.zero_le _) htc;have HDS:Hid (∀(w':World) (sa:Option Addr) (sc:Nat),Keep (fun b=>b=rb) w w'→(vh t 0<t.n→(uM t 0).1.kind≠0)→RB rb t (yy r (uM t 0).1 sa sc) (uM t 0).2 w'→OwnC (New w w') w' (.slice sa (uM t 0).1.set.length sc) 1 (uM t 0).1.set.length (uz .i64 (lf (uM t 0).1.set) (uM t 0).1.set.length)→DS rb t r (uM t 0).1 sa sc (uM t 0).2 (uQ t) [] (fun _=>False) (fun _=>False) (New w w') (fun _=>False) (fun _=>False) w'):=fun w' sa sc a1 a2 a3 a4=>ukZ h6 h7 h8 hT hB.lt htc hn a1 a2 a3 a4
 clear hB h6 h7 h8 hT htc hn;go_enter Tryz.func18,Tryz.ntmps18;go_wp2_with fail;refine HAD.out.mono ?_;clear HAD;rintro e W1 ⟨hk1,⟨v,sa,sc,h0,rfl,hB1,hO1⟩|⟨h1,h0,rfl⟩⟩
 ·have HI:Hid (∀v,raI ((uQ t).length+1) rb t r w v W1):=fun v =>
   ⟨hk1,(uQ t).length+1,[],uQ t,r.v6,r.v7,r.v8,_,sa,sc,_,_,_,_,_,_,Nat.lt_succ_self _,by cases vQ t.n ((uQ t).length+1) (uQ t)<;>rfl,HDS.out W1 sa sc hk1 h0 hB1 hO1,fun b q=>by
    rcases q with q | q | q | q | q
    ·exact q.elim
    ·exact q.elim
    ·exact q
    ·exact q.elim
    ·exact q.elim⟩
  clear hk1 h0 hB1 hO1 HDS;go_wp2;go_loopw [4] (raI ((uQ t).length+1) rb t r w) (fun _ wr=>lenM t rb wr)
  case atStart=>exact HI.out _
  case round =>
   clear HI;obtain⟨hk,f,qs,l,v6,v7,v8,k1,sa1,sc1,i1,A,B,N,D,T,hf,hE,hD,hN⟩:=hrel;have HD:Hid (DS rb t { r with v6:=v6,v7:=v7,v8:=v8 } k1 sa1 sc1 i1 l qs A B N D T wr):=hD
   have HE:Hid (vQ t.n ((uQ t).length+1) (uQ t)=uhr qs (vQ t.n f l)):=hE;have HF:Hid (l.length<f):=hf;have HK:Hid (Keep (fun b=>b=rb) w wr):=hk
   have HN:Hid (∀b,(A b∨B b∨N b∨D b∨T b)→New w wr b):=hN;have HLM:Hid (lenM t rb wr=l.length):=hD.st.lenM;have c2:wr.cell? ⟨rb,2,none⟩=some (.int .u8 (kk k1.kind)):=ud hD.st.blk rfl;have HB1:Hid (kk k1.kind=0↔l = []):=(qa hD.st.kind (by omega) (by omega)).trans hD.st.left.kind.symm
   clear hD hE hf hk hN;generalize kk k1.kind=c1 at c2 HB1;by_cases hc:c1=0
   ·have HNL:Hid (l = []):=HB1.out.1 hc
    have HFI:Hid (∀v,uf4 rb t r w (.returned v) wr):=fun v=>by
     obtain⟨g,hg⟩:∃g,f=g+1:=⟨f-1,by have:=HF.out;omega⟩
     have h1:=HE.out;have h2:=HD.out;rw[HNL.out]at h1 h2;rw[hg]at h1;exact⟨HK.out,.inl ⟨qs,v,v6,v7,v8,k1,sa1,sc1,i1,A,B,N,D,T,by rw[h1];simp[vQ,uhr],rfl,h2,HN.out⟩⟩
    subst hc;clear HB1 HNL;go_wp2;exact⟨rfl,_,results_none rfl _ _ _,HFI.out _⟩
   ·have HNL:Hid (l≠[]):=fun q=>hc (HB1.out.2 q)
    clear HB1;go_wp2_with fail;refine (ufx rb t _ k1 sa1 sc1 i1 l qs A B N D T wr HD.out).mono ?_;rintro e W2 ⟨hk2,⟨q,l2,v,u6,u7,u8,k2,sa2,sc2,i2,A2,B2,N2,D2,T2,hR,rfl,hl,hD2,a1,a2,a3,a4,a5⟩|⟨p,rfl,hbad⟩⟩
    ·have HK2:Hid (Keep (fun b=>b=rb) w W2):=uf5 HK.out hk2 (fun b q=>by
      rcases q with q | q | q
      ·exact (HN.out b (.inl q)).1
      ·exact (HN.out b (.inr (.inl q))).1
      ·exact (HN.out b (.inr (.inr (.inr (.inl q))))).1)
     have HI2:Hid (∀v,raI ((uQ t).length+1) rb t r w v W2):=fun v=>by
      have h1:=HF.out;obtain⟨g,hg⟩:∃g,f=g+1:=⟨f-1,by omega⟩
      have h2:=HE.out;rw[hg,ukX qs hR]at h2;have hs:=HK.out.size;have hs2:=hk2.size;have nt:∀b,New wr W2 b→New w W2 b:=fun b q=>vd hs q
      have nm:∀b,New w wr b→New w W2 b:=fun b q=>yp hs2 q
      refine⟨HK2.out,g,qs++[q],l2,u6,u7,u8,k2,sa2,sc2,i2,A2,B2,N2,D2,T2,by omega,h2,hD2,fun b z=>?_⟩
      rcases z with z | z | z | z | z
      ·exact (a1 b z).elim (fun y=>nm b (HN.out b (.inl y))) (nt b)
      ·exact (a2 b z).elim (fun y=>nm b (HN.out b (.inr (.inl y)))) (nt b)
      ·exact nt b (a4 b z)
      ·exact (a3 b z).elim (fun y=>nm b (HN.out b (.inr (.inr (.inr (.inl y)))))) (nt b)
      ·exact (a5 b z).elim (fun y=>nm b (HN.out b (.inr (.inr (.inr (.inr y)))))) (nt b)
     have HM:Hid (lenM t rb W2<lenM t rb wr):=by
      rw[HLM.out,hD2.st.lenM];have h3:l2.length<l.length:=by omega
      exact h3
     clear hR hD2 hk2 c2 hc hl a1 a2 a3 a4 a5;go_wp2;go_roundw;all_goals first
      |exact HI2.out _
      |exact HM.out
    ·have HFI:Hid (uf4 rb t r w (.panicked (flt 5 (p:Nat))) W2):=by
      have h1:=HF.out;obtain⟨g,hg⟩:∃g,f=g+1:=⟨f-1,by omega⟩
      have h2:=HE.out;rw[hg]at h2 h1;exact⟨uf5 HK.out hk2 (fun b q=>by
       rcases q with q | q | q
       ·exact (HN.out b (.inl q)).1
       ·exact (HN.out b (.inr (.inl q))).1
       ·exact (HN.out b (.inr (.inr (.inr (.inl q))))).1),.inr ⟨p,rfl,h2.trans (ukY qs HNL.out h1 uhs hbad)⟩⟩
     clear hk2 hbad hc;go_wp2;exact⟨rfl,HFI.out⟩
 ·have HFI:Hid (uf4 rb t r w (.panicked (flt 5 (vh t 0:Nat))) W1):=by
   obtain⟨x,e1,e2,e3⟩:=uaw (t:=t) (k:=(⟨1,0,[],[]⟩:Tok)) (i:=0) (l:=udg t 0) (.inl ⟨rfl,by show (1:Int)≠0;omega,Nat.zero_le _⟩) h1 h0
   have e1:uQ t = [x]:=e1;refine⟨hk1,.inr ⟨_,rfl,?_⟩⟩;rw[e1,ueC e2,e3]
  clear hk1 h0 h1 HDS;go_wp2;exact⟨rfl,HFI.out⟩
end
end Go.Proofs.YthicmmhmmfhncaaGreat
