import Derived.Test.YthicmmhmmfhncaaGreatT26
set_option linter.unusedVariables false
set_option linter.unusedSimpArgs false
namespace Go.Proofs.YthicmmhmmfhncaaGreat
section
open Go.RowKit
open M (OpD uj Gr)
theorem ukU{n f:Nat}{l:List Tok}:rd n (f+1) 5 .emp l=(match rd n f 4 .emp l with | .inl p=>.inl p | .inr (e,r)=>rd n f 6 e r):=by
 rw[rd];rfl
theorem ukV{n f:Nat}{acc:PE}{l:List Tok}(h:∀y r,l=y::r→y.kind≠47):rd n (f+1) 6 acc l=.inr (acc,l):=by
 cases l with
 |nil=>rw[rd.eq_def]
 |cons y r =>
  rw[rd.eq_def];simp only;rw[if_neg (h y r rfl)]
theorem udh{n f:Nat}{acc:PE}{y:Tok}{r:List Tok}(h:y.kind=47):rd n (f+1) 6 acc (y::r)=(match rd n f 4 .emp r with | .inl p=>.inl p | .inr (e,r')=>rd n f 6 (.alt acc y e) r'):=by
 rw[rd.eq_def];simp only[h];rfl
def alI(F:Nat)(rb:Nat)(t:Tx)(r:Rv)(l rf th:List Tok)(A B N:Nat→Prop)(w:World)(v:Value)(wr:World):Prop :=
 Keep (C3 rb A B) w wr∧∃f acc l1 v7 v8 k sa sc i A' B' N' P,f+1≤F∧rd t.n (F+1) 5 .emp l=rd t.n (f+1) 6 acc l1∧8*l1.length+5<f+1∧RdOK rb t r 0 l rf th A B N w acc l1 v wr v7 v8 k sa sc i A' B' N' P
set_option maxHeartbeats 1000000 in
set_option maxRecDepth 100000 in
theorem ukW{F:Nat}(H4:∀g,g≤F→RdC 91 4 4 0 g):RdC 72 5 6 0 (F+1):=by
 intro rb t r k sa sc i l rf th A B N w hS hf;have HS:Hid (RS rb t r k sa sc i l rf th A B N w):=hS;have HF:Hid (8*l.length+6<F+1):=hf;have G4:Hid (∀g,g≤F→RdC 91 4 4 0 g):=H4;clear hS hf H4;go_enter Tryz.func72,Tryz.ntmps72;go_wp2_with fail;refine (G4.out F (Nat.le_refl _) rb t r k sa sc i l rf th A B N w HS.out (by have:=HF.out;omega)).mono ?_
 rintro e W1 ⟨hk1,⟨x,l1,v,v7,v8,k1,sa1,sc1,i1,A1,B1,N1,P,hR,rfl,hO⟩|⟨p,rfl,hbad⟩⟩
 ·have HI:Hid (alI F rb t r l rf th A B N w v W1):=by
   have h1:=HF.out;have h2:=hO.len;obtain⟨f,rfl⟩:∃f,F=f+1:=⟨F-1,by omega⟩
   exact⟨hk1,f,x,l1,v7,v8,k1,sa1,sc1,i1,A1,B1,N1,P,Nat.le_refl _,by rw[ukU,hR],by omega,hO⟩
  clear hR hO hk1;go_wp2;go_loopw [3] (alI F rb t r l rf th A B N w) (fun _ wr=>lenM t rb wr)
  case atStart=>exact HI.out
  case round =>
   obtain⟨hk,f,acc,l1,v7,v8,k1,sa1,sc1,i1,A1,B1,N1,P,hf,hE,hfl,hO⟩:=hrel;obtain⟨ty3,u3,rfl⟩:=TrA.iface acc hO.tree;have HO:Hid (RdOK rb t r 0 l rf th A B N w acc l1 (.iface ty3 u3) wr v7 v8 k1 sa1 sc1 i1 A1 B1 N1 P):=hO;have HE:Hid (rd t.n (F+1) 5 .emp l=rd t.n (f+1) 6 acc l1):=hE;have HFL:Hid (8*l1.length+5<f+1∧f+1≤F):=⟨hfl,hf⟩;have HK:Hid (Keep (C3 rb A B) w wr):=hk;have HLM:Hid (lenM t rb wr=l1.length):=hO.st.lenM;clear hO hE hfl hf hk HI;go_wp2_with fail;refine (xX HO.out.st 47 (by omega) (by omega) (by omega)).mono ?_
   rintro e W2 (⟨h47,rfl,hw⟩|⟨h47,hk2,l2,rfl,⟨k2,sa2,sc2,i2,rfl,hS2⟩|⟨y,rfl,hy,rfl⟩⟩)
   ·obtain rfl:=hw.symm
    have HFI:Hid (vt (rd t.n (F+1) 5 .emp l) 0 rb t r l rf th A B N w (.returned (.iface ty3 u3)) wr):=by
     refine⟨HK.out,.inl ⟨acc,l1,_,v7,v8,k1,sa1,sc1,i1,A1,B1,N1,P,?_,rfl,HO.out⟩⟩;rw[HE.out];refine ukV (fun y r' e=>?_)
     rcases HO.out.st.left with q | q
     ·rw[q.1]at e
      injection e with e1 e2
      rw[←e1];exact h47
     ·rw[q.1]at e;cases e
    clear h47;go_wp2;go_ret;exact HFI.out
   ·have H47:Hid (k1.kind=47):=h47
    have HO2:Hid (RdOK rb t r 0 l rf th A B N w acc l2 (.iface ty3 u3) W2 v7 v8 k2 sa2 sc2 i2 A1 B1 (New wr W2) P):=HO.out.step HS.out.apt.set HS.out.blk.lt HK.out.size hk2 hS2 rfl rfl (fun q=>q)
    have HK2:Hid (Keep (C3 rb A B) w W2):=HK.out.trans (uY hk2);clear h47 hk2 hS2;go_wp2_with fail;refine (G4.out f (by have:=HFL.out;omega) rb t { r with v7:=v7,v8:=v8 } k2 sa2 sc2 i2 l2 (rf++acc.refT) (th++acc.thrT) A1 B1 (New wr W2) W2 HO2.out.st (by have:=HFL.out;simp at this;omega)).mono ?_
    rintro e W3 ⟨hk3,⟨y,l3,v3,u7,u8,k3,sa3,sc3,i3,A3,B3,N3,P3,hR,rfl,hO3⟩|⟨p,rfl,hbad⟩⟩
    ·obtain⟨ty2,u2,rfl⟩:=TrA.iface y hO3.tree
     have HI2:Hid (alI F rb t r l rf th A B N w (.iface 122 (.agg #[.iface ty3 u3,.iface ty2 u2])) W3):=by
      have h1:=HFL.out;have h2:=hO3.len;simp only[List.length_cons]at h1;obtain⟨g,rfl⟩:∃g,f=g+1:=⟨f-1,by omega⟩
      exact⟨HO2.out.keep HK2.out hk3,g,.alt acc k1 y,l3,u7,u8,k3,sa3,sc3,i3,A3,B3,N3,_,by omega,by rw[HE.out,udh H47.out,hR],by omega,HO2.out.two HS.out.apt.set HS.out.blk.lt HK2.out.size hk3 hO3 (by omega) rfl rfl (fun vz P q=>q)⟩
     have HM:Hid (lenM t rb W3<lenM t rb wr):=by
      rw[HLM.out,hO3.st.lenM];have h3:l3.length<(k1::l2).length:=by
       have:=hO3.len;simp only[List.length_cons];omega
      exact h3
     clear hR hO3 hk3;go_wp2;go_roundw;all_goals first
      |exact HI2.out
      |exact HM.out
    ·have HFI:Hid (vt (rd t.n (F+1) 5 .emp l) 0 rb t r l rf th A B N w (.panicked (flt 5 (p:Nat))) W3) :=
      ⟨HO2.out.keep HK2.out hk3,.inr ⟨p,rfl,by rw[HE.out,udh H47.out];exact qj _ hbad⟩⟩
     clear hk3 hbad;go_wp2;exact⟨rfl,HFI.out⟩
   ·have HFI:Hid (vt (rd t.n (F+1) 5 .emp l) 0 rb t r l rf th A B N w (.panicked (flt 5 (y.at_:Nat))) W2) :=
     ⟨HK.out.trans (uY hk2),.inr ⟨y.at_,rfl,by rw[HE.out,udh h47];exact qj _ (ya _ _ _ _ _ _ hy)⟩⟩
    clear h47 hk2 hy;go_wp2;exact⟨rfl,HFI.out⟩
 ·have HFI:Hid (vt (rd t.n (F+1) 5 .emp l) 0 rb t r l rf th A B N w (.panicked (flt 5 (p:Nat))) W1) :=
   ⟨hk1,.inr ⟨p,rfl,by rw[ukU];exact qj (fun e=>e) hbad⟩⟩
  clear hk1 hbad;go_wp2;exact⟨rfl,HFI.out⟩
end
section
open Go.RowKit
open M (OpD uj Gr)
theorem RS.kept{rb:Nat}{t:Tx}{r:Rv}{k:Tok}{sa:Option Addr}{sc i:Nat}{l rf th:List Tok}{A B N:Nat→Prop}{w w':World}(h:RS rb t r k sa sc i l rf th A B N w)(hk:Keep (fun _=>False) w w'):RS rb t r k sa sc i l rf th A B N w':=by
 have hs:=hk.size;refine⟨h.blk.keep hk,h.set.on (fun b q=>hk.block b (h.apt.set b q).1 (fun e=>e)),h.refs.on (fun b q=>hk.block b (h.apt.rows b q).1 (fun e=>e)) (fun b q=>q),h.thrs.on (fun b q=>hk.block b (h.apt.thrs b q).1 (fun e=>e)) (fun b q=>q),h.left,?_,h.cap,⟨?_,?_,?_⟩,h.tok,h.kind,h.big,h.tn⟩
 ·exact vu (xf h.txt (fun b q=>hk.block b q.1 (fun e=>e))) (fun b q=>⟨by have:=q.1;omega,q.2⟩)
 ·exact fun b q=>⟨by have:=(h.apt.rows b q).1;omega,(h.apt.rows b q).2⟩
 ·exact fun b q=>⟨by have:=(h.apt.thrs b q).1;omega,(h.apt.thrs b q).2⟩
 ·exact fun b q=>⟨by have:=(h.apt.set b q).1;omega,(h.apt.set b q).2⟩
def uql(rb:Nat)(t:Tx)(r:Rv)(l1 rf th:List Tok)(A B:Nat→Prop)(w:World)(e:Ending)(w':World):Prop :=
 Keep (fun b=>b=rb) w w'∧((∃v k' sa sc i',e=.returned v∧RS rb t r k' sa sc i' l1 rf th A B (New w w') w')∨(∃x,l1 = [x]∧x.kind=0∧e=.panicked (flt 5 (x.at_:Nat))))
theorem udr{rb:Nat}{t:Tx}{r:Rv}{k:Tok}{sa:Option Addr}{sc i:Nat}{l1 rf th:List Tok}{A B N:Nat→Prop}{w:World}(h:RS rb t r k sa sc i (k::l1) rf th A B N w) :
  Calls Tryz.prog 39 #[.pointer (some ⟨rb,0,none⟩)] w (uql rb t r l1 rf th A B w):=by
 refine (kY rb t (yy r k sa sc) i w h.blk h.txq h.left.le h.cap).mono ?_;rintro e W ⟨hk,⟨v,sa2,sc2,a0,rfl,hB,hO⟩|⟨a1,a0,rfl⟩⟩
 ·exact⟨hk,.inl ⟨v,_,sa2,sc2,_,rfl,h.next hk a0 hB hO⟩⟩
 ·obtain⟨x,e1,e2,e3⟩:=uaw h.left a1 a0
  exact⟨hk,.inr ⟨x,e1,e2,by rw[e3]⟩⟩
theorem RdOK.leaf{rb:Nat}{t:Tx}{r:Rv}{k:Tok}{sa:Option Addr}{sc i:Nat}{l1 rf th:List Tok}{A B N:Nat→Prop}{w w1 w2:World}(h:RS rb t r k sa sc i (k::l1) rf th A B N w)(hk:Keep (fun b=>b=rb) w w1){k1:Tok}{sa1:Option Addr}{sc1 i1:Nat}{N1:Nat→Prop}(h1:RS rb t r k1 sa1 sc1 i1 l1 rf th A B N1 w1)(hN:∀b,N1 b→New w w1 b)
  (hk2:Keep (fun _=>False) w1 w2) {x:PE} {v:Value} {P:Nat→Prop} (hr:x.refT = []) (ht:x.thrT = []) (hT:TrA w2 x v P) (hP:∀b,P b→N b∨New w1 w2 b):RdOK rb t r 1 (k::l1) rf th A B N w x l1 v w2 r.v7 r.v8 k1 sa1 sc1 i1 A B N1 P:=by
 have hs:=hk.size;refine⟨by simp,by rw[hr,ht,List.append_nil,List.append_nil];exact h1.kept hk2,hT,fun b q=>.inl q,fun b q=>.inl q,fun b q=>.inr (yp hk2.size (hN b q)),fun b q=>?_⟩
 rcases hP b q with z | z
 ·refine⟨.inl z,fun y=>(h.apt.rows b y).2.2.2 z,fun y=>(h.apt.thrs b y).2.2 z,fun y=>?_⟩
  have:=(hN b y).1;have:=(h.apt.set b z).1;omega
 ·refine⟨.inr (vd hs z),fun y=>?_,fun y=>?_,fun y=>?_⟩
  ·have:=(h.apt.rows b y).1;have:=z.1;omega
  ·have:=(h.apt.thrs b y).1;have:=z.1;omega
  ·have:=(hN b y).2;have:=z.1;omega
theorem uni(w:World):SetA (w.alloc (.cells #[.int .i64 0,.int .i64 255] 3)) [0,255] (.iface 115 (.agg #[.slice (some ⟨w.heap.size,0,none⟩) 2 2])) (New w (w.alloc (.cells #[.int .i64 0,.int .i64 255] 3))):=by
 have hb:=World.alloc_heap_new w (.cells #[.int .i64 0,.int .i64 255] 3);refine⟨some ⟨w.heap.size,0,none⟩,2,rfl,.inr ⟨w.heap.size,2,rfl,⟨Nat.le_refl _,by simp⟩,rfl,Nat.le_refl _,fun j hj=>?_,fun j hj=>⟨?_,?_⟩⟩⟩
 ·match j,hj with
  |0,_=>simp only[World.cell?,hb];rfl
  |1,_=>simp only[World.cell?,hb];rfl
 ·match j,hj with
  |0,_=>simp only[World.cell?,hb];rfl
  |1,_=>simp only[World.cell?,hb];rfl
 ·simp only[World.frozen?,hb];rfl
set_option maxHeartbeats 1000000 in
set_option maxRecDepth 100000 in
theorem ulk{F:Nat}(rb:Nat)(t:Tx)(r:Rv)(k:Tok)(sa:Option Addr)(sc i:Nat)(l rf th:List Tok)(A B N:Nat→Prop)(w:World)(hS:RS rb t r k sa sc i l rf th A B N w)(hk:k.kind=91):Calls Tryz.prog 124 #[.pointer (some ⟨rb,0,none⟩)] w (vt (rd t.n (F+1) 0 .emp l) 1 rb t r l rf th A B N w):=by
 obtain⟨l1,rfl⟩:=hS.cons (by rw[hk];omega)
 have HS:Hid (RS rb t r k sa sc i (k::l1) rf th A B N w):=hS;have HR:Hid (rd t.n (F+1) 0 .emp (k::l1)=.inr (.cls k,l1)):=by
  rw[rd.eq_def];simp only[hk];rfl
 have HKI:Hid (k.kind=91):=hk;have hrb:=hS.blk.lt;have c2:w.cell? ⟨rb,2,none⟩=some (.int .u8 91):=by
  have h:w.cell? ⟨rb,2,none⟩=some (.int .u8 (kk k.kind)):=ud hS.blk rfl;rw[hk]at h;exact h
 have c3:w.cell? ⟨rb,3,none⟩=some (.int .i64 (k.at_:Nat)):=ud hS.blk rfl;have c4:w.cell? ⟨rb,4,none⟩=some (.string (str k.nm.length (lf k.nm))):=ud hS.blk rfl;have c5:w.cell? ⟨rb,5,none⟩=some (.slice sa k.set.length sc):=ud hS.blk rfl;clear hS hk;generalize hsz:str k.nm.length (lf k.nm)=sz at *;have HSZ:Hid (str k.nm.length (lf k.nm)=sz):=hsz;clear hsz;go_enter Tryz.func124,Tryz.ntmps124;go_wp2_with fail;obtain⟨W0,hW0⟩:∃W0,W0=w.alloc (.cells #[.int .u8 91,.int .i64 (k.at_:Nat),.string sz,.slice sa k.set.length sc] 51):=⟨_,rfl⟩;have HK0:Hid (Keep (fun _=>False) w W0):=by rw[hW0];exact Keep.alloc _ _ _
 have HC0:Hid (W0.heap[w.heap.size]? = some (.cells #[.int .u8 91,.int .i64 (k.at_:Nat),.string sz,.slice sa k.set.length sc] 51)):=by rw[hW0];exact yX w _ _ rfl
 rw[←hW0];clear hW0 c2 c3 c4 c5;refine (udr (HS.out.kept HK0.out)).mono ?_;rintro e W1 ⟨hk1,⟨vv,k1,sa1,sc1,i1,rfl,hS1⟩|⟨y,rfl,hy,rfl⟩⟩
 ·have HK1:Hid (Keep (fun b=>b=rb) w W1):=(yh HK0.out).trans hk1
  have HS1:Hid (RS rb t r k1 sa1 sc1 i1 l1 rf th A B (New W0 W1) W1):=hS1;have HN1:Hid (∀b,New W0 W1 b→New w W1 b):=fun b q=>vd HK0.out.size q
  have cC:W1.heap[w.heap.size]? = some (.cells #[.int .u8 91,.int .i64 (k.at_:Nat),.string sz,.slice sa k.set.length sc] 51):=(hk1.block w.heap.size (Array.getElem?_eq_some_iff.1 HC0.out).1 (by show ¬w.heap.size=rb;omega)).trans HC0.out
  have y0:W1.cell? ⟨w.heap.size,0,none⟩=some (.int .u8 91):=ud cC rfl;have y1:W1.cell? ⟨w.heap.size,1,none⟩=some (.int .i64 (k.at_:Nat)):=ud cC rfl;have y2:W1.cell? ⟨w.heap.size,2,none⟩=some (.string sz):=ud cC rfl;have y3:W1.cell? ⟨w.heap.size,3,none⟩=some (.slice sa k.set.length sc):=ud cC rfl;clear hk1 hS1 cC HC0;have HFI:Hid (vt (rd t.n (F+1) 0 .emp (k::l1)) 1 rb t r (k::l1) rf th A B N w (.returned (.iface 115 (.agg #[.slice sa k.set.length sc]))) W1) :=
   ⟨uY HK1.out,.inl ⟨.cls k,l1,_,_,_,k1,sa1,sc1,i1,A,B,_,N,HR.out,rfl,RdOK.leaf HS.out HK1.out HS1.out HN1.out (Keep.refl _ _) rfl rfl ⟨sa,sc,rfl,HS.out.set.on (fun b q=>HK1.out.block b (HS.out.apt.set b q).1 (HS.out.apt.set b q).2)⟩ (fun b q=>.inl q)⟩⟩
  go_wp2;go_ret;exact HFI.out
 ·have HFI:Hid (vt (rd t.n (F+1) 0 .emp [k,y]) 1 rb t r [k,y] rf th A B N w (.panicked (flt 5 (y.at_:Nat))) W1) :=
   ⟨uY ((yh HK0.out).trans hk1),.inr ⟨y.at_,rfl,.inr ⟨_,y,[],HR.out,hy,rfl⟩⟩⟩
  clear hk1 hy;go_wp2;exact⟨rfl,HFI.out⟩
set_option maxHeartbeats 1000000 in
set_option maxRecDepth 100000 in
theorem ull{F:Nat}(rb:Nat)(t:Tx)(r:Rv)(k:Tok)(sa:Option Addr)(sc i:Nat)(l rf th:List Tok)(A B N:Nat→Prop)(w:World)(hS:RS rb t r k sa sc i l rf th A B N w)(hk:k.kind=46):Calls Tryz.prog 124 #[.pointer (some ⟨rb,0,none⟩)] w (vt (rd t.n (F+1) 0 .emp l) 1 rb t r l rf th A B N w):=by
 obtain⟨l1,rfl⟩:=hS.cons (by rw[hk];omega)
 have HS:Hid (RS rb t r k sa sc i (k::l1) rf th A B N w):=hS;have HR:Hid (rd t.n (F+1) 0 .emp (k::l1)=.inr (.dot k,l1)):=by
  rw[rd.eq_def];simp only[hk];rfl
 have HKI:Hid (k.kind=46):=hk;have hrb:=hS.blk.lt;have c2:w.cell? ⟨rb,2,none⟩=some (.int .u8 46):=by
  have h:w.cell? ⟨rb,2,none⟩=some (.int .u8 (kk k.kind)):=ud hS.blk rfl;rw[hk]at h;exact h
 have c3:w.cell? ⟨rb,3,none⟩=some (.int .i64 (k.at_:Nat)):=ud hS.blk rfl;have c4:w.cell? ⟨rb,4,none⟩=some (.string (str k.nm.length (lf k.nm))):=ud hS.blk rfl;have c5:w.cell? ⟨rb,5,none⟩=some (.slice sa k.set.length sc):=ud hS.blk rfl;clear hS hk;generalize hsz:str k.nm.length (lf k.nm)=sz at *;have HSZ:Hid (str k.nm.length (lf k.nm)=sz):=hsz;clear hsz;go_enter Tryz.func124,Tryz.ntmps124;go_wp2_with fail;obtain⟨W0,hW0⟩:∃W0,W0=w.alloc (.cells #[.int .u8 46,.int .i64 (k.at_:Nat),.string sz,.slice sa k.set.length sc] 51):=⟨_,rfl⟩;have HK0:Hid (Keep (fun _=>False) w W0):=by rw[hW0];exact Keep.alloc _ _ _
 have HC0:Hid (W0.heap[w.heap.size]? = some (.cells #[.int .u8 46,.int .i64 (k.at_:Nat),.string sz,.slice sa k.set.length sc] 51)):=by rw[hW0];exact yX w _ _ rfl
 rw[←hW0];clear hW0 c2 c3 c4 c5;refine (udr (HS.out.kept HK0.out)).mono ?_;rintro e W1 ⟨hk1,⟨vv,k1,sa1,sc1,i1,rfl,hS1⟩|⟨y,rfl,hy,rfl⟩⟩
 ·have HK1:Hid (Keep (fun b=>b=rb) w W1):=(yh HK0.out).trans hk1
  have HS1:Hid (RS rb t r k1 sa1 sc1 i1 l1 rf th A B (New W0 W1) W1):=hS1;have HN1:Hid (∀b,New W0 W1 b→New w W1 b):=fun b q=>vd HK0.out.size q
  have cC:W1.heap[w.heap.size]? = some (.cells #[.int .u8 46,.int .i64 (k.at_:Nat),.string sz,.slice sa k.set.length sc] 51):=(hk1.block w.heap.size (Array.getElem?_eq_some_iff.1 HC0.out).1 (by show ¬w.heap.size=rb;omega)).trans HC0.out
  have y0:W1.cell? ⟨w.heap.size,0,none⟩=some (.int .u8 46):=ud cC rfl;have y1:W1.cell? ⟨w.heap.size,1,none⟩=some (.int .i64 (k.at_:Nat)):=ud cC rfl;have y2:W1.cell? ⟨w.heap.size,2,none⟩=some (.string sz):=ud cC rfl;have y3:W1.cell? ⟨w.heap.size,3,none⟩=some (.slice sa k.set.length sc):=ud cC rfl;clear hk1 hS1 cC HC0;have HFI:Hid (vt (rd t.n (F+1) 0 .emp (k::l1)) 1 rb t r (k::l1) rf th A B N w (.returned (.iface 115 (.agg #[.slice (some ⟨W1.heap.size,0,none⟩) 2 2]))) (W1.alloc (.cells #[.int .i64 0,.int .i64 255] 3))) :=
   ⟨uY (HK1.out.trans (yh (Keep.alloc _ _ _))),.inl ⟨.dot k,l1,_,_,_,k1,sa1,sc1,i1,A,B,_,_,HR.out,rfl,RdOK.leaf HS.out HK1.out HS1.out HN1.out (Keep.alloc _ _ _) rfl rfl (uni W1) (fun b q=>.inr q)⟩⟩
  go_wp2;go_ret;exact HFI.out
 ·have HFI:Hid (vt (rd t.n (F+1) 0 .emp [k,y]) 1 rb t r [k,y] rf th A B N w (.panicked (flt 5 (y.at_:Nat))) W1) :=
   ⟨uY ((yh HK0.out).trans hk1),.inr ⟨y.at_,rfl,.inr ⟨_,y,[],HR.out,hy,rfl⟩⟩⟩
  clear hk1 hy;go_wp2;exact⟨rfl,HFI.out⟩
set_option maxHeartbeats 1000000 in
set_option maxRecDepth 100000 in
theorem ulm{F:Nat}(rb:Nat)(t:Tx)(r:Rv)(k:Tok)(sa:Option Addr)(sc i:Nat)(l rf th:List Tok)(A B N:Nat→Prop)(w:World)(hS:RS rb t r k sa sc i l rf th A B N w)(hk:k.kind=34):Calls Tryz.prog 124 #[.pointer (some ⟨rb,0,none⟩)] w (vt (rd t.n (F+1) 0 .emp l) 1 rb t r l rf th A B N w):=by
 obtain⟨l1,rfl⟩:=hS.cons (by rw[hk];omega)
 have HS:Hid (RS rb t r k sa sc i (k::l1) rf th A B N w):=hS;have HR:Hid (rd t.n (F+1) 0 .emp (k::l1)=.inr (.str k,l1)):=by
  rw[rd.eq_def];simp only[hk];rfl
 have HBG:Hid (t.n≤1000000):=hS.tn;have HKI:Hid (k.kind=34):=hk;have hrb:=hS.blk.lt;have c2:w.cell? ⟨rb,2,none⟩=some (.int .u8 34):=by
  have h:w.cell? ⟨rb,2,none⟩=some (.int .u8 (kk k.kind)):=ud hS.blk rfl;rw[hk]at h;exact h
 have c3:w.cell? ⟨rb,3,none⟩=some (.int .i64 (k.at_:Nat)):=ud hS.blk rfl;have c4:w.cell? ⟨rb,4,none⟩=some (.string (str k.nm.length (lf k.nm))):=ud hS.blk rfl;have c5:w.cell? ⟨rb,5,none⟩=some (.slice sa k.set.length sc):=ud hS.blk rfl;clear hS hk;generalize hsz:str k.nm.length (lf k.nm)=sz at *;have HSZ:Hid (str k.nm.length (lf k.nm)=sz):=hsz;clear hsz;go_enter Tryz.func124,Tryz.ntmps124;go_wp2_with fail;obtain⟨W0,hW0⟩:∃W0,W0=w.alloc (.cells #[.int .u8 34,.int .i64 (k.at_:Nat),.string sz,.slice sa k.set.length sc] 51):=⟨_,rfl⟩;have HK0:Hid (Keep (fun _=>False) w W0):=by rw[hW0];exact Keep.alloc _ _ _
 have HC0:Hid (W0.heap[w.heap.size]? = some (.cells #[.int .u8 34,.int .i64 (k.at_:Nat),.string sz,.slice sa k.set.length sc] 51)):=by rw[hW0];exact yX w _ _ rfl
 rw[←hW0];clear hW0 c2 c3 c4 c5;refine (udr (HS.out.kept HK0.out)).mono ?_;rintro e W1 ⟨hk1,⟨vv,k1,sa1,sc1,i1,rfl,hS1⟩|⟨y,rfl,hy,rfl⟩⟩
 ·have HK1:Hid (Keep (fun b=>b=rb) w W1):=(yh HK0.out).trans hk1
  have HS1:Hid (RS rb t r k1 sa1 sc1 i1 l1 rf th A B (New W0 W1) W1):=hS1;have HN1:Hid (∀b,New W0 W1 b→New w W1 b):=fun b q=>vd HK0.out.size q
  have cC:W1.heap[w.heap.size]? = some (.cells #[.int .u8 34,.int .i64 (k.at_:Nat),.string sz,.slice sa k.set.length sc] 51):=(hk1.block w.heap.size (Array.getElem?_eq_some_iff.1 HC0.out).1 (by show ¬w.heap.size=rb;omega)).trans HC0.out
  have y0:W1.cell? ⟨w.heap.size,0,none⟩=some (.int .u8 34):=ud cC rfl;have y1:W1.cell? ⟨w.heap.size,1,none⟩=some (.int .i64 (k.at_:Nat)):=ud cC rfl;have y2:W1.cell? ⟨w.heap.size,2,none⟩=some (.string sz):=ud cC rfl;have y3:W1.cell? ⟨w.heap.size,3,none⟩=some (.slice sa k.set.length sc):=ud cC rfl;clear hk1 hS1 cC HC0;go_wp2_with fail;rw[←HSZ.out];refine (udy k.nm W1 HS.out.tok.byt (by have:=HS.out.tok.len;have:=HBG.out;omega)).mono ?_
  rintro e W2 ⟨⟨v,rfl,hT⟩,hk2⟩;have HFI:Hid (vt (rd t.n (F+1) 0 .emp (k::l1)) 1 rb t r (k::l1) rf th A B N w (.returned v) W2) :=
   ⟨uY (HK1.out.trans (yh hk2)),.inl ⟨.str k,l1,v,_,_,k1,sa1,sc1,i1,A,B,_,_,HR.out,rfl,RdOK.leaf HS.out HK1.out HS1.out HN1.out hk2 rfl rfl hT (fun b q=>.inr q)⟩⟩
  obtain⟨ty,u,rfl⟩:=hT.iface;clear hT hk2;go_wp2;go_ret;exact HFI.out
 ·have HFI:Hid (vt (rd t.n (F+1) 0 .emp [k,y]) 1 rb t r [k,y] rf th A B N w (.panicked (flt 5 (y.at_:Nat))) W1) :=
   ⟨uY ((yh HK0.out).trans hk1),.inr ⟨y.at_,rfl,.inr ⟨_,y,[],HR.out,hy,rfl⟩⟩⟩
  clear hk1 hy;go_wp2;exact⟨rfl,HFI.out⟩
end
section
open Go.RowKit
open M (OpD uj Gr)
theorem ufr{n f:Nat}{k:Tok}{l:List Tok}(h:k.kind=40):rd n (f+1) 0 .emp (k::l)=(match rd n f 5 .emp l with | .inl p=>.inl p | .inr (e,r')=>match r' with | []=>.inl n | y::r''=>if y.kind=41 then .inr (.grp k e y,r'') else .inl y.at_):=by
 rw[rd.eq_def];simp only[h];rfl
theorem ucB{n f:Nat}{k:Tok}{l:List Tok}{p:Nat}(h:k.kind=40)(hb:udu (rd n f 5 .emp l) p):udu (rd n (f+1) 0 .emp (k::l)) p:=by
 rw[ufr h];rcases hb with q | ⟨x,y,l',q,hy,ha⟩
 ·rw[q];exact .inl rfl
 ·rw[q]
  simp only[hy];exact .inl (by rw[←ha];rfl)
theorem ugb{n f:Nat}{k:Tok}{l:List Tok}{x:PE}{l2:List Tok}(h:k.kind=40)(hb:rd n f 5 .emp l=.inr (x,l2))(h2:∀y r,l2=y::r→y.kind≠41):rd n (f+1) 0 .emp (k::l)=.inl (pos n l2):=by
 rw[ufr h,hb];cases l2 with
 |nil=>rfl
 |cons y r =>
  simp only;rw[if_neg (h2 y r rfl)];rfl
theorem udo{n f:Nat}{k y:Tok}{l:List Tok}{x:PE}{l2:List Tok}(h:k.kind=40)(hb:rd n f 5 .emp l=.inr (x,y::l2))(h2:y.kind=41):rd n (f+1) 0 .emp (k::l)=.inr (.grp k x y,l2):=by
 rw[ufr h,hb];simp only;rw[if_pos h2]
theorem ulb{n f:Nat}{l:List Tok}(h:∀y r,l=y::r→y.kind≠110∧y.kind≠34∧y.kind≠91∧y.kind≠46∧y.kind≠94∧y.kind≠40):rd n (f+1) 0 .emp l=.inl (pos n l):=by
 cases l with
 |nil=>rw[rd.eq_def];rfl
 |cons y r =>
  obtain⟨h1,h2,h3,h4,h5,h6⟩:=h y r rfl;rw[rd.eq_def];simp only;rw[if_neg h1,if_neg h2,if_neg h3,if_neg h4,if_neg h5,if_neg h6];rfl
theorem RS.head{rb:Nat}{t:Tx}{r:Rv}{k:Tok}{sa:Option Addr}{sc i:Nat}{l rf th:List Tok}{A B N:Nat→Prop}{w:World}(h:RS rb t r k sa sc i l rf th A B N w){y:Tok}{l':List Tok}(e:l=y::l'):y=k:=by
 rcases h.left with q | q
 ·rw[q.1]at e
  injection e with e1 e2
  exact e1.symm
 ·rw[q.1]at e;cases e
set_option maxHeartbeats 1000000 in
set_option maxRecDepth 100000 in
theorem ulc{F:Nat}(H5:RdC 72 5 6 0 F)(rb:Nat)(t:Tx)(r:Rv)(k:Tok)(sa:Option Addr)(sc i:Nat)(l rf th:List Tok)(A B N:Nat→Prop)(w:World)(hS:RS rb t r k sa sc i l rf th A B N w)(hf:8*l.length+1<F+1)(h1:k.kind≠110)(h2:k.kind≠34)(h3:k.kind≠91)(h4:k.kind≠46)(h5:k.kind≠94):Calls Tryz.prog 124 #[.pointer (some ⟨rb,0,none⟩)] w (vt (rd t.n (F+1) 0 .emp l) 1 rb t r l rf th A B N w):=by
 have HS:Hid (RS rb t r k sa sc i l rf th A B N w):=hS;have HF:Hid (8*l.length+1<F+1):=hf;have G5:Hid (RdC 72 5 6 0 F):=H5;have HX:Hid (k.kind≠40→rd t.n (F+1) 0 .emp l=.inl (pos t.n l)):=fun h6=>ulb (fun y r' e=>by rw[hS.head e];exact⟨h1,h2,h3,h4,h5,h6⟩)
 have hrb:=hS.blk.lt;have c2:w.cell? ⟨rb,2,none⟩=some (.int .u8 (kk k.kind)):=ud hS.blk rfl;have c3:w.cell? ⟨rb,3,none⟩=some (.int .i64 (k.at_:Nat)):=ud hS.blk rfl;have c4:w.cell? ⟨rb,4,none⟩=some (.string (str k.nm.length (lf k.nm))):=ud hS.blk rfl;have c5:w.cell? ⟨rb,5,none⟩=some (.slice sa k.set.length sc):=ud hS.blk rfl;have e1:(kk k.kind==97)=false:=beq_eq_false_iff_ne.2 (fun q=>h1 ((ufw hS.kind).1 q))
 have e2:(kk k.kind==34)=false:=beq_eq_false_iff_ne.2 (fun q=>h2 ((qa hS.kind (by omega) (by omega)).1 q))
 have e3:(kk k.kind==91)=false:=beq_eq_false_iff_ne.2 (fun q=>h3 ((qa hS.kind (by omega) (by omega)).1 q))
 have e4:(kk k.kind==46)=false:=beq_eq_false_iff_ne.2 (fun q=>h4 ((qa hS.kind (by omega) (by omega)).1 q))
 have e5:(kk k.kind==94)=false:=beq_eq_false_iff_ne.2 (fun q=>h5 ((qa hS.kind (by omega) (by omega)).1 q))
 have H40:Hid (∀k':Tok,k'.kind≠97→(kk k'.kind=40↔k'.kind=40)∧(kk k'.kind=41↔k'.kind=41)):=fun k' q=>⟨qa q (by omega) (by omega),qa q (by omega) (by omega)⟩
 clear hS hf H5 h1 h2 h3 h4 h5;generalize str k.nm.length (lf k.nm)=sz at *;obtain⟨c,hc⟩:∃c,c=kk k.kind:=⟨_,rfl⟩;rw[←hc]at c2 e1 e2 e3 e4 e5;clear hc;go_enter Tryz.func124,Tryz.ntmps124;go_wp2_with fail;obtain⟨W0,hW0⟩:∃W0,W0=w.alloc (.cells #[.int .u8 c,.int .i64 (k.at_:Nat),.string sz,.slice sa k.set.length sc] 51):=⟨_,rfl⟩;have HK0:Hid (Keep (fun _=>False) w W0):=by rw[hW0];exact Keep.alloc _ _ _
 rw[←hW0];clear hW0 c2 c3 c4 c5 e1 e2 e3 e4 e5;have HS0:Hid (RS rb t r k sa sc i l rf th A B N W0):=HS.out.kept HK0.out;refine (xY HS0.out 40 (by omega) (H40.out k HS.out.kind).1).mono ?_
 rintro e W1 ⟨hk1,⟨h40,rfl⟩|⟨h40,l1,rfl,⟨k1,sa1,sc1,i1,rfl,hS1⟩|⟨y,rfl,hy,rfl⟩⟩⟩
 ·have HFI:Hid (vt (rd t.n (F+1) 0 .emp l) 1 rb t r l rf th A B N w (.panicked (flt 5 (pos t.n l:Nat))) W1):=⟨uY ((yh HK0.out).trans hk1),.inr ⟨_,rfl,.inl (HX.out h40)⟩⟩
  clear hk1 h40;go_wp2;exact⟨rfl,HFI.out⟩
 ·have HK1:Hid (Keep (fun b=>b=rb) w W1):=(yh HK0.out).trans hk1
  have HKI:Hid (k.kind=40):=h40;have HN1:Hid (∀b,New W0 W1 b→New w W1 b):=fun b q=>vd HK0.out.size q
  have HC:Hid (Calls Tryz.prog 72 #[.pointer (some ⟨rb,0,none⟩)] W1 (vt (rd t.n F 5 .emp l1) 0 rb t r l1 rf th A B (New W0 W1) W1)):=G5.out rb t r k1 sa1 sc1 i1 l1 rf th A B (New W0 W1) W1 hS1 (by have:=HF.out;simp at this;omega)
  generalize Value.agg #[Value.int .u8 (kk k.kind),Value.int .i64 (k.at_:Nat),Value.string (str k.nm.length (lf k.nm)),Value.slice sa k.set.length sc]=vx;clear hk1 h40 hS1;go_wp2_with fail;refine HC.out.mono ?_;rintro e W2 ⟨hk2,⟨x,l2,v,v7,v8,k2,sa2,sc2,i2,A2,B2,N2,P,hR,rfl,hO⟩|⟨p,rfl,hb⟩⟩
  ·have HR:Hid (rd t.n F 5 .emp l1=.inr (x,l2)):=hR
   have HO:Hid (RdOK rb t r 1 (k::l1) rf th A B N w x l2 v W2 v7 v8 k2 sa2 sc2 i2 A2 B2 N2 P):=hO.pre HN1.out HK1.out.size hk2.size (by omega) rfl rfl (fun q=>q)
   have HK2:Hid (Keep (C3 rb A B) w W2):=(uY HK1.out).trans hk2;obtain⟨ty,u,rfl⟩:=TrA.iface x hO.tree;clear hO hR hk2 HC;go_wp2_with fail;refine (xY HO.out.st 41 (by omega) (H40.out k2 HO.out.st.kind).2).mono ?_
   rintro e W3 ⟨hk3,⟨h41,rfl⟩|⟨h41,l3,rfl,⟨k3,sa3,sc3,i3,rfl,hS3⟩|⟨y,rfl,hy,rfl⟩⟩⟩
   ·have HFI:Hid (vt (rd t.n (F+1) 0 .emp (k::l1)) 1 rb t r (k::l1) rf th A B N w (.panicked (flt 5 (pos t.n l2:Nat))) W3):=⟨HK2.out.trans (uY hk3),.inr ⟨_,rfl,.inl (ugb HKI.out HR.out (fun y r' e=>by rw[HO.out.st.head e];exact h41))⟩⟩
    clear hk3 h41;go_wp2;exact⟨rfl,HFI.out⟩
   ·have HFI:Hid (vt (rd t.n (F+1) 0 .emp (k::l1)) 1 rb t r (k::l1) rf th A B N w (.returned (.iface ty u)) W3) :=
     ⟨HK2.out.trans (uY hk3),.inl ⟨.grp k x k2,l3,_,v7,v8,k3,sa3,sc3,i3,A2,B2,_,P,udo HKI.out HR.out h41,rfl,HO.out.step HS.out.apt.set HS.out.blk.lt HK2.out.size hk3 hS3 rfl rfl (fun q=>q)⟩⟩
    generalize Value.agg #[Value.int .u8 (kk k2.kind),Value.int .i64 (k2.at_:Nat),Value.string (str k2.nm.length (lf k2.nm)),Value.slice sa2 k2.set.length sc2]=vy;clear hk3 h41 hS3;go_wp2;go_ret;exact HFI.out
   ·have HFI:Hid (vt (rd t.n (F+1) 0 .emp (k::l1)) 1 rb t r (k::l1) rf th A B N w (.panicked (flt 5 (y.at_:Nat))) W3):=⟨HK2.out.trans (uY hk3),.inr ⟨_,rfl,.inr ⟨_,y,[],udo HKI.out HR.out h41,hy,rfl⟩⟩⟩
    clear hk3 h41 hy;go_wp2;exact⟨rfl,HFI.out⟩
  ·have HFI:Hid (vt (rd t.n (F+1) 0 .emp (k::l1)) 1 rb t r (k::l1) rf th A B N w (.panicked (flt 5 (p:Nat))) W2):=⟨(uY HK1.out).trans hk2,.inr ⟨p,rfl,ucB HKI.out hb⟩⟩
   clear hk2 hb;go_wp2;exact⟨rfl,HFI.out⟩
 ·have HFI:Hid (vt (rd t.n (F+1) 0 .emp [k,y]) 1 rb t r [k,y] rf th A B N w (.panicked (flt 5 (y.at_:Nat))) W1):=⟨uY ((yh HK0.out).trans hk1),.inr ⟨_,rfl,ucB h40 (ya _ _ _ _ _ _ hy)⟩⟩
  clear hk1 h40 hy;go_wp2;exact⟨rfl,HFI.out⟩
end
end Go.Proofs.YthicmmhmmfhncaaGreat
