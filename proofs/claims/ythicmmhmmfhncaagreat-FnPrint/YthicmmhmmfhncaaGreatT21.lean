import Derived.Test.YthicmmhmmfhncaaGreatT20
import Derived.Deep.MidRow
set_option linter.unusedVariables false
set_option linter.unusedSimpArgs false
namespace Go.Proofs.YthicmmhmmfhncaaGreat
section
open Go.RowKit
open M (OpD uj Gr)
def BufR(rb:Nat)(w0:World)(z:List Int)(v:Value)(wr:World):Prop:=OwnC (New w0 wr) wr v 1 z.length (uz .u8 (lf z) z.length)∧Keep (fun b=>b=rb) w0 wr
theorem BufR.nil{rb:Nat}{w0 wr:World}(h:Keep (fun b=>b=rb) w0 wr):BufR rb w0 [] (.slice none 0 0) wr:=⟨.inl ⟨rfl,rfl,rfl⟩,h⟩
theorem BufR.shape{rb:Nat}{w0 wr:World}{l:List Int}{v:Value}(h:BufR rb w0 l v wr):∃a c,v=.slice a l.length c:=um h.1
theorem BufR.later{rb:Nat}{w0 wr W:World}{l:List Int}{v:Value}(h:BufR rb w0 l v wr)(hr:rb<w0.heap.size)(k:Keep (fun b=>b=rb) wr W):BufR rb w0 l v W :=
 ⟨uo (h.1.on (fun b hb=>k.block b hb.2 (fun e=>by have:=hb.1;omega))) (fun b hb=>⟨hb.1,Nat.lt_of_lt_of_le hb.2 k.size⟩),h.2.trans k⟩
theorem BufR.snoc{rb:Nat}{w0 wr W1 W5:World}{l:List Int}{v5:Value}{x:Int}(hk:Keep (fun b=>b=rb) w0 wr)(k1:Keep (fun _=>False) wr W1)(own:OwnC (fun b=>New w0 wr b∨W1.heap.size≤b) W5 v5 1 (l.length+1) (uz .u8 (lf l) l.length++[.int .u8 x]))(g:Grew (fun b=>New w0 wr b) W1 W5):BufR rb w0 (l++[x]) v5 W5:=by
 have z1:=k1.size;have z2:=g.size;have z0:=hk.size;refine⟨?_,?_⟩
 ·rw[List.length_append,List.length_singleton,←uh3]
  rcases own with⟨_,q,_⟩|⟨b,cap,e,hq,h3,h4,h5,h6⟩
  ·omega
  refine .inr ⟨b,cap,e,⟨?_,?_⟩,h3,h4,h5,h6⟩
  ·rcases hq with q | q
   ·exact q.1
   ·omega
  ·obtain⟨u,hu⟩:=Option.isSome_iff_exists.1 (h6 0 (by omega)).1
   exact ub hu
 ·have k2:=hk.trans (yh (rb:=rb) k1)
  exact⟨g.os.trans k2.os,g.tape.trans k2.tape,g.output.trans k2.output,Nat.le_trans k2.size g.size,fun b hb hn=>(g.block b (Nat.lt_of_lt_of_le hb k2.size) (fun q=>by have:=q.1;omega)).trans (k2.block b hb hn)⟩
theorem BufR.ints{rb:Nat}{w0 wr:World}{l:List Int}{a:Option Addr}{n c:Nat}(h:BufR rb w0 l (.slice a n c) wr):Ints (New w0 wr) .u8 wr a l.length (lf l):=by
 obtain⟨a',c',e⟩:=um h.1;injection e with e1 e2 e3
 subst e1 e2 e3;exact jA h.1
def kk(k:Int):Int:=if k=110 then 97 else k
def ScS(res:Option (List Int×Nat))(i:Nat)(rb:Nat)(t:Tx)(r:Rv)(w:World)(e:Ending)(w':World):Prop :=
 Keep (fun b=>b=rb) w w'∧((∃z j,res=some (z,j)∧e=.returned (.agg #[.int .u8 34,.int .i64 (i:Nat),.string (str z.length (lf z)),.slice none 0 0])∧RB rb t r j w')∨(res=none∧e=.panicked (flt 5 (i:Nat))))
def uoU(rb:Nat)(t:Tx)(r:Rv)(w0:World)(R:Option (List Int×Nat))(v:Value)(wr:World):Prop :=
 ∃(f j:Nat) (z:List Int),j≤t.n∧t.n-j<f∧z.length≤j∧qg t f j z=R∧RB rb t r j wr∧BufR rb w0 z v wr
theorem ujI(t:Tx)(f j:Nat)(z:List Int):qg t (f+1) j z=if j<t.n∧t.T j=34 then some (z,j+1) else match chM t j false with | none=>none | some (c,j')=>qg t f j' (z++[c]):=by
 rw[qg];split
 ·rfl
 ·unfold chM
  split<;>rfl
theorem ufA{t:Tx}{i:Nat}{cls:Bool}{c:Int}{j:Nat}(hi:i≤t.n)(h:chM t i cls=some (c,j)):i<j∧j≤t.n∧0≤c∧c≤255:=by
 have:=uaS t i cls hi;unfold chM at h;split at h
 ·cases h
 ·injection h with h
  injection h with h1 h2
  omega
abbrev tkZ:Array Value:=#[.int .u8 0,.int .i64 0,.string ⟨#[]⟩,.slice none 0 0]
def upV:Value→Nat
 | .slice _ n _=>n
 |_=>0
theorem yK{rb:Nat}{w W:World}(k:Keep (fun b=>b=rb) w W){b o:Nat}{v:Value}(hb:w.heap.size≤b):Keep (fun b=>b=rb) w (W.setCell ⟨b,o,none⟩ v) :=
 ⟨k.os,k.tape,k.output,by rw[ul];exact k.size,fun x hx hn=>(Below.heap_setCell _ _ _ _ (fun e=>by have e':x=b:=e;omega)).trans (k.block x hx hn)⟩
theorem RB.setX{rb:Nat}{t:Tx}{r:Rv}{i:Nat}{w:World}(h:RB rb t r i w){b o:Nat}{v:Value}(hb:b≠rb):RB rb t r i (w.setCell ⟨b,o,none⟩ v):=(Below.heap_setCell _ _ _ _ (fun e=>hb (by exact e.symm))).trans h
set_option maxHeartbeats 2000000 in
set_option maxRecDepth 100000 in
theorem udv(rb:Nat)(t:Tx)(r:Rv)(i:Nat)(w:World)(hB:RB rb t r i w)(hT:TxQ rb w r.ta t)(hi:i<t.n) :
  Calls Tryz.prog 67 #[.pointer (some ⟨rb,0,none⟩)] w (ScS (qY t i) i rb t r w):=by
 have hn:=t.le;have HB:Hid (RB rb t r i w):=hB;have HT:Hid (TxQ rb w r.ta t):=hT;have hrb:rb<w.heap.size:=hB.lt;clear hB hT;have c1:w.cell? ⟨rb,1,none⟩=some (.int .i64 (i:Nat)):=ud HB.out rfl;have f1:w.frozen? ⟨rb,1,none⟩=false:=ut HB.out;obtain⟨R,hR⟩:∃R,qY t i=R:=⟨_,rfl⟩;rw[hR];have HR:Hid (qg t (t.n-i) (i+1) []=R):=hR;clear hR;go_enter Tryz.func67,Tryz.ntmps67;go_wp2;obtain⟨W0,hW0⟩:∃W0,W0=(w.setCell ⟨rb,1,none⟩ (.int .i64 ((i:Int)+1))).alloc (.cells tkZ 51):=⟨_,rfl⟩;have HK0:Hid (Keep (fun b=>b=rb) w W0):=by rw[hW0];exact (yO (Keep.refl _ w) _ _).trans (Keep.alloc _ _ _)
 have HB0:Hid (RB rb t r (i+1) W0):=by rw[hW0];exact (HB.out.set (i+1) (by simp)).keep (Keep.alloc _ _ _)
 have HZ0:Hid (W0.heap[w.heap.size]? = some (.cells tkZ 51)):=by rw[hW0];exact yX _ _ _ (by rw[ul])
 rw[←hW0];clear hW0 c1 f1;go_loopw [4] (uoU rb t r W0 R) (fun v _=>t.n+1-upV v)
 case atStart=>exact⟨t.n-i,i+1,[],hi,by omega,by simp,HR.out,HB0.out,BufR.nil (Keep.refl _ _)⟩
 case round =>
  obtain⟨f,j,z,hj,hf,hz,hR,hB,hU⟩:=hrel;obtain⟨f,rfl⟩:∃q,f=q+1:=⟨f-1,by omega⟩
  obtain⟨va,vc,rfl⟩:=hU.shape;have HR1:Hid ((if j<t.n∧t.T j=34 then some (z,j+1) else match chM t j false with | none=>none | some (c,j')=>qg t f j' (z++[c]))=R):=by
   rw[←ujI];exact hR
  have HU:Hid (BufR rb W0 z (.slice va z.length vc) wr):=hU;have HKW:Hid (Keep (fun b=>b=rb) w wr):=HK0.out.trans hU.2
  have hsk:=uaA rb t r j 34 wr hB (HT.out.keep HKW.out) hj;have hrb0:rb<W0.heap.size:=Nat.lt_of_lt_of_le hrb HK0.out.size;clear hR hB hU HR;by_cases hq:j<t.n∧t.T j=34
  ·rw[decide_eq_true hq,if_pos hq]at hsk
   have HE:Hid (R=some (z,j+1)):=by
    have h:=HR1.out;rw[if_pos hq]at h;exact h.symm
   clear HR1 hq;go_wp2_with fail;refine hsk.mono ?_;clear hsk;rintro e W ⟨hk,rfl,hB'⟩;have HBW:Hid (RB rb t r (j+1) W):=hB';have HK:Hid (Keep (fun b=>b=rb) w W):=HKW.out.trans hk
   have hUW:=HU.out.later hrb0 hk;have hcv:=vZ _ va z.length vc (lf z) W hUW.ints;have cR:W.heap[w.heap.size]? = some (.cells tkZ 51):=(hUW.2.block w.heap.size (Array.getElem?_eq_some_iff.1 HZ0.out).1 (by show ¬w.heap.size=rb;omega)).trans HZ0.out
   have z0:W.cell? ⟨w.heap.size,0,none⟩=some (.int .u8 0):=ud cR rfl;have z1:W.cell? ⟨w.heap.size,1,none⟩=some (.int .i64 0):=ud cR rfl;have z2:W.cell? ⟨w.heap.size,2,none⟩=some (.string ⟨#[]⟩):=ud cR rfl;have z3:W.cell? ⟨w.heap.size,3,none⟩=some (.slice none 0 0):=ud cR rfl;have g0:W.frozen? ⟨w.heap.size,0,none⟩=false:=ut cR;have g1:W.frozen? ⟨w.heap.size,1,none⟩=false:=ut cR;have g2:W.frozen? ⟨w.heap.size,2,none⟩=false:=ut cR;have g3:W.frozen? ⟨w.heap.size,3,none⟩=false:=ut cR;clear hk hB' hUW cR;generalize hsz:str z.length (lf z)=sz at *;have HSZ:Hid (str z.length (lf z)=sz):=hsz;clear hsz;go_wp2;refine bodyPost_ret (v:=.agg #[.int .u8 34,.int .i64 (i:Nat),.string sz,.slice none 0 0]) ?_ rfl ?_
   ·simp[results,Tryz.f67,go_sem, *]
   ·refine⟨yK (yK (yK (yK HK.out (Nat.le_refl _)) (Nat.le_refl _)) (Nat.le_refl _)) (Nat.le_refl _),.inl ⟨z,j+1,HE.out,by rw[HSZ.out],?_⟩⟩
    exact (((HBW.out.setX (by omega)).setX (by omega)).setX (by omega)).setX (by omega)
  ·rw[decide_eq_false hq,if_neg hq]at hsk
   have HR2:Hid ((match chM t j false with | none=>none | some (c,j')=>qg t f j' (z++[c]))=R):=by
    have h:=HR1.out;rw[if_neg hq]at h;exact h
   have H34:Hid (j<t.n→t.T j≠34):=fun h1 h2=>hq ⟨h1,h2⟩
   clear HR1 hq;go_wp2_with fail;refine hsk.mono ?_;clear hsk;rintro e W ⟨hk,rfl,hB'⟩;have HK:Hid (Keep (fun b=>b=rb) w W):=HKW.out.trans hk
   have HUW:Hid (BufR rb W0 z (.slice va z.length vc) W):=HU.out.later hrb0 hk;have hch:=jl false rb t r j (i:Nat) W hB' (HT.out.keep HK.out) hj (fun _=>H34.out)
   clear hk hB' HU H34;go_wp2_with fail;refine hch.mono ?_;clear hch;rintro e W2 ⟨hk2,⟨c,j',hres,rfl,hB2⟩|⟨hres,rfl⟩⟩
   ·have hrg:=ufA hj hres
    have HR3:Hid (qg t f j' (z++[c])=R):=by
     have h:=HR2.out;rw[hres]at h;exact h
    have HU2:Hid (BufR rb W0 z (.slice va z.length vc) W2):=HUW.out.later hrb0 hk2;have HB2:Hid (RB rb t r j' W2):=hB2;have HNX:Hid (∀W5 v5,OwnC (fun b=>New W0 W2 b∨(W2.alloc (.cells #[.int .u8 c] 5)).heap.size≤b) W5 v5 1 (z.length+1) (uz .u8 (lf z) z.length++[.int .u8 c])→Grew (fun b=>New W0 W2 b) (W2.alloc (.cells #[.int .u8 c] 5)) W5→uoU rb t r W0 R v5 W5):=fun W5 v5 hown hgrew =>
     ⟨f,j',z++[c],hrg.2.1,by omega,by simp;omega,HR3.out,(hgrew.block rb (Nat.lt_of_lt_of_le HB2.out.lt (by simp)) (fun q=>by have:=q.1;omega)).trans (HB2.out.keep (Keep.alloc _ _ _)),BufR.snoc HU2.out.2 (Keep.alloc _ _ _) hown hgrew⟩
    have hzl:z.length+1≤t.n:=by omega
    clear hk2 hB2 hres HR2 HUW;go_wp2_with (at_builtin;refine uai rfl _ _ 22 22 rfl rfl rfl ufm (Q:=New W0 W2) (n:=z.length) (cs:=uz .u8 (lf z) z.length) (m:=1) (news:=[.int .u8 c]) (HU2.out.1.on (fun b hb=>Below.heap_alloc W2 _ _ hb.2)) (uph W2 c) (by omega) ?_;intro v5 W5 hown hgrew hsz;obtain⟨a5,c5,rfl⟩:=um hown;have HE:Hid (uoU rb t r W0 R (.slice a5 (z.length+1) c5) W5):=HNX.out _ _ hown hgrew;clear hown hgrew hsz)
    go_roundw;all_goals first
     |exact HE.out
     | (simp[upV];omega)
   ·have HN:Hid (R=none):=by
     have h:=HR2.out;rw[hres]at h;exact h.symm
    have HK2:Hid (Keep (fun b=>b=rb) w W2):=HK.out.trans hk2
    clear hk2 hres;go_wp2;exact⟨rfl,HK2.out,.inr ⟨HN.out,rfl⟩⟩
def ScN(i:Nat)(rb:Nat)(t:Tx)(r:Rv)(w:World)(e:Ending)(w':World):Prop :=
 Keep (fun b=>b=rb) w w'∧((M.Letter (t.T i)∧e=.returned (.agg #[.int .u8 97,.int .i64 (i:Nat),.string (str (vj t (t.n-i) i []).1.length (lf (vj t (t.n-i) i []).1)),.slice none 0 0])∧RB rb t r (vj t (t.n-i) i []).2 w')∨(¬M.Letter (t.T i)∧e=.panicked (flt 5 (i:Nat))))
def jr(rb:Nat)(w:World):Nat:=match w.cell? ⟨rb,1,none⟩ with | some (.int _ x)=>x.toNat | _=>0
theorem RB.at_{rb:Nat}{t:Tx}{r:Rv}{i:Nat}{w:World}(h:RB rb t r i w):jr rb w=i:=by
 have c1:w.cell? ⟨rb,1,none⟩=some (.int .i64 (i:Nat)):=ud h rfl;unfold jr;rw[c1];simp
def nmI(rb:Nat)(t:Tx)(r:Rv)(i:Nat)(W0:World)(R:List Int×Nat)(v:Value)(wr:World):Prop :=
 ∃(f j:Nat) (z:List Int),i≤j∧j≤t.n∧t.n-j≤f∧z.length=j-i∧(∀k,k<z.length→lf z k=t.T (i+k))∧vj t f j z=R∧RB rb t r j wr∧Keep (fun b=>b=rb) W0 wr
theorem udw(z:List Int)(x:Int){k:Nat}(h:k<z.length):lf (z++[x]) k=lf z k:=by
 unfold lf;rw[List.getD_eq_getElem?_getD,List.getD_eq_getElem?_getD,List.getElem?_append_left h]
theorem udx(z:List Int)(x:Int):lf (z++[x]) z.length=x:=by
 unfold lf;rw[List.getD_eq_getElem?_getD,List.getElem?_append_right (Nat.le_refl _)];simp
set_option maxHeartbeats 2000000 in
set_option maxRecDepth 100000 in
theorem ufB(rb:Nat)(t:Tx)(r:Rv)(i:Nat)(w:World)(hB:RB rb t r i w)(hT:TxQ rb w r.ta t)(hi:i<t.n)(htc:t.n≤r.tc) :
  Calls Tryz.prog 69 #[.pointer (some ⟨rb,0,none⟩)] w (ScN i rb t r w):=by
 have hn:=t.le;have HB:Hid (RB rb t r i w):=hB;have HT:Hid (TxQ rb w r.ta t):=hT;have hrb:rb<w.heap.size:=hB.lt;obtain⟨b,off,e,hq,hcell⟩:=hT.at hi;have cT:=hcell i hi;have bT:=t.byt i;have c0:w.cell? ⟨rb,0,none⟩=some (.slice r.ta t.n r.tc):=ud hB rfl;have c1:w.cell? ⟨rb,1,none⟩=some (.int .i64 (i:Nat)):=ud hB rfl;rw[e]at c0;have hi':(i:Int)<t.n:=by omega
 have hbw:b<w.heap.size:=hq.1;have hbr:¬b=rb:=hq.2;have HTA:Hid (r.ta=some ⟨b,off,none⟩):=e;clear hB hT hcell hq e;go_enter Tryz.func69,Tryz.ntmps69;go_wp2_with fail;obtain⟨W0,hW0⟩:∃W0,W0=w.alloc (.cells tkZ 51):=⟨_,rfl⟩;have HK0:Hid (Keep (fun b=>b=rb) w W0):=by rw[hW0];exact Keep.alloc _ _ _
 have HB0:Hid (RB rb t r i W0):=by rw[hW0];exact HB.out.keep (Keep.alloc _ _ _)
 have HZ0:Hid (W0.heap[w.heap.size]? = some (.cells tkZ 51)):=by rw[hW0];exact yX _ _ _ rfl
 rw[←hW0];clear hW0 c1 c0 cT;refine (xt (t.T i) _ bT.1 bT.2).mono ?_;rintro e W ⟨⟨rr,rfl,hrr⟩,hw⟩;subst W;by_cases hL:M.Letter (t.T i)
 ·obtain rfl:rr=true:=hrr.2 hL
  obtain⟨R,hR⟩:∃R,vj t (t.n-i) i []=R:=⟨_,rfl⟩;have HFIN:Hid (∀w' j z,R=(z,j)→Keep (fun b=>b=rb) w w'→RB rb t r j w'→ScN i rb t r w (.returned (.agg #[.int .u8 97,.int .i64 (i:Nat),.string (str z.length (lf z)),.slice none 0 0])) w'):=fun w' j z e1 k h=>⟨k,.inl ⟨hL,by rw[hR,e1],by rw[hR,e1];exact h⟩⟩
  have HR:Hid (vj t (t.n-i) i []=R):=hR;clear hrr hL hR;go_wp2;go_loopw [42] (nmI rb t r i W0 R) (fun _ wr=>t.n-jr rb wr)
  case atStart=>exact⟨t.n-i,i,[],Nat.le_refl _,by omega,by omega,by simp,(fun k hk=>by simp at hk),HR.out,HB0.out,Keep.refl _ _⟩
  case round =>
   obtain⟨f,j,z,hij,hj,hf,hz,hzk,hR,hB,hK⟩:=hrel;have HZK:Hid (∀k,k<z.length→lf z k=t.T (i+k)):=hzk;have HZL:Hid (z.length=j-i):=hz;have HBJ:Hid (RB rb t r j wr):=hB;have HKJ:Hid (Keep (fun b=>b=rb) W0 wr):=hK
   have HKW:Hid (Keep (fun b=>b=rb) w wr):=HK0.out.trans hK
   have hTJ:TxQ rb wr r.ta t:=HT.out.keep HKW.out;have HN1:Hid ((if j<t.n∧yv (t.T j) then vj t (f-1) (j+1) (z++[t.T j]) else (z,j))=R):=by
    rw[←ujU t hf];exact hR
   have d0:wr.cell? ⟨rb,0,none⟩=some (.slice r.ta t.n r.tc):=ud hB rfl;have d1:wr.cell? ⟨rb,1,none⟩=some (.int .i64 (j:Nat)):=ud hB rfl;have g1:wr.frozen? ⟨rb,1,none⟩=false:=ut hB;rw[HTA.out]at d0;have HEND:Hid (¬(j<t.n∧yv (t.T j))→R=(z,j)):=fun h=>by
    have q:=HN1.out;rw[if_neg h]at q;exact q.symm
   have HNXT:Hid ((j<t.n∧yv (t.T j))→∀n,nmI rb t r i W0 R (.bool true) ((wr.drewN n).setCell ⟨rb,1,none⟩ (.int .i64 ((j:Int)+1)))∧jr rb ((wr.drewN n).setCell ⟨rb,1,none⟩ (.int .i64 ((j:Int)+1)))=j+1):=fun h n=>by
    have q:=HN1.out;rw[if_pos h]at q;have hbb:RB rb t r (j+1) ((wr.drewN n).setCell ⟨rb,1,none⟩ (.int .i64 ((j:Int)+1))):=(HBJ.out.keep (uE wr n)).set (j+1) (by simp)
    refine⟨⟨f-1,j+1,z++[t.T j],by omega,h.1,by have:=h.1;omega,by rw[List.length_append,HZL.out];simp;omega,fun k hk=>?_,q,hbb,yO (qZ HKJ.out n) _ _⟩,hbb.at_⟩
    rw[List.length_append,List.length_singleton]at hk;by_cases e:k<z.length
    ·rw[udw _ _ e];exact HZK.out k e
    ·obtain rfl:k=z.length:=by omega
     rw[udx,HZL.out,show i+(j-i)=j by omega]
   have HAT:Hid (jr rb wr=j):=hB.at_;have HLAST:Hid (¬(j<t.n∧yv (t.T j))→∀n V,V=wr.drewN n→(convert 22 9 (.slice (some ⟨b,off+i,none⟩) (j-i) (r.tc-i))).run Tryz.prog V.drew=.ok (.string (str z.length (lf z))) V.drew):=fun h n V hV=>by
    subst hV;have hI:Ints (fun b=>b<wr.heap.size∧b≠rb) .u8 ((wr.drewN n).drew) (some ⟨b,off+i,none⟩) (j-i) (fun k=>t.T (i+k)):=by
     rcases (hTJ.keep (rb:=rb) (yh ((uE wr n).trans (Keep.drew _ _)))) with q | ⟨b',off',e',hq',hc'⟩
     ·omega
     ·rw[HTA.out]at e'
      injection e' with e'
      injection e' with e1 e2
      subst e1 e2;exact .inr ⟨b,off+i,rfl,by simpa using hq',fun k hk=>by rw[Nat.add_assoc];exact hc' (i+k) (by omega)⟩
    have hr:=vZ _ (some ⟨b,off+i,none⟩) (j-i) (r.tc-i) (fun k=>t.T (i+k)) _ hI
    have hs:str (j-i) (fun k=>t.T (i+k))=str z.length (lf z):=(umU _ _ _ _ (fun k _=>t.byt _) (fun k hk=>by rw[HZK.out k hk];exact t.byt _)).2 ⟨HZL.out.symm,fun k hk=>(HZK.out k (by rw[HZL.out];exact hk)).symm⟩
    rw[hs]at hr;exact hr
   have HCR:Hid (∀n,(wr.drewN n).heap[w.heap.size]? = some (.cells tkZ 51)):=fun n=>((uE wr n).block w.heap.size (Nat.lt_of_lt_of_le (Array.getElem?_eq_some_iff.1 HZ0.out).1 HKJ.out.size) (fun q=>q)).trans ((HKJ.out.block w.heap.size (Array.getElem?_eq_some_iff.1 HZ0.out).1 (by show ¬w.heap.size=rb;omega)).trans HZ0.out)
   clear hzk hz hB hK hR hTJ HN1;by_cases hjl:j<t.n
   ·have hjl':(j:Int)<t.n:=by omega
    have hTJ2:TxQ rb wr r.ta t:=HT.out.keep HKW.out;obtain⟨b',off',e',_,hcell'⟩:=hTJ2.at hjl;rw[HTA.out]at e';injection e' with e'
    injection e' with e1 e2
    subst e1 e2;have dT:=hcell' j hjl;have bJ:=t.byt j;clear hcell' hTJ2;by_cases hnc:yv (t.T j)
    ·have HNX:=Hid.out HNXT ⟨hjl,hnc⟩
     have HNX:Hid (∀n,nmI rb t r i W0 R (.bool true) ((wr.drewN n).setCell ⟨rb,1,none⟩ (.int .i64 ((j:Int)+1)))∧jr rb ((wr.drewN n).setCell ⟨rb,1,none⟩ (.int .i64 ((j:Int)+1)))=j+1):=HNX;have HC:Hid (∀d,Calls Tryz.prog 90 #[.int .u8 (t.T j)] (wr.drewN d) fun e w'=>e=.returned (.bool true)∧w'=wr.drewN d):=fun d=>(yw (t.T j) _ bJ.1 bJ.2).mono (fun e W h=>by
      obtain⟨⟨r',rfl,hr'⟩,rfl⟩:=h;obtain rfl:r'=true:=hr'.2 hnc;exact⟨rfl,rfl⟩)
     clear hnc HNXT HEND HLAST;go_upto_region 4 with fail
     go_quiet (first|(go_at_call 90;exact Calls.quiet_of_same (HC.out _)))
     go_wp2;go_roundw
     case rel=>exact (HNX.out _).1
     case measure=>rw[(HNX.out _).2,HAT.out];omega
    ·have HE:Hid (R=(z,j)):=HEND.out (fun q=>hnc q.2)
     have HCV:=Hid.out HLAST (fun q=>hnc q.2)
     have HCV:Hid (∀n V,V=wr.drewN n→(convert 22 9 (.slice (some ⟨b,off+i,none⟩) (j-i) (r.tc-i))).run Tryz.prog V.drew=.ok (.string (str z.length (lf z))) V.drew):=HCV;have HC:Hid (∀d,Calls Tryz.prog 90 #[.int .u8 (t.T j)] (wr.drewN d) fun e w'=>e=.returned (.bool false)∧w'=wr.drewN d):=fun d=>(yw (t.T j) _ bJ.1 bJ.2).mono (fun e W h=>by
      obtain⟨⟨r',rfl,hr'⟩,rfl⟩:=h;obtain rfl:r'=false:=by { cases r';rfl;exact absurd (hr'.1 rfl) hnc }
      exact⟨rfl,rfl⟩)
     clear hnc HNXT HEND HLAST;go_upto_region 4 with fail
     go_quiet (first|(go_at_call 90;exact Calls.quiet_of_same (HC.out _)))
     go_upto_region 6 with fail
     obtain⟨V,hV⟩:∃V,V=wr.drewN nq:=⟨_,rfl⟩;have hcv:=HCV.out nq V hV;have HBV:Hid (RB rb t r j V):=by rw[hV];exact HBJ.out.keep (uE wr nq)
     have HKV:Hid (Keep (fun b=>b=rb) w V):=by rw[hV];exact qZ HKW.out nq
     have cR:V.heap[w.heap.size]? = some (.cells tkZ 51):=by rw[hV];exact HCR.out nq
     rw[←hV];clear hV d0 d1 g1;have d0:V.cell? ⟨rb,0,none⟩=some (.slice r.ta t.n r.tc):=ud HBV.out rfl;have d1:V.cell? ⟨rb,1,none⟩=some (.int .i64 (j:Nat)):=ud HBV.out rfl;rw[HTA.out]at d0;have z0:V.cell? ⟨w.heap.size,0,none⟩=some (.int .u8 0):=ud cR rfl;have z1:V.cell? ⟨w.heap.size,1,none⟩=some (.int .i64 0):=ud cR rfl;have z2:V.cell? ⟨w.heap.size,2,none⟩=some (.string ⟨#[]⟩):=ud cR rfl;have z3:V.cell? ⟨w.heap.size,3,none⟩=some (.slice none 0 0):=ud cR rfl;have g0:V.frozen? ⟨w.heap.size,0,none⟩=false:=ut cR;have g1:V.frozen? ⟨w.heap.size,1,none⟩=false:=ut cR;have g2:V.frozen? ⟨w.heap.size,2,none⟩=false:=ut cR;have g3:V.frozen? ⟨w.heap.size,3,none⟩=false:=ut cR;have l1:(j:Int)≤r.tc:=by omega
     have l2:¬r.tc=i:=by omega
     clear cR HCV;generalize hsz:str z.length (lf z)=sz at *;have HSZ:Hid (str z.length (lf z)=sz):=hsz;clear hsz;go_region;all_goals go_wp2
     refine bodyPost_ret (v:=.agg #[.int .u8 97,.int .i64 (i:Nat),.string sz,.slice none 0 0]) ?_ rfl ?_
     ·simp[results,Tryz.f69,go_sem, *]
     ·have h:=HFIN.out ((((V.drew.setCell ⟨w.heap.size,0,none⟩ (.int .u8 97)).setCell ⟨w.heap.size,1,none⟩ (.int .i64 (i:Nat))).setCell ⟨w.heap.size,2,none⟩ (.string sz)).setCell ⟨w.heap.size,3,none⟩ (.slice none 0 0)) j z HE.out (yK (yK (yK (yK (HKV.out.trans (Keep.drew _ _)) (Nat.le_refl _)) (Nat.le_refl _)) (Nat.le_refl _)) (Nat.le_refl _)) (((((HBV.out.keep (Keep.drew _ _)).setX (by omega)).setX (by omega)).setX (by omega)).setX (by omega))
      rw[HSZ.out]at h;exact h
   ·have HE:Hid (R=(z,j)):=HEND.out (fun q=>hjl q.1)
    have HCV:=Hid.out HLAST (fun q=>hjl q.1)
    have HCV:Hid (∀n V,V=wr.drewN n→(convert 22 9 (.slice (some ⟨b,off+i,none⟩) (j-i) (r.tc-i))).run Tryz.prog V.drew=.ok (.string (str z.length (lf z))) V.drew):=HCV;have hjl':¬(j:Int)<t.n:=by omega
    clear HNXT HEND HLAST;go_upto_region 4 with fail
    go_quiet (fail);go_upto_region 6 with fail
    obtain⟨V,hV⟩:∃V,V=wr.drewN nq:=⟨_,rfl⟩;have hcv:=HCV.out nq V hV;have HBV:Hid (RB rb t r j V):=by rw[hV];exact HBJ.out.keep (uE wr nq)
    have HKV:Hid (Keep (fun b=>b=rb) w V):=by rw[hV];exact qZ HKW.out nq
    have cR:V.heap[w.heap.size]? = some (.cells tkZ 51):=by rw[hV];exact HCR.out nq
    rw[←hV];clear hV d0 d1 g1;have d0:V.cell? ⟨rb,0,none⟩=some (.slice r.ta t.n r.tc):=ud HBV.out rfl;have d1:V.cell? ⟨rb,1,none⟩=some (.int .i64 (j:Nat)):=ud HBV.out rfl;rw[HTA.out]at d0;have z0:V.cell? ⟨w.heap.size,0,none⟩=some (.int .u8 0):=ud cR rfl;have z1:V.cell? ⟨w.heap.size,1,none⟩=some (.int .i64 0):=ud cR rfl;have z2:V.cell? ⟨w.heap.size,2,none⟩=some (.string ⟨#[]⟩):=ud cR rfl;have z3:V.cell? ⟨w.heap.size,3,none⟩=some (.slice none 0 0):=ud cR rfl;have g0:V.frozen? ⟨w.heap.size,0,none⟩=false:=ut cR;have g1:V.frozen? ⟨w.heap.size,1,none⟩=false:=ut cR;have g2:V.frozen? ⟨w.heap.size,2,none⟩=false:=ut cR;have g3:V.frozen? ⟨w.heap.size,3,none⟩=false:=ut cR;have l1:(j:Int)≤r.tc:=by omega
    have l2:¬r.tc=i:=by omega
    clear cR HCV;generalize hsz:str z.length (lf z)=sz at *;have HSZ:Hid (str z.length (lf z)=sz):=hsz;clear hsz;go_region;all_goals go_wp2
    refine bodyPost_ret (v:=.agg #[.int .u8 97,.int .i64 (i:Nat),.string sz,.slice none 0 0]) ?_ rfl ?_
    ·simp[results,Tryz.f69,go_sem, *]
    ·have h:=HFIN.out ((((V.drew.setCell ⟨w.heap.size,0,none⟩ (.int .u8 97)).setCell ⟨w.heap.size,1,none⟩ (.int .i64 (i:Nat))).setCell ⟨w.heap.size,2,none⟩ (.string sz)).setCell ⟨w.heap.size,3,none⟩ (.slice none 0 0)) j z HE.out (yK (yK (yK (yK (HKV.out.trans (Keep.drew _ _)) (Nat.le_refl _)) (Nat.le_refl _)) (Nat.le_refl _)) (Nat.le_refl _)) (((((HBV.out.keep (Keep.drew _ _)).setX (by omega)).setX (by omega)).setX (by omega)).setX (by omega))
     rw[HSZ.out]at h;exact h
 ·obtain rfl:rr=false:=by { cases rr;rfl;exact absurd (hrr.1 rfl) hL }
  have HL:Hid (¬M.Letter (t.T i)):=hL;clear hrr hL;go_wp2;exact⟨rfl,HK0.out,.inr ⟨HL.out,rfl⟩⟩
end
section
open Go.RowKit
def cl(M:Nat→Bool):Nat→List Int
 |0=>[]
 |b+1=>if M b=true then (if b≠0∧M (b-1)=true then (cl M b).dropLast++[(b:Int)] else cl M b++[(b:Int),(b:Int)]) else cl M b
theorem ulo(M:Nat→Bool):∀b,(cl M b).length≤2*b
 |0=>Nat.le_refl _
 |b+1=>by
  have:=ulo M b;rw[cl];split
  ·split
   ·rw[List.length_append,List.length_dropLast,List.length_singleton];omega
   ·rw[List.length_append];simp;omega
  ·omega
theorem uft(M:Nat→Bool):∀b,(b≠0∧M (b-1)=true→(cl M b).getLast? = some ((b:Int)-1))∧∀x,(cl M b).getLast? = some x→x≤(b:Int)-1∧(¬(b≠0∧M (b-1)=true)→x<(b:Int)-1)
 |0=>⟨fun h=>absurd rfl h.1,fun x h=>by simp[cl]at h⟩
 |b+1=>by
  obtain⟨h1,h2⟩:=uft M b;cases hM:M b with
  |false =>
   have e:cl M (b+1)=cl M b:=by rw[cl,hM];simp
   rw[e];refine⟨fun h=>?_,fun x hx=>?_⟩
   ·have:=h.2;rw[Nat.add_sub_cancel,hM]at this;cases this
   ·have:=(h2 x hx).1
    exact⟨by omega,fun _=>by omega⟩
  |true =>
   have e:(cl M (b+1)).getLast? = some ((b:Int)):=by
    rw[cl,hM];simp only[if_true];split
    ·simp
    ·simp
   rw[e];refine⟨fun _=>by congr 1;omega,fun x hx=>?_⟩
   cases hx
   exact⟨by omega,fun h=>absurd ⟨by omega,by rw[Nat.add_sub_cancel];exact hM⟩ h⟩
theorem uop(M:Nat→Bool):∀b,b≤256→rg M b=if b≠0∧M (b-1)=true∧b≠256∧M b=true then (cl M b).dropLast else cl M b
 |0,_=>by simp[rg,cl]
 |b+1,hb=>by
  have ih:=uop M b (by omega)
  have e:cl M (b+1)=(if M b=true then (if b≠0∧M (b-1)=true then (cl M b).dropLast++[(b:Int)] else cl M b++[(b:Int),(b:Int)]) else cl M b):=rfl
  rw[un2 M b,ih,e];generalize cl M b=L;have h6:b≠256:=by omega
  cases hM:M b with
  |false=>simp[hM]
  |true =>
   by_cases h0:b=0
   ·subst h0
    cases hN:M 1<;>simp[hM,hN]
   ·cases hP:M (b-1) with
    |false =>
     by_cases h5:b=255
     ·subst h5;simp[hM,hP]
     ·cases hN:M (b+1)<;>simp[hM,hN,hP,h0,h5,h6]
    |true =>
     by_cases h5:b=255
     ·subst h5;simp[hM,hP]
     ·cases hN:M (b+1)<;>simp[hM,hN,hP,h0,h5,h6]
theorem ueJ(M:Nat→Bool):rg M 256=cl M 256:=by rw[uop M 256 (Nat.le_refl _),if_neg (fun h=>h.2.2.1 rfl)]
theorem ujD{w0 w1:World}{v:Value}{l:List Int}(z y:Int)(ty:TypeId)(h:OwnL w0 w1 v l)(hso:Soft w0 w1)(hl:l.length≤4194304) :
  ∃v' w',(Builtin.append_ #[49,49] ty #[v,.slice (some ⟨w1.heap.size,0,none⟩) 2 2]).run Tryz.prog (w1.alloc (.cells #[.int .i64 z,.int .i64 y] 3))=.ok v' w'∧OwnL w0 w' v' (l++[z,y])∧Soft w0 w':=by
 obtain⟨P,ho,hp,hb⟩:=h;have b1:=up w1 (.cells #[.int .i64 z,.int .i64 y] 3);have hs:Src Tryz.prog 1 49 (.slice (some ⟨w1.heap.size,0,none⟩) 2 2) 2 [.int .i64 z,.int .i64 y] (w1.alloc (.cells #[.int .i64 z,.int .i64 y] 3)):=by
  refine Src.ofSlice (P:=Tryz.prog) _ Tryz.underlying49 ⟨w1.heap.size,0,none⟩ 2 2 [.int .i64 z,.int .i64 y] rfl (fun j u hu=>?_) (fun u hu=>?_)
  ·match j,hu with
   |0,hu=>simpa[Addr.add] using (cN w1.heap.size rfl hu:(w1.alloc (.cells #[.int .i64 z,.int .i64 y] 3)).cell? ⟨w1.heap.size,0,none⟩=some u)
   |1,hu=>simpa[Addr.add] using (cN w1.heap.size rfl hu:(w1.alloc (.cells #[.int .i64 z,.int .i64 y] 3)).cell? ⟨w1.heap.size,1,none⟩=some u)
   |j+2,hu=>simp at hu
  ·simp at hu
   rcases hu with rfl | rfl<;>rfl
 obtain⟨v',w',hr,k1,k2,k3⟩:=qA ty ufl (ho.on (fun b hb=>b1.block b (hp b hb).2)) hs (by omega) (fun _=>by omega)
 refine⟨v',w',hr,⟨fun b=>(P b∨(w1.alloc (.cells #[.int .i64 z,.int .i64 y] 3)).heap.size≤b)∧b<w'.heap.size,?_,?_,?_⟩,(hso.trans (uiF w1 _ 3) b1).grew k2⟩
 ·have e:je (l++[z,y])=je l++[.int .i64 z,.int .i64 y]:=by simp[je]
  rw[e,List.length_append];show OwnC _ _ _ _ (l.length+2) _;rcases k1 with q | ⟨g,cap,e,hq,h3,h4,h5,h6⟩
  ·exact .inl q
  ·refine .inr ⟨g,cap,e,⟨hq,?_⟩,h3,h4,h5,h6⟩
   obtain⟨u,hu⟩:=Option.isSome_iff_exists.1 (h6 0 (by omega)).1
   exact ub hu
 ·rintro b ⟨q | q,hlt⟩
  ·exact⟨(hp b q).1,hlt⟩
  ·have:=hb.size
   have:=b1.size;exact⟨by omega,hlt⟩
 ·have hs0:=hb.size
  have hs1:=b1.size;exact⟨k2.os.trans (b1.os.trans hb.os),k2.tape.trans (b1.tape.trans hb.tape),k2.output.trans (b1.output.trans hb.output),by have:=k2.size;omega,fun b hbb=>(k2.block b (by omega) (fun q=>by have:=(hp b q).1;omega)).trans ((b1.block b (by omega)).trans (hb.block b hbb))⟩
theorem ulp{ops:Array Oper}{rest:List Oper}{o:Oper}{a:Act}{P':Exit→Act→World→Prop}(hgd:o.guard=none)(s x:Operand)(ho:o.op=.call { callee:=.builtin .append,args:=#[s,x],argTypes:=#[49,49] })
  {w0 w1:World} {v:Value} {l:List Int} {z y:Int} (hs:a.eval s=v) (hx:a.eval x=.slice (some ⟨w1.heap.size,0,none⟩) 2 2) (h:OwnL w0 w1 v l) (hso:Soft w0 w1) (hl:l.length≤4194304)
  (k:∀w' l' n' a' c',Hid (l'=l++[z,y])→Hid (n'=l'.length)→Hid (OwnL w0 w' (.slice a' n' c') l')→Hid (Soft w0 w')→wpList Tryz.prog ops P' rest (a.put o.dst (.slice a' n' c')) w'):wpList Tryz.prog ops P' (o::rest) a (w1.alloc (.cells #[.int .i64 z,.int .i64 y] 3)):=by
 refine wpList_plain hgd fun K hK=>?_
 obtain⟨v',w',hr,hR,hSo⟩:=ujD z y o.type h hso hl;obtain⟨a',c',rfl⟩:=hR.shape;unfold Oper.wp execOp;simp only[ho,resolve,invoke,builtin,Sem.run_bind,Sem.run_pure,Result.andThen_ok,List.map_toArray,List.map_cons,List.map_nil,hs,hx,hr];exact hK _ _ (k w' (l++[z,y]) _ a' c' rfl rfl hR hSo)
theorem ueK{w0 w:World}{a:Option Addr}{c j:Nat}{X:List Int}{x:Int}(h:OwnL w0 w (.slice a (j+1) c) (X++[x]))(hj:X.length=j) :
  ∃g,a=some ⟨g,0,none⟩∧w0.heap.size≤g∧g<w.heap.size∧w.cell? ⟨g,j,none⟩=some (.int .i64 x)∧w.frozen? ⟨g,j,none⟩=false∧∀y:Int,OwnL w0 (w.setCell ⟨g,j,none⟩ (.int .i64 y)) (.slice (some ⟨g,0,none⟩) (j+1) c) (X++[y]):=by
 subst hj;obtain⟨P,ho,hp,hb⟩:=h;have hl:(X++[x]).length=X.length+1:=by simp
 rcases ho with⟨_,e,_⟩|⟨g,cap,e,hq,h3,h4,h5,h6⟩
 ·omega
 ·injection e with e1 e2 e3
  subst e3;have hv:je (X++[x])=je X++[.int .i64 x]:=by simp[je]
  have hvl:(je X).length=X.length:=by simp[je]
  have hc:w.cell? ⟨g,X.length,none⟩=some (.int .i64 x):=by
   rw[h5 X.length (by rw[hv];simp[hvl]),hv,List.getElem?_append_right (by omega),hvl];simp
  refine⟨g,e1,(hp g hq).1,(hp g hq).2,hc,(h6 X.length (by omega)).2,fun y=>⟨P,?_,fun b q=>by rw[ul];exact hp b q,?_⟩⟩
  ·have hvy:je (X++[y])=je X++[.int .i64 y]:=by simp[je]
   have hl2:(X++[y]).length=X.length+1:=by simp
   rw[hl2];refine .inr ⟨g,c,rfl,hq,by rw[hvy];simp[hvl],by omega,fun i hi=>?_,fun i hi=>?_⟩
   ·rw[hvy,List.length_append,hvl,List.length_singleton]at hi
    by_cases e:i=X.length
    ·subst e
     rw[uaa hc,hvy,List.getElem?_append_right (by omega),hvl];simp
    ·rw[ql (fun q=>e q.symm),h5 i (by rw[hv];simp[hvl];omega),hv,hvy,List.getElem?_append_left (by omega),List.getElem?_append_left (by omega)]
   ·obtain⟨k1,k2⟩:=h6 i hi
    refine⟨?_,(World.frozen?_setCell _ _ _ _).trans k2⟩;by_cases e:i=X.length
    ·subst e;rw[uaa hc];rfl
    ·rw[ql (fun q=>e q.symm)];exact k1
  ·have hg:=(hp g hq).1
   exact hb.setCell (p:=⟨g,X.length,none⟩) hg _
def ufu(l:List Int)(w:World)(e:Ending)(w':World):Prop:=∃a c,e=.returned (.slice a l.length c)∧OwnL w w' (.slice a l.length c) l∧Soft w w'
def clI(w:World)(M:Nat→Bool)(ov iv:Value)(wr:World):Prop:=∃k:Nat,k≤256∧iv=.int .i64 (k:Int)∧OwnL w wr ov (cl M k)∧Soft w wr
theorem uix:(Tryz.prog.info? 138).map (·.size)=some 256:=by kernel_rfl
theorem ulq:(Tryz.prog.info? 4).map (·.size)=some 1:=by kernel_rfl
theorem ujE(arr:Array Value)(k:Nat)(v:Value)(w:World)(hk:k<256)(hv:arr[k]? = some v):(Instr.index 138 (.agg arr) (.int .i64 (k:Int))).run Tryz.prog w=.ok v w:=by
 obtain⟨j,hj,hs⟩:=Option.map_eq_some_iff.1 ulq;have h1:(k:Int)<256:=by omega
 simp[Instr.index,asIntOf,run_underlying Tryz.underlying138,run_underlying Tryz.underlying4,part,isAgg,sizeOf,typeInfo,hj,hs,h1,hv];intro q;omega
set_option maxRecDepth 100000 in
set_option maxHeartbeats 4000000 in
theorem ufv(wb:Bool)(arr:Array Value)(M:Nat→Bool)(w:World)(hs:arr.size=256)(hM:∀i,i<256→arr[i]? = some (.bool (M i==wb))) :
  Calls Tryz.prog 88 #[.agg arr,.bool wb] w (ufu (rg M 256) w):=by
 have HM:Hid (∀i,i<256→arr[i]? = some (.bool (M i==wb))):=hM;have HG:Hid (∀e w',ufu (cl M 256) w e w'→ufu (rg M 256) w e w'):=fun e w' h=>by rw[ueJ];exact h
 clear hM;go_enter Tryz.func88,Tryz.ntmps88;go_wp2;refine wp_load_mid 138 (.tmp 2) rfl w.heap.size 0 rfl arr.toList (.array 256 4) (fun j v hv=>?_) Tryz.underlying138 rfl (by rw[Array.length_toList,hs];exact uix) ?_
 ·rw[Nat.zero_add]
  exact ud (yX w _ _ rfl) (by simpa using hv)
 rw[Array.toArray_toList];go_wp2;go_loopw [5,9] (fun ov iv wr=>clI w M ov iv wr) (fun ov iv _=>256-(intOf iv).toNat)
 case atStart=>exact⟨0,by omega,rfl,OwnL.nil (up w _),uiF w _ 138⟩
 case round =>
  obtain⟨k,hk,rfl,hO,hSO⟩:=hrel;have HSO:Hid (Soft w wr):=hSO;clear hSO;obtain⟨oa,oc,rfl⟩:=hO.shape;have hln:=ulo M k;obtain⟨on,hon⟩:∃on,(cl M k).length=on:=⟨_,rfl⟩;rw[hon]at hO hln ⊢;have HO:Hid (OwnL w wr (.slice oa on oc) (cl M k)):=hO;have HON:Hid ((cl M k).length=on):=hon;clear hO hon;by_cases hlt:k<256
  ·have hlt':(k:Int)<256:=by omega
   have hix:=fun w=>ujE arr k _ w hlt (HM.out k hlt)
   have hcl:cl M (k+1)=(if M k=true then (if k≠0∧M (k-1)=true then (cl M k).dropLast++[(k:Int)] else cl M k++[(k:Int),(k:Int)]) else cl M k):=rfl
   cases hMk:M k with
   |false =>
    rw[hMk]at hcl hix;have hnw:(false==wb) = !wb:=by cases wb<;>rfl
    have hnb:((!wb) != wb)=true:=by cases wb<;>rfl
    rw[hnw]at hix;have HR:Hid (cl M (k+1)=cl M k):=by show _=_;rw[hcl];simp
    clear hcl hMk;go_wp2;go_roundw
    case rel=>exact⟨k+1,by omega,by go_num,by rw[HR.out];exact HO.out,HSO.out⟩
    case measure=>simp[intOf];omega
   |true =>
    rw[hMk]at hcl hix;have hnw:(true==wb)=wb:=by cases wb<;>rfl
    have hnb:(wb != wb)=false:=by cases wb<;>rfl
    rw[hnw]at hix;obtain⟨hl1,hl2⟩:=uft M k;by_cases hp:k≠0∧M (k-1)=true
    ·have HR:Hid (cl M (k+1)=(cl M k).dropLast++[(k:Int)]):=by show _=_;rw[hcl,if_pos rfl,if_pos hp]
     obtain⟨X,hX⟩:∃X,(cl M k).dropLast=X:=⟨_,rfl⟩;have hcons:cl M k=X++[(k:Int)-1]:=by
      rw[←hX];have:=hl1 hp;rw[List.getLast?_eq_some_iff]at this;obtain⟨ys,hy⟩:=this;rw[hy];simp
     obtain⟨j,rfl⟩:∃j,on=j+1:=⟨on-1,by have:=HON.out;rw[hcons,List.length_append,List.length_singleton]at this;omega⟩
     have hXl:X.length=j:=by have:=HON.out;rw[hcons,List.length_append,List.length_singleton]at this;omega
     have hO:=HO.out;rw[hcons]at hO;obtain⟨g,rfl,g1,g2,c1,f1,hst⟩:=ueK hO hXl;have HST:Hid (∀y:Int,OwnL w (wr.setCell ⟨g,j,none⟩ (.int .i64 y)) (.slice (some ⟨g,0,none⟩) (j+1) oc) (X++[y])):=hst;have HX:Hid (cl M (k+1)=X++[(k:Int)]):=by show _=_;rw[HR.out,hX]
     have HXL:Hid (X.length=j):=hXl;have hj0:(0:Int)<((j+1:Nat):Int):=by omega
     have e1:((j+1:Nat):Int)-1=(j:Int):=by omega
     have hjl:(j:Int)<((j+1:Nat):Int):=by omega
     have hj5:j≤512:=by omega
     clear hcl hMk hl1 hl2 hp hcons hO hst hX hXl HO HON HR;go_wp2;go_roundw
     case rel=>exact⟨k+1,by omega,by go_num,by rw[HX.out];exact HST.out _,HSO.out.set _ _⟩
     case measure=>simp[intOf];omega
    ·have HR:Hid (cl M (k+1)=cl M k++[(k:Int),(k:Int)]):=by show _=_;rw[hcl,if_pos rfl,if_neg hp]
     rcases Nat.eq_zero_or_pos on with h0 | h0
     ·subst h0
      clear hcl hMk hl1 hl2 hp;go_wp2_with (at_builtin;refine ulp (l:=cl M k) rfl _ _ rfl rfl rfl HO.out HSO.out (by rw[HON.out];omega) ?_;intro W L n a1 c1 E1 E2 E3 E4)
      go_roundw
      case rel=>exact⟨k+1,by omega,by go_num,by rw[HR.out];exact E1.out▸E3.out,E4.out⟩
      case measure=>simp[intOf];omega
     ·obtain⟨j,rfl⟩:∃j,on=j+1:=⟨on-1,by omega⟩
      obtain⟨x,hx⟩:∃x,(cl M k).getLast? = some x:=by
       cases q:(cl M k).getLast? with
       |none=>rw[List.getLast?_eq_none_iff]at q;have:=HON.out;rw[q]at this;simp at this
       |some x=>exact⟨x,rfl⟩
      have hxk:=(hl2 x hx).2 hp;obtain⟨X,hcons⟩:=List.getLast?_eq_some_iff.1 hx;have hXl:X.length=j:=by have:=HON.out;rw[hcons,List.length_append,List.length_singleton]at this;omega
      have hO:=HO.out;rw[hcons]at hO;obtain⟨g,rfl,g1,g2,c1,f1,hst⟩:=ueK hO hXl;have hne:(x==(k:Int)-1)=false:=by simp;omega
      have hj0:(0:Int)<((j+1:Nat):Int):=by omega
      have e1:((j+1:Nat):Int)-1=(j:Int):=by omega
      have hjl:(j:Int)<((j+1:Nat):Int):=by omega
      have hj5:j≤512:=by omega
      clear hcl hMk hl1 hl2 hp hO hst hXl hx hcons hxk;go_wp2_with (at_builtin;refine ulp (l:=cl M k) rfl _ _ rfl rfl rfl HO.out HSO.out (by rw[HON.out];omega) ?_;intro W L n a1 c1 E1 E2 E3 E4)
      go_roundw
      case rel=>exact⟨k+1,by omega,by go_num,by rw[HR.out];exact E1.out▸E3.out,E4.out⟩
      case measure=>simp[intOf];omega
  ·obtain rfl:k=256:=by omega
   go_wp2;go_ret;refine HG.out _ _ ⟨oa,oc,congrArg (fun n=>Ending.returned (.slice oa n oc)) HON.out.symm,?_,HSO.out⟩
   rw[HON.out];exact HO.out
end
end Go.Proofs.YthicmmhmmfhncaaGreat
