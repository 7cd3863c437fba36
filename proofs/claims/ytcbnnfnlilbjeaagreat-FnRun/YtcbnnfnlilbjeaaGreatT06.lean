import Derived.Test.YtcbnnfnlilbjeaaGreatT05
import Derived.Test.YtcbnnfnlilbjeaaGreatT04
import Derived.Deep.AppendSrc
import Derived.OwnWalk
set_option linter.unusedVariables false
set_option linter.unusedSimpArgs false
namespace Go.Proofs.YtcbnnfnlilbjeaaGreat
section
open Go.RowKit
open M (OpD NodeD Gr InsD)
def MSt.top(s:MSt)(k:Int):Bool:=match s.st.getLast? with | none=>false | some f=>f.kind==k
theorem getLast_at{l:List FrD}{j:Nat}(h:l.length=j+1):∃f,l[j]? = some f∧l.getLast? = some f:=by
 have hj:j<l.length:=by omega
 refine⟨l[j],List.getElem?_eq_getElem hj,?_⟩;rw[List.getLast?_eq_getElem?,h];simp[hj]
set_option maxRecDepth 100000 in
set_option maxHeartbeats 4000000 in
theorem l4top_any(s:MSt)(ka la xa:Option Addr)(kc lc xn xc:Nat)(kd:Int)(w:World)(hK:FrA w ka s.st)(hn:s.st.length≤1000) :
  Calls Tryz.prog 45 #[stV s ka kc la lc xa xn xc,.int .i64 kd] w (TellsB (s.top kd) w):=by
 obtain⟨n,hnn⟩:∃n,s.st.length=n:=⟨_,rfl⟩;rcases Nat.eq_zero_or_pos n with h0 | h0
 ·subst h0
  have HT:Hid (s.top kd=false):=by
   show s.top kd=false;unfold MSt.top;rw[List.eq_nil_of_length_eq_zero hnn];rfl
  unfold stV;rw[hnn];clear hK hn hnn;go_enter Tryz.func45,Tryz.ntmps45;go_wp2;go_ret;exact⟨by rw[HT.out];rfl,bel1 w _⟩
 ·obtain⟨j,rfl⟩:∃j,n=j+1:=⟨n-1,by omega⟩
  obtain⟨f,hf,hl⟩:=getLast_at hnn;have HT:Hid (s.top kd=(f.kind==kd)):=by show _=_;unfold MSt.top;rw[hl]
  rcases hK with q | ⟨b,rfl,hc⟩
  ·omega
  obtain⟨c0,_⟩:=hc j f hf;have lb:=lt_of_cell c0;have hj:j≤1000:=by omega
  unfold stV;rw[hnn];clear hc hf hl hn hnn;have hlt:(j:Int)<((j+1:Nat):Int):=by omega
  have e1:((j+1:Nat):Int)-1=(j:Int):=by omega
  go_enter Tryz.func45,Tryz.ntmps45;go_wp2;go_ret;exact⟨by rw[HT.out];rfl,bel1 w _⟩
theorem unwind_snoc(l:List FrD)(f:FrD)(h:f.kind=2):unwind (l++[f]).reverse=unwind l.reverse:=by
 rw[List.reverse_append];show unwind (f::l.reverse)=_;rw[unwind,if_pos h]
theorem unwind_take{l:List FrD}{j:Nat}{f:FrD}(hf:l[j]? = some f):l.take (j+1)=l.take j++[f]:=by
 obtain⟨hj,e⟩:=List.getElem?_eq_some_iff.1 hf;rw[←e,List.take_append_getElem hj]
def faI(X:World)(n:Nat)(s:MSt)(i:Value)(wr:World):Prop :=
 ((∃j:Nat,j<n∧i=.int .i64 (j:Int)∧unwind s.st.reverse=unwind (s.st.take (j+1)).reverse)∨(i=.int .i64 (-1)∧unwind s.st.reverse=none))∧Below X.heap.size X wr
set_option maxRecDepth 100000 in
set_option maxHeartbeats 8000000 in
theorem l4fail_any(s:MSt)(ka la xa:Option Addr)(kc lc xn xc:Nat)(w:World)(hK:FrA w ka s.st)(hn:s.st.length≤1000)(hkc:s.st.length≤kc)(hlc:s.log.length≤lc)(hlog:∀f,f∈s.st→f.kind≠2→f.log≤s.log.length) :
  Calls Tryz.prog 44 #[stV s ka kc la lc xa xn xc] w (GivesV (stV s.fail ka kc la lc xa xn xc) w):=by
 obtain⟨n,hnn⟩:∃n,s.st.length=n:=⟨_,rfl⟩;have HN:Hid (s.st.length=n):=hnn;obtain⟨ln,hll⟩:∃ln,s.log.length=ln:=⟨_,rfl⟩;have HLL:Hid (s.log.length=ln):=hll;have HK:Hid (∀x y,FrA ((w.alloc x).alloc y) ka s.st):=fun x y=>hK.later (bel2 w x y)
 have HLG:Hid (∀f,f∈s.st→f.kind≠2→f.log≤ln):=hll▸hlog;rw[hnn]at hn hkc;rw[hll]at hlc;clear hK hlog;have HV:Hid (stV s ka kc la lc xa xn xc=.agg #[.int .i64 s.at_,.int .i64 (s.pos:Int),.slice ka n kc,.slice la ln lc,.int .i64 (s.far:Int),.slice xa xn xc,.int .i64 (s.steps:Int),.int .i64 (s.throws:Int),.bool s.done,.int .i64 s.code,.int .i64 s.label]):=by
  show _=_;unfold stV;rw[hnn,hll]
 rw[HV.out];clear hnn hll;go_enter Tryz.func44,Tryz.ntmps44;go_wp2;generalize hX:(w.alloc _).alloc _=X;have HX:Hid (Below w.heap.size w X):=hX▸bel2 w _ _;have HF:Hid (FrA X ka s.st):=hX▸HK.out _ _;have xs:X.heap.size=w.heap.size+1+1:=by rw[←hX];simp
 have bx:∀j v,(#[Value.int .i64 s.at_,.int .i64 (s.pos:Int),.slice ka n kc,.slice la ln lc,.int .i64 (s.far:Int),.slice xa xn xc,.int .i64 (s.steps:Int),.int .i64 (s.throws:Int),.bool s.done,.int .i64 s.code,.int .i64 s.label]:Array Value)[j]? = some v→X.cell? ⟨w.heap.size,j,none⟩=some v:=fun j v hv=>hX▸cellOn _ (cN w.heap.size rfl hv)
 have rx:∀j v,(#[Value.int .i64 0,.int .i64 0,.slice none 0 0,.slice none 0 0,.int .i64 0,.slice none 0 0,.int .i64 0,.int .i64 0,.bool false,.int .i64 0,.int .i64 0]:Array Value)[j]? = some v→X.cell? ⟨w.heap.size+1,j,none⟩=some v:=fun j v hv=>hX▸cN (w.heap.size+1) (by simp) hv
 have fx:∀b o,w.heap.size≤b→b<X.heap.size→X.frozen? ⟨b,o,none⟩=false:=hX▸((soft1 w _ 55).trans (soft1 _ _ 55) (bel1 _ _));have BXC:Hid _:=bx;have RXC:Hid _:=rx;have FX:Hid _:=fx;have XS:Hid (X.heap.size=w.heap.size+1+1):=xs;clear hX HK bx rx fx xs;have HVF:Hid (stV (s.fin 1) ka kc la lc xa xn xc=.agg #[.int .i64 s.at_,.int .i64 (s.pos:Int),.slice ka n kc,.slice la ln lc,.int .i64 (s.far:Int),.slice xa xn xc,.int .i64 (s.steps:Int),.int .i64 (s.throws:Int),.bool true,.int .i64 1,.int .i64 s.label]):=by
  show stV (s.fin 1) ka kc la lc xa xn xc=_;unfold stV MSt.fin;rw[HN.out,HLL.out]
 go_loopw [3] (fun i wr=>faI X n s i wr) (fun i _=>(intOf i+1).toNat)
 case atStart =>
  refine⟨?_,Below.refl _ _⟩;by_cases h0:n=0
  ·have hnil:s.st = []:=List.eq_nil_of_length_eq_zero (HN.out.trans h0)
   exact .inr ⟨by subst h0;rfl,by rw[hnil];rfl⟩
  ·exact .inl ⟨n-1,by omega,by congr 1;omega,by rw[List.take_of_length_le (by rw[HN.out];omega)]⟩
 case round =>
  obtain⟨hj,hbel⟩:=hrel;have hxs:=XS.out;have hwr:=hbel.size;have lw0:w.heap.size<wr.heap.size:=by omega
  have lw1:w.heap.size+1<wr.heap.size:=by omega
  have z0:=cell_on (BXC.out 0 (.int .i64 s.at_) rfl) hbel;have z1:=cell_on (BXC.out 1 (.int .i64 (s.pos:Int)) rfl) hbel;have z2:=cell_on (BXC.out 2 (.slice ka n kc) rfl) hbel;have z3:=cell_on (BXC.out 3 (.slice la ln lc) rfl) hbel;have z4:=cell_on (BXC.out 4 (.int .i64 (s.far:Int)) rfl) hbel;have z5:=cell_on (BXC.out 5 (.slice xa xn xc) rfl) hbel;have z6:=cell_on (BXC.out 6 (.int .i64 (s.steps:Int)) rfl) hbel;have z7:=cell_on (BXC.out 7 (.int .i64 (s.throws:Int)) rfl) hbel;have z8:=cell_on (BXC.out 8 (.bool s.done) rfl) hbel;have z9:=cell_on (BXC.out 9 (.int .i64 s.code) rfl) hbel;have z10:=cell_on (BXC.out 10 (.int .i64 s.label) rfl) hbel;have y0:=cell_on (RXC.out 0 (.int .i64 0) rfl) hbel;have y1:=cell_on (RXC.out 1 (.int .i64 0) rfl) hbel;have y2:=cell_on (RXC.out 2 (.slice none 0 0) rfl) hbel;have y3:=cell_on (RXC.out 3 (.slice none 0 0) rfl) hbel;have y4:=cell_on (RXC.out 4 (.int .i64 0) rfl) hbel;have y5:=cell_on (RXC.out 5 (.slice none 0 0) rfl) hbel;have y6:=cell_on (RXC.out 6 (.int .i64 0) rfl) hbel;have y7:=cell_on (RXC.out 7 (.int .i64 0) rfl) hbel;have y8:=cell_on (RXC.out 8 (.bool false) rfl) hbel;have y9:=cell_on (RXC.out 9 (.int .i64 0) rfl) hbel;have y10:=cell_on (RXC.out 10 (.int .i64 0) rfl) hbel;have fz:∀b o,w.heap.size≤b→b<X.heap.size→wr.frozen? ⟨b,o,none⟩=false:=fun b o h1 h2=>(hbel.frozen (p:=⟨b,o,none⟩) h2).trans (FX.out b o h1 h2)
  have p0:=fz w.heap.size 0 (by omega) (by omega)
  have p1:=fz w.heap.size 1 (by omega) (by omega)
  have p2:=fz w.heap.size 2 (by omega) (by omega)
  have p3:=fz w.heap.size 3 (by omega) (by omega)
  have q0:=fz (w.heap.size+1) 0 (by omega) (by omega)
  have q1:=fz (w.heap.size+1) 1 (by omega) (by omega)
  have q2:=fz (w.heap.size+1) 2 (by omega) (by omega)
  have q3:=fz (w.heap.size+1) 3 (by omega) (by omega)
  have q4:=fz (w.heap.size+1) 4 (by omega) (by omega)
  have q5:=fz (w.heap.size+1) 5 (by omega) (by omega)
  have q6:=fz (w.heap.size+1) 6 (by omega) (by omega)
  have q7:=fz (w.heap.size+1) 7 (by omega) (by omega)
  have q8:=fz (w.heap.size+1) 8 (by omega) (by omega)
  have q9:=fz (w.heap.size+1) 9 (by omega) (by omega)
  have q10:=fz (w.heap.size+1) 10 (by omega) (by omega)
  have HBE:Hid (Below X.heap.size X wr):=hbel;clear fz hxs hwr;rcases hj with⟨j,hj,rfl,hun⟩|⟨rfl,hun⟩
  ·have hjl:j<s.st.length:=by rw[HN.out];exact hj
   have hfr:=List.getElem?_eq_getElem hjl;have HIN:Hid (s.st[j]∈s.st):=List.getElem_mem hjl;generalize s.st[j]=fr at *;have HTK:Hid (s.st.take (j+1)=s.st.take j++[fr]):=unwind_take hfr;have HUN:Hid (unwind s.st.reverse=unwind (s.st.take (j+1)).reverse):=hun;rcases HF.out with h0 | ⟨b,rfl,hf⟩
   ·have:=HN.out;omega
   obtain⟨c0,c1,c2,c3⟩:=hf j fr hfr;have lb:=lt_of_cell c0;replace c0:=cell_on c0 hbel;replace c1:=cell_on c1 hbel;replace c2:=cell_on c2 hbel;replace c3:=cell_on c3 hbel;have lb2:=lt_of_cell c0;have hlt':(j:Int)<(n:Int):=by omega
   have hge:(0:Int)≤(j:Int):=by omega
   clear hf hfr hun hbel hjl lb;cases hq:(fr.kind != 2) with
   |false =>
    have hk2:Hid (fr.kind=2):=by show fr.kind=2;simpa using hq
    go_wp2;go_roundw
    case rel =>
     have hu:unwind s.st.reverse=unwind (s.st.take j).reverse:=by rw[HUN.out,HTK.out,unwind_snoc _ _ hk2.out]
     refine⟨?_,bel_tr HBE.out (bel1 wr _)⟩;by_cases h0:j=0
     ·exact .inr ⟨by subst h0;rfl,by rw[hu,h0];rfl⟩
     ·exact .inl ⟨j-1,by omega,by congr 1;omega,by rw[hu,show j-1+1=j by omega]⟩
    case measure=>simp[intOf]
   |true =>
    have hk2:fr.kind≠2:=by simpa using hq
    have hlg:=HLG.out fr HIN.out hk2;have HVR:Hid (stV s.fail (some ⟨b,0,none⟩) kc la lc xa xn xc=.agg #[.int .i64 fr.to,.int .i64 (fr.pos:Int),.slice (some ⟨b,0,none⟩) j kc,.slice la fr.log lc,.int .i64 (s.far:Int),.slice xa xn xc,.int .i64 (s.steps:Int),.int .i64 (s.throws:Int),.bool s.done,.int .i64 s.code,.int .i64 s.label]):=by
     show _=_;have hu:unwind s.st.reverse=some (fr,(s.st.take j).reverse):=by
      rw[HUN.out,HTK.out,List.reverse_append];show unwind (fr::(s.st.take j).reverse)=_;rw[unwind,if_neg hk2]
     have hl1:(s.st.take j).length=j:=by rw[List.length_take,HN.out];omega
     have hl2:(s.log.take fr.log).length=fr.log:=by rw[List.length_take,HLL.out];omega
     unfold MSt.fail;rw[hu];simp only[stV,List.reverse_reverse,hl1,hl2]
    clear hk2;have hl0:(0:Int)≤(fr.log:Int):=by omega
    have hl3:(fr.log:Int)≤(lc:Int):=by omega
    have hj3:(j:Int)≤(kc:Int):=by omega
    go_wp2;have HB:Hid (Below w.heap.size w wr):=bel_tr HX.out HBE.out;refine bodyPost_ret (v:=stV s.fail (some ⟨b,0,none⟩) kc la lc xa xn xc) ?_ rfl ?_
    ·rw[HVR.out]
     simp[results,Tryz.f44,go_sem, *]
    ·exact⟨rfl,bel_tr (bel_set (bel_set (bel_set (bel_set (bel_set (bel_set (bel_set (bel_set (bel_set (bel_set (bel_set (bel_set (bel_set (bel_set (bel_set (HB.out) _ _ _ (by omega)) _ _ _ (by omega)) _ _ _ (by omega)) _ _ _ (by omega)) _ _ _ (by omega)) _ _ _ (by omega)) _ _ _ (by omega)) _ _ _ (by omega)) _ _ _ (by omega)) _ _ _ (by omega)) _ _ _ (by omega)) _ _ _ (by omega)) _ _ _ (by omega)) _ _ _ (by omega)) _ _ _ (by omega)) (bel1 _ _)⟩
  ·have hn1:¬(0:Int)≤-1:=by omega
   have HUN:Hid (unwind s.st.reverse=none):=hun;have HVE:Hid (stV s.fail ka kc la lc xa xn xc=stV (s.fin 1) ka kc la lc xa xn xc):=by
    show _=_;unfold MSt.fail;rw[HUN.out]
   clear hun hbel;go_wp2_with fail;have hc:=l4end_any s ka la xa kc lc xn xc 1 wr;rw[HV.out]at hc;refine hc.mono ?_;rintro e W ⟨rfl,hb⟩;rw[HVF.out];replace y0:=cell_on y0 hb;replace y1:=cell_on y1 hb;replace y2:=cell_on y2 hb;replace y3:=cell_on y3 hb;replace y4:=cell_on y4 hb;replace y5:=cell_on y5 hb;replace y6:=cell_on y6 hb;replace y7:=cell_on y7 hb;replace y8:=cell_on y8 hb;replace y9:=cell_on y9 hb;replace y10:=cell_on y10 hb;replace q0:=(hb.frozen (p:=⟨w.heap.size+1,0,none⟩) lw1).trans q0;replace q1:=(hb.frozen (p:=⟨w.heap.size+1,1,none⟩) lw1).trans q1;replace q2:=(hb.frozen (p:=⟨w.heap.size+1,2,none⟩) lw1).trans q2;replace q3:=(hb.frozen (p:=⟨w.heap.size+1,3,none⟩) lw1).trans q3;replace q4:=(hb.frozen (p:=⟨w.heap.size+1,4,none⟩) lw1).trans q4;replace q5:=(hb.frozen (p:=⟨w.heap.size+1,5,none⟩) lw1).trans q5;replace q6:=(hb.frozen (p:=⟨w.heap.size+1,6,none⟩) lw1).trans q6;replace q7:=(hb.frozen (p:=⟨w.heap.size+1,7,none⟩) lw1).trans q7;replace q8:=(hb.frozen (p:=⟨w.heap.size+1,8,none⟩) lw1).trans q8;replace q9:=(hb.frozen (p:=⟨w.heap.size+1,9,none⟩) lw1).trans q9;replace q10:=(hb.frozen (p:=⟨w.heap.size+1,10,none⟩) lw1).trans q10;have HB:Hid (Below w.heap.size w W):=bel_tr HX.out (bel_tr HBE.out hb);have lw2:w.heap.size+1<W.heap.size:=lt_of_cell y0;clear hb hc z0 z1 z2 z3 z4 z5 z6 z7 z8 z9 z10;go_wp2;refine bodyPost_ret (v:=stV s.fail ka kc la lc xa xn xc) ?_ rfl ?_
   ·rw[HVE.out,HVF.out]
    simp[results,Tryz.f44,go_sem, *]
   ·exact⟨rfl,bel_set (bel_set (bel_set (bel_set (bel_set (bel_set (bel_set (bel_set (bel_set (bel_set (bel_set HB.out _ _ _ (by omega)) _ _ _ (by omega)) _ _ _ (by omega)) _ _ _ (by omega)) _ _ _ (by omega)) _ _ _ (by omega)) _ _ _ (by omega)) _ _ _ (by omega)) _ _ _ (by omega)) _ _ _ (by omega)) _ _ _ (by omega)⟩
end
section
open Go.RowKit
def Wr(w:World)(g n:Nat):Prop:=∀j,j<n→(w.cell? ⟨g,j,none⟩).isSome=true∧w.frozen? ⟨g,j,none⟩=false
def OwnC(Q:Nat→Prop)(w:World)(v:Value)(sz n:Nat)(cs:List Value):Prop :=
 (v=.slice none 0 0∧n=0∧cs = [])∨∃g cap,v=.slice (some ⟨g,0,none⟩) n cap∧Q g∧cs.length=n*sz∧n≤cap∧(∀j,j<cs.length→w.cell? ⟨g,j,none⟩=cs[j]?)∧Wr w g (cap*sz)
structure Grew(Q:Nat→Prop)(w w':World):Prop where
 os:w'.os=w.os
 tape:w'.tape=w.tape
 output:w'.output=w.output
 size:w.heap.size≤w'.heap.size
 block:∀b,b<w.heap.size→¬Q b→w'.heap[b]? = w.heap[b]?
 frozen:∀b o,b<w.heap.size→w'.frozen? ⟨b,o,none⟩=w.frozen? ⟨b,o,none⟩
 fresh:∀b o,w.heap.size≤b→b<w'.heap.size→w'.frozen? ⟨b,o,none⟩=false
theorem Soft.grew{Q:Nat→Prop}{w0 w w':World}(h:Soft w0 w)(g:Grew Q w w'):Soft w0 w':=fun b o h1 h2=>by
 by_cases e:b<w.heap.size
 ·rw[g.frozen b o e];exact h b o h1 e
 ·exact g.fresh b o (by omega) h2
theorem Wr.later{w w':World}{g n:Nat}(h:Wr w g n)(k:w'.heap[g]? = w.heap[g]?):Wr w' g n:=fun j hj=>by
 rw[World.cell?_of_block (a:=⟨g,j,none⟩) k,World.frozen?_of_block (a:=⟨g,j,none⟩) k];exact h j hj
theorem OwnC.on{Q:Nat→Prop}{w w':World}{v:Value}{sz n:Nat}{cs:List Value}(h:OwnC Q w v sz n cs)(k:Stay Q w w'):OwnC Q w' v sz n cs:=by
 rcases h with h | ⟨g,cap,h1,h2,h3,h4,h5,h6⟩
 ·exact .inl h
 ·exact .inr ⟨g,cap,h1,h2,h3,h4,fun j hj=>by rw[World.cell?_of_block (a:=⟨g,j,none⟩) (k g h2)];exact h5 j hj,h6.later (k g h2)⟩
theorem setCells_block(g:Nat):∀(vs:List Value) (o:Nat) (w:World) (b:Nat),b≠g→(w.setCells g o vs).heap[b]? = w.heap[b]?
 | [],_,_,_,_=>rfl
 |v::r,o,w,b,h=>by
  show ((w.setCell ⟨g,o,none⟩ v).setCells g (o+1) r).heap[b]? = _;rw[setCells_block g r (o+1) _ b h,Below.heap_setCell _ _ _ _ h]
theorem setCells_size(g:Nat):∀(vs:List Value) (o:Nat) (w:World),(w.setCells g o vs).heap.size=w.heap.size
 | [],_,_=>rfl
 |v::r,o,w=>by
  show ((w.setCell ⟨g,o,none⟩ v).setCells g (o+1) r).heap.size=_;rw[setCells_size g r (o+1) _,size_set]
theorem setCells_os(g:Nat):∀(vs:List Value) (o:Nat) (w:World),(w.setCells g o vs).os=w.os∧(w.setCells g o vs).tape=w.tape∧(w.setCells g o vs).output=w.output
 | [],_,_=>⟨rfl,rfl,rfl⟩
 |v::r,o,w=>setCells_os g r (o+1) (w.setCell ⟨g,o,none⟩ v)
theorem appC_run{Q:Nat→Prop}{w:World}{v x:Value}{sz n m:Nat}{cs news:List Value}{t tx e:TypeId}(ty:TypeId){i:TypeInfo}{z:Value}{bytes:Nat}(ht:Tryz.prog.underlying t=some (.slice e))(hi:Tryz.prog.info? e=some i)(hz0:i.zero=some z)(hz1:i.size=sz)(hz2:i.bytes=bytes)
  (hzc:z.cells.size=sz) (hown:OwnC Q w v sz n cs) (hs:Src Tryz.prog sz tx x m news w) (hlen:n+m≤16777216) (hb:bytes≤64) (hm:v=.slice none 0 0→0<m) :
  ∃v' w',(Builtin.append_ #[t,tx] ty #[v,x]).run Tryz.prog w=.ok v' w'∧OwnC (fun b=>Q b∨w.heap.size≤b) w' v' sz (n+m) (cs++news)∧Grew (fun b=>Q b) w w'∧w'.heap.size≤w.heap.size+1:=by
 subst hz1;have grow:∀(base:Option Addr) (cap:Nat) (hf:(Builtin.firstCells i.size n (.slice base n cap)).run Tryz.prog w.drew=.ok cs.toArray w.drew),cs.length=n*i.size→cap<n+m→v=.slice base n cap →
   ∃v' w',(Builtin.append_ #[t,tx] ty #[v,x]).run Tryz.prog w=.ok v' w'∧OwnC (fun b=>Q b∨w.heap.size≤b) w' v' i.size (n+m) (cs++news)∧Grew (fun b=>Q b) w w'∧w'.heap.size≤w.heap.size+1:=by
  rintro base cap hf hcl hfull rfl;have hr:=run_append_grow_src (P:=Tryz.prog) w t tx ty e i z ht hi hz0 base n cap cs hf x m news hs hfull (by omega) (by rw[hz2];exact growslice_fits hfull (by have:(n+m)*bytes≤16777216*64:=Nat.mul_le_mul hlen hb;omega))
  have hge:=grownCap_ge w (n+m) cap e;refine⟨_,_,hr,.inr ⟨w.heap.size,_,rfl,.inr (Nat.le_refl _),by rw[List.length_append,hcl,hs.newsLen,Nat.add_mul],hge,fun j hj=>?_,fun j hj=>⟨?_,?_⟩⟩,⟨rfl,rfl,rfl,by simp,fun b hb _=>Below.heap_alloc w.drew _ _ hb,fun b o hb=>World.frozen?_of_block (a:=⟨b,o,none⟩) (Below.heap_alloc w.drew _ _ hb),fun b o h1 h2=>soft1 w.drew _ e b o h1 h2⟩,by simp⟩
  ·have h:=World.alloc_heap_new w.drew (Obj.cells ((cs++news).toArray++Builtin.zeroCells z.cells (grownCap w (n+m) cap e-(n+m))) e)
   have h':(w.drew.alloc (Obj.cells ((cs++news).toArray++Builtin.zeroCells z.cells (grownCap w (n+m) cap e-(n+m))) e)).heap[w.heap.size]? = some (Obj.cells ((cs++news).toArray++Builtin.zeroCells z.cells (grownCap w (n+m) cap e-(n+m))) e):=h;simp only[World.cell?,h'];rw[Array.getElem?_append_left (by simpa using hj)]
   simp
  ·have h:=World.alloc_heap_new w.drew (Obj.cells ((cs++news).toArray++Builtin.zeroCells z.cells (grownCap w (n+m) cap e-(n+m))) e)
   have h':(w.drew.alloc (Obj.cells ((cs++news).toArray++Builtin.zeroCells z.cells (grownCap w (n+m) cap e-(n+m))) e)).heap[w.heap.size]? = some (Obj.cells ((cs++news).toArray++Builtin.zeroCells z.cells (grownCap w (n+m) cap e-(n+m))) e):=h;simp only[World.cell?,h'];have hsz:((cs++news).toArray++Builtin.zeroCells z.cells (grownCap w (n+m) cap e-(n+m))).size=grownCap w (n+m) cap e*i.size:=by
    simp only[Array.size_append,List.size_toArray,List.length_append,hcl,hs.newsLen,size_zeroCells,hzc];generalize grownCap w (n+m) cap e=G at hge ⊢;obtain⟨k,rfl⟩:∃k,G=n+m+k:=⟨G-(n+m),by omega⟩
    rw[show n+m+k-(n+m)=k by omega,Nat.add_mul,Nat.add_mul]
   rw[Array.getElem?_eq_getElem (by rw[hsz];exact hj)]
   rfl
  ·have h:=World.alloc_heap_new w.drew (Obj.cells ((cs++news).toArray++Builtin.zeroCells z.cells (grownCap w (n+m) cap e-(n+m))) e)
   have h':(w.drew.alloc (Obj.cells ((cs++news).toArray++Builtin.zeroCells z.cells (grownCap w (n+m) cap e-(n+m))) e)).heap[w.heap.size]? = some (Obj.cells ((cs++news).toArray++Builtin.zeroCells z.cells (grownCap w (n+m) cap e-(n+m))) e):=h;simp only[World.frozen?,h'];simp
 rcases hown with⟨rfl,rfl,rfl⟩|⟨g,cap,rfl,hQ,hcl,hnc,hc,hw⟩
 ·exact grow none 0 (by rw[run_firstCells_none]) (by simp) (by have:=hm rfl;omega) rfl
 ·by_cases hroom:n+m≤cap
  ·have hr:=run_append_room_src (P:=Tryz.prog) w t tx ty e i ht hi g 0 n cap x m news hs hroom
    (fun j hj=>by rw[Nat.zero_add];rw[hs.newsLen]at hj;exact (hw _ (by have:(n+m)*i.size≤cap*i.size:=Nat.mul_le_mul_right _ hroom;rw[Nat.add_mul]at this;omega)).1)
    (fun j hj=>by rw[Nat.zero_add];rw[hs.newsLen]at hj;exact (hw _ (by have:(n+m)*i.size≤cap*i.size:=Nat.mul_le_mul_right _ hroom;rw[Nat.add_mul]at this;omega)).2)
   rw[Nat.zero_add]at hr;have hcap:(n+m)*i.size≤cap*i.size:=Nat.mul_le_mul_right _ hroom;rw[Nat.add_mul]at hcap;have hnl:=hs.newsLen;obtain⟨o1,o2,o3⟩:=setCells_os g news (n*i.size) w;refine⟨_,_,hr,.inr ⟨g,cap,rfl,.inl hQ,by rw[List.length_append,hcl,hs.newsLen,Nat.add_mul],by omega,fun j hj=>?_,fun j hj=>⟨?_,?_⟩⟩,⟨o1,o2,o3,by rw[setCells_size];exact Nat.le_refl _,fun b _ hb=>setCells_block g _ _ _ _ (fun e=>hb (e▸hQ)),fun b o _=>World.frozen?_setCells _ _ _ _ _,fun b o h1 h2=>by rw[setCells_size]at h2;omega⟩,by rw[setCells_size];omega⟩
   ·rw[List.length_append,hnl]at hj
    by_cases hlt:j<n*i.size
    ·rw[World.cell?_setCells_out g _ _ w _ (fun _ _=>Or.inl hlt),List.getElem?_append_left (by omega)]
     exact hc j (by omega)
    ·have h2:=World.cell?_setCells_in g news (n*i.size) w (fun k hk=>(hw _ (by omega)).1) (j-n*i.size) (by omega)
     rw[show n*i.size+(j-n*i.size)=j by omega]at h2
     rw[h2,List.getElem?_append_right (by omega),hcl,List.getElem?_eq_getElem (by omega)]
   ·by_cases hin:n*i.size≤j∧j<n*i.size+news.length
    ·have h2:=World.cell?_setCells_in g news (n*i.size) w (fun k hk=>(hw _ (by omega)).1) (j-n*i.size) (by omega)
     rw[show n*i.size+(j-n*i.size)=j by omega]at h2
     rw[h2];rfl
    ·rw[World.cell?_setCells_out g _ _ w _ (fun _ _=>by simp;omega)]
     exact (hw j hj).1
   ·rw[World.frozen?_setCells]
    exact (hw j hj).2
  ·exact grow (some ⟨g,0,none⟩) cap (run_firstCells_some (P:=Tryz.prog) w.drew i.size n ⟨g,0,none⟩ n cap cs hcl (fun j u hu=>by
    have hj:j<cs.length:=(List.getElem?_eq_some_iff.1 hu).1;have e':(⟨g,0,none⟩:Addr).add j=⟨g,j,none⟩:=by
     by_cases h0:j=0
     ·subst h0;simp[Addr.add]
     ·simp[Addr.add,h0]
    rw[e',←hu];exact hc j hj)) hcl (by omega) rfl
structure ElemT(t e:TypeId)(sz bytes:Nat):Prop where
 und:Tryz.prog.underlying t=some (.slice e)
 info:∃z,(Tryz.prog.info? e).map (fun i=>(i.zero,i.size,i.bytes))=some (some z,sz,bytes)∧z.cells.size=sz
 bytes:bytes≤64
theorem appC_run'{Q:Nat→Prop}{w:World}{v x:Value}{sz bytes n m:Nat}{cs news:List Value}{t tx e:TypeId}(ty:TypeId)(hE:ElemT t e sz bytes)(hown:OwnC Q w v sz n cs)(hs:Src Tryz.prog sz tx x m news w)(hlen:n+m≤16777216)(hm:v=.slice none 0 0→0<m) :
  ∃v' w',(Builtin.append_ #[t,tx] ty #[v,x]).run Tryz.prog w=.ok v' w'∧OwnC (fun b=>Q b∨w.heap.size≤b) w' v' sz (n+m) (cs++news)∧Grew (fun b=>Q b) w w'∧w'.heap.size≤w.heap.size+1:=by
 obtain⟨z,hi,hzc⟩:=hE.info;obtain⟨i,hi',hzz⟩:=Option.map_eq_some_iff.1 hi;simp only[Prod.mk.injEq]at hzz;obtain⟨hz0,hz1,hz2⟩:=hzz;exact appC_run ty hE.und hi' hz0 hz1 hz2 hzc hown hs hlen hE.bytes hm
theorem appC{ops:Array Oper}{rest:List Oper}{o:Oper}{a:Act}{P':Exit→Act→World→Prop}{w:World}(hgd:o.guard=none)(s x:Operand)(t tx:TypeId)(ho:o.op=.call { callee:=.builtin .append,args:=#[s,x],argTypes:=#[t,tx] })
  {Q:Nat→Prop} {v y:Value} {e:TypeId} {sz bytes n m:Nat} {cs news:List Value} (hs:a.eval s=v) (hx:a.eval x=y) (hE:ElemT t e sz bytes) (hown:OwnC Q w v sz n cs) (hsrc:Src Tryz.prog sz tx y m news w) (hlen:n+m≤16777216) (hm:v=.slice none 0 0→0<m)
  (h:∀v' w',OwnC (fun b=>Q b∨w.heap.size≤b) w' v' sz (n+m) (cs++news)→Grew (fun b=>Q b) w w'→w'.heap.size≤w.heap.size+1→wpList Tryz.prog ops P' rest (a.put o.dst v') w'):wpList Tryz.prog ops P' (o::rest) a w:=by
 refine wpList_plain hgd fun K hK=>?_
 obtain⟨v',w',hr,h1,h2,h3⟩:=appC_run' o.type hE hown hsrc hlen hm;unfold Oper.wp execOp;simp only[ho,resolve,invoke,builtin,Sem.run_bind,Sem.run_pure,Result.andThen_ok,List.map_toArray,List.map_cons,List.map_nil,hs,hx,hr];exact hK _ _ (h v' w' h1 h2 h3)
theorem stepC{ops:Array Oper}{o:Oper}{a:Act}{w:World}{K:Act→World→Prop}{P':Exit→Act→World→Prop}{E:Prop}(hgd:o.guard=none)(s x:Operand)(t tx:TypeId)(ho:o.op=.call { callee:=.builtin .append,args:=#[s,x],argTypes:=#[t,tx] })
  {Q:Nat→Prop} {v y:Value} {e:TypeId} {sz bytes n m:Nat} {cs news:List Value} (hs:a.eval s=v) (hx:a.eval x=y) (hE:ElemT t e sz bytes) (hown:OwnC Q w v sz n cs) (hsrc:Src Tryz.prog sz tx y m news w) (hlen:n+m≤16777216) (hm:v=.slice none 0 0→0<m)
  (h:∀v' w',OwnC (fun b=>Q b∨w.heap.size≤b) w' v' sz (n+m) (cs++news)→Grew (fun b=>Q b) w w'→w'.heap.size≤w.heap.size+1→K (a.put o.dst v') w'):if Region.wanted o (yielded ops a.tmps)=true then Oper.wp Tryz.prog o a w K P' else E:=by
 have hw:Region.wanted o (yielded ops a.tmps)=true:=by simp[Region.wanted,hgd]
 rw[if_pos hw];obtain⟨v',w',hr,h1,h2,h3⟩:=appC_run' o.type hE hown hsrc hlen hm;unfold Oper.wp execOp;simp only[ho,resolve,invoke,builtin,Sem.run_bind,Sem.run_pure,Result.andThen_ok,List.map_toArray,List.map_cons,List.map_nil,hs,hx,hr];exact h v' w' h1 h2 h3
theorem elem33:ElemT 33 3 1 8:=⟨Tryz.underlying33,⟨_,info3',rfl⟩,by omega⟩
theorem elem22:ElemT 22 5 1 1:=⟨Tryz.underlying22,⟨_,info5,rfl⟩,by omega⟩
theorem elem42:ElemT 42 77 3 40:=⟨Tryz.underlying42,⟨_,info77,rfl⟩,by omega⟩
theorem elem23:ElemT 23 44 2 48:=⟨Tryz.underlying23,⟨_,info44,rfl⟩,by omega⟩
end
end Go.Proofs.YtcbnnfnlilbjeaaGreat
