import Derived.Test.YtcbnnfnlilbjeaaGreatT01
import Derived.Test.YtcbnnfnlilbjeaaGreatT04
import Derived.Test.YtcbnnfnlilbjeaaGreatT03
import Derived.Shelf.RegionOpen
set_option linter.unusedVariables false
set_option linter.unusedSimpArgs false
namespace Go.Proofs.YtcbnnfnlilbjeaaGreat
section
open Go.RowKit Go.Deep
open M (OpD NodeD Gr InsD EX ins)
def InsC(Q:Nat→Prop)(w:World)(b o:Nat)(d:InsD):Prop :=
 w.cell? ⟨b,o,none⟩=some (.int .i64 d.kind)∧w.cell? ⟨b,o+1,none⟩=some (.int .i64 d.arg)∧w.cell? ⟨b,o+2,none⟩=some (.int .i64 d.to) ∧
  ∃sa sc,w.cell? ⟨b,o+3,none⟩=some (.slice sa d.sl sc)∧Ints Q .i64 w sa d.sl d.set
def InsA(Q:Nat→Prop)(w:World)(a:Option Addr)(n:Nat)(R:Nat→InsD):Prop :=
 n=0∨∃b off,a=some ⟨b,off,none⟩∧Q b∧∀i,i<n→InsC Q w b (off+i*4) (R i)
theorem InsA.on{Q:Nat→Prop}{w w':World}{a:Option Addr}{n:Nat}{R:Nat→InsD}(h:InsA Q w a n R)(k:Stay Q w w'):InsA Q w' a n R:=by
 rcases h with h | ⟨b,off,e,hq,h⟩
 ·exact .inl h
 ·have hc:∀o,w'.cell? ⟨b,o,none⟩=w.cell? ⟨b,o,none⟩:=fun o=>World.cell?_of_block (a:=⟨b,o,none⟩) (k b hq)
  refine .inr ⟨b,off,e,hq,fun i hi=>?_⟩
  obtain⟨h0,h1,h2,sa,sc,h3,h4⟩:=h i hi;exact⟨(hc _).trans h0,(hc _).trans h1,(hc _).trans h2,sa,sc,(hc _).trans h3,h4.on k⟩
theorem InsA.later{Q:Nat→Prop}{w w':World}{a:Option Addr}{n:Nat}{R:Nat→InsD}(h:InsA Q w a n R)(k:Below w.heap.size w w'):InsA Q w' a n R:=by
 rcases h with h | ⟨b,off,e,hq,h⟩
 ·exact .inl h
 ·refine .inr ⟨b,off,e,hq,fun i hi=>?_⟩
  obtain⟨h0,h1,h2,sa,sc,h3,h4⟩:=h i hi;exact⟨cell_on h0 k,cell_on h1 k,cell_on h2 k,sa,sc,cell_on h3 k,h4.later k⟩
theorem InsA.wide{Q Q':Nat→Prop}{w:World}{a:Option Addr}{n:Nat}{R:Nat→InsD}(h:InsA Q w a n R)(k:∀b,Q b→Q' b):InsA Q' w a n R:=by
 rcases h with h | ⟨b,off,e,hq,h⟩
 ·exact .inl h
 ·refine .inr ⟨b,off,e,k b hq,fun i hi=>?_⟩
  obtain⟨h0,h1,h2,sa,sc,h3,h4⟩:=h i hi;exact⟨h0,h1,h2,sa,sc,h3,h4.wide k⟩
theorem info52:(Tryz.prog.info? 52).map (fun i=>(i.zero,i.size,i.bytes))=some (some (.agg #[.int .i64 0,.int .i64 0,.int .i64 0,.slice none 0 0]),4,48):=by kernel_rfl
def put4(w:World)(b o:Nat)(v0 v1 v2 v3:Value):World:=(put3 w b o v0 v1 v2).setCell ⟨b,o+3,none⟩ v3
theorem put4_other{w:World}{b o j:Nat}{v0 v1 v2 v3:Value}(h:j<o∨o+3<j):(put4 w b o v0 v1 v2 v3).cell? ⟨b,j,none⟩=w.cell? ⟨b,j,none⟩:=by
 unfold put4;rw[cell_set_other (by omega),put3_other (by omega)]
theorem put4_stay{Q:Nat→Prop}{w:World}{b o:Nat}{v0 v1 v2 v3:Value}(h:¬Q b):Stay Q w (put4 w b o v0 v1 v2 v3):=(put3_stay h).trans (stay_set _ ⟨b,o+3,none⟩ _ h)
theorem InsC.put{Q:Nat→Prop}{w:World}{b o o':Nat}{d:InsD}{v0 v1 v2 v3:Value}(h:InsC Q w b o d)(hq:¬Q b)(ho:o+3<o'∨o'+3<o):InsC Q (put4 w b o' v0 v1 v2 v3) b o d:=by
 obtain⟨h0,h1,h2,a,c,h3,h4⟩:=h;exact⟨(put4_other (by omega)).trans h0,(put4_other (by omega)).trans h1,(put4_other (by omega)).trans h2,a,c,(put4_other (by omega)).trans h3,h4.on (put4_stay hq)⟩
theorem InsC.later{Q:Nat→Prop}{w w':World}{b o:Nat}{d:InsD}(h:InsC Q w b o d)(k:Below w.heap.size w w'):InsC Q w' b o d:=by
 obtain⟨h0,h1,h2,a,c,h3,h4⟩:=h;exact⟨cell_on h0 k,cell_on h1 k,cell_on h2 k,a,c,cell_on h3 k,h4.later k⟩
theorem InsC.wide{Q Q':Nat→Prop}{w:World}{b o:Nat}{d:InsD}(h:InsC Q w b o d)(k:∀b,Q b→Q' b):InsC Q' w b o d:=by
 obtain⟨h0,h1,h2,a,c,h3,h4⟩:=h;exact⟨h0,h1,h2,a,c,h3,h4.wide k⟩
section
variable {H:Type} {enc:TypeId×Value→H} {w:World} {base:Nat} {spare:Nat→Bool} {held:Bool}
instance:Inhabited InsD:=⟨ins 0 0 0⟩
end
def set3(w:World)(b o:Nat)(x y z:Int):World:=((w.setCell ⟨b,o,none⟩ (.int .i64 x)).setCell ⟨b,o+1,none⟩ (.int .i64 y)).setCell ⟨b,o+2,none⟩ (.int .i64 z)
def from_(k:Int):Nat→Int:=fun i=>k+i
end
section
open Go.RowKit
open M (OpD NodeD Gr InsD)
structure EvD where
 kind:Int
 arg:Int
 pos:Int
def EvC(w:World)(b o:Nat)(d:EvD):Prop:=w.cell? ⟨b,o,none⟩=some (.int .i64 d.kind)∧w.cell? ⟨b,o+1,none⟩=some (.int .i64 d.arg)∧w.cell? ⟨b,o+2,none⟩=some (.int .i64 d.pos)
def EvA(Q:Nat→Prop)(w:World)(a:Option Addr)(n:Nat)(E:Nat→EvD):Prop :=
 n=0∨∃b off,a=some ⟨b,off,none⟩∧Q b∧∀i,i<n→EvC w b (off+i*3) (E i)
theorem EvA.on{Q:Nat→Prop}{w w':World}{a:Option Addr}{n:Nat}{R:Nat→EvD}(h:EvA Q w a n R)(k:Stay Q w w'):EvA Q w' a n R:=by
 rcases h with h | ⟨b,off,e,hq,h⟩
 ·exact .inl h
 ·have hc:∀o,w'.cell? ⟨b,o,none⟩=w.cell? ⟨b,o,none⟩:=fun o=>World.cell?_of_block (a:=⟨b,o,none⟩) (k b hq)
  exact .inr ⟨b,off,e,hq,fun i hi=>⟨(hc _).trans (h i hi).1,(hc _).trans (h i hi).2.1,(hc _).trans (h i hi).2.2⟩⟩
theorem EvA.later{Q:Nat→Prop}{w w':World}{a:Option Addr}{n:Nat}{R:Nat→EvD}(h:EvA Q w a n R)(k:Below w.heap.size w w'):EvA Q w' a n R:=by
 rcases h with h | ⟨b,off,e,hq,h⟩
 ·exact .inl h
 ·exact .inr ⟨b,off,e,hq,fun i hi=>⟨cell_on (h i hi).1 k,cell_on (h i hi).2.1 k,cell_on (h i hi).2.2 k⟩⟩
theorem EvA.wide{Q Q':Nat→Prop}{w:World}{a:Option Addr}{n:Nat}{R:Nat→EvD}(h:EvA Q w a n R)(k:∀b,Q b→Q' b):EvA Q' w a n R:=by
 rcases h with h | ⟨b,off,e,hq,h⟩
 ·exact .inl h
 ·exact .inr ⟨b,off,e,k b hq,h⟩
structure OutD where
 code:Int
 pos:Int
 label:Int
 far:Int
 en:Nat
 ex:Nat→Int
 steps:Int
 throws:Int
 vn:Nat
 ev:Nat→EvD
def outV(o:OutD)(ea:Option Addr)(ec:Nat)(va:Option Addr)(vc:Nat):Value :=
 .agg #[.int .i64 o.code,.int .i64 o.pos,.int .i64 o.label,.int .i64 o.far,.slice ea o.en ec,.int .i64 o.steps,.int .i64 o.throws,.slice va o.vn vc]
structure OutA(Q:Nat→Prop)(w:World)(o:OutD)(ea va:Option Addr):Prop where
 ex:Ints Q .i64 w ea o.en o.ex
 ev:EvA Q w va o.vn o.ev
theorem OutA.on{Q:Nat→Prop}{w w':World}{o:OutD}{ea va:Option Addr}(h:OutA Q w o ea va)(k:Stay Q w w'):OutA Q w' o ea va:=⟨h.ex.on k,h.ev.on k⟩
theorem OutA.later{Q:Nat→Prop}{w w':World}{o:OutD}{ea va:Option Addr}(h:OutA Q w o ea va)(k:Below w.heap.size w w'):OutA Q w' o ea va:=⟨h.ex.later k,h.ev.later k⟩
def EvW(Q:Nat→Prop)(w:World)(a:Option Addr)(n:Nat)(E:Nat→EvD):Prop :=
 n=0∨∃b,a=some ⟨b,0,none⟩∧Q b∧(∀j,j<n*3→w.frozen? ⟨b,j,none⟩=false)∧∀i,i<n→EvC w b (i*3) (E i)
theorem EvW.on{Q:Nat→Prop}{w w':World}{a:Option Addr}{n:Nat}{R:Nat→EvD}(h:EvW Q w a n R)(k:Stay Q w w'):EvW Q w' a n R:=by
 rcases h with h | ⟨b,e,hq,hf,h⟩
 ·exact .inl h
 ·have hc:∀o,w'.cell? ⟨b,o,none⟩=w.cell? ⟨b,o,none⟩:=fun o=>World.cell?_of_block (a:=⟨b,o,none⟩) (k b hq)
  exact .inr ⟨b,e,hq,fun j hj=>(World.frozen?_of_block (a:=⟨b,j,none⟩) (k b hq)).trans (hf j hj),fun i hi=>⟨(hc _).trans (h i hi).1,(hc _).trans (h i hi).2.1,(hc _).trans (h i hi).2.2⟩⟩
theorem EvW.ev{Q:Nat→Prop}{w:World}{a:Option Addr}{n:Nat}{R:Nat→EvD}(h:EvW Q w a n R):EvA Q w a n R:=by
 rcases h with h | ⟨b,e,hq,hf,h⟩
 ·exact .inl h
 ·exact .inr ⟨b,0,e,hq,fun i hi=>by rw[Nat.zero_add];exact h i hi⟩
structure OutW(Q1 Q2:Nat→Prop)(w:World)(o:OutD)(ea va:Option Addr):Prop where
 ex:Ints Q1 .i64 w ea o.en o.ex
 soft:SoftQ Q1 w
 ev:EvW Q2 w va o.vn o.ev
 apart:∀b,Q1 b→¬Q2 b
 lt:∀b,Q1 b∨Q2 b→b<w.heap.size
theorem OutW.on{Q1 Q2:Nat→Prop}{w w':World}{o:OutD}{ea va:Option Addr}(h:OutW Q1 Q2 w o ea va)(k:Stay (fun b=>Q1 b∨Q2 b) w w')(hs:w.heap.size≤w'.heap.size):OutW Q1 Q2 w' o ea va :=
 ⟨h.ex.on (fun b hb=>k b (.inl hb)),fun b j hb=>(World.frozen?_of_block (a:=⟨b,j,none⟩) (k b (.inl hb))).trans (h.soft b j hb),h.ev.on (fun b hb=>k b (.inr hb)),h.apart,fun b hb=>Nat.lt_of_lt_of_le (h.lt b hb) hs⟩
theorem OutW.out{Q1 Q2:Nat→Prop}{w:World}{o:OutD}{ea va:Option Addr}(h:OutW Q1 Q2 w o ea va):OutA (fun b=>Q1 b∨Q2 b) w o ea va:=⟨h.ex.wide (fun b q=>.inl q),h.ev.ev.wide (fun b q=>.inr q)⟩
end
section
open Go.RowKit
open M (OpD NodeD Gr InsD)
def hasP(S:Nat→Int)(b:Int):Nat→Bool
 |0=>false
 |m+1=>hasP S b m||(decide (S (2*m)≤b)&&decide (b≤S (2*m+1)))
def hasN(n:Nat)(S:Nat→Int)(b:Int):Bool:=hasP S b (n / 2)
theorem hasP_mono(S:Nat→Int)(b:Int){m n:Nat}(h:m≤n)(k:hasP S b m=true):hasP S b n=true:=by
 induction n with
 |zero =>
  obtain rfl:m=0:=by omega
  exact k
 |succ n ih =>
  by_cases e:m=n+1
  ·subst e;exact k
  ·rw[hasP,ih (by omega)];rfl
def Tells(v:Bool)(w:World)(e:Ending)(w':World):Prop:=e=.returned (.bool v)∧w'=w
def GivesV(v:Value)(w:World)(e:Ending)(w':World):Prop:=e=.returned v∧Below w.heap.size w w'
def TellsB(v:Bool)(w:World)(e:Ending)(w':World):Prop:=e=.returned (.bool v)∧Below w.heap.size w w'
structure FrD where
 kind:Int
 to:Int
 pos:Nat
 log:Nat
structure MSt where
 at_:Int
 pos:Nat
 st:List FrD
 log:List EvD
 far:Nat
 exp:Nat→Bool
 steps:Nat
 throws:Nat
 done:Bool
 code:Int
 label:Int
def MSt.inNot(s:MSt):Bool:=s.st.any (fun f=>f.kind==1)
def MSt.fin(s:MSt)(c:Int):MSt:={ s with done:=true,code:=c }
def MSt.push(s:MSt)(f:FrD)(most:Int):MSt:=if (s.st.length:Int) ≥ most then s.fin 3 else { s with st:=s.st++[f] }
def unwind:List FrD→Option (FrD×List FrD)
 | []=>none
 |f::r=>if f.kind=2 then unwind r else some (f,r)
def MSt.fail(s:MSt):MSt :=
 match unwind s.st.reverse with
 |none=>s.fin 1
 |some (f,r)=>{ s with st:=r.reverse,pos:=f.pos,log:=s.log.take f.log,at_:=f.to }
def FrC(w:World)(b o:Nat)(f:FrD):Prop:=w.cell? ⟨b,o,none⟩=some (.int .i64 f.kind)∧w.cell? ⟨b,o+1,none⟩=some (.int .i64 f.to)∧w.cell? ⟨b,o+2,none⟩=some (.int .i64 (f.pos:Int))∧w.cell? ⟨b,o+3,none⟩=some (.int .i64 (f.log:Int))
def FrA(w:World)(a:Option Addr)(l:List FrD):Prop :=
 l.length=0∨∃b,a=some ⟨b,0,none⟩∧∀i f,l[i]? = some f→FrC w b (i*4) f
theorem FrA.later{w w':World}{a:Option Addr}{l:List FrD}(h:FrA w a l)(k:Below w.heap.size w w'):FrA w' a l:=by
 rcases h with h | ⟨b,e,h⟩
 ·exact .inl h
 ·exact .inr ⟨b,e,fun i f hf=>⟨cell_on (h i f hf).1 k,cell_on (h i f hf).2.1 k,cell_on (h i f hf).2.2.1 k,cell_on (h i f hf).2.2.2 k⟩⟩
def stV(s:MSt)(ka:Option Addr)(kc:Nat)(la:Option Addr)(lc:Nat)(xa:Option Addr)(xn xc:Nat):Value :=
 .agg #[.int .i64 s.at_,.int .i64 (s.pos:Int),.slice ka s.st.length kc,.slice la s.log.length lc,.int .i64 (s.far:Int),.slice xa xn xc,.int .i64 (s.steps:Int),.int .i64 (s.throws:Int),.bool s.done,.int .i64 s.code,.int .i64 s.label]
def hasI(w:World)(n:Nat)(S:Nat→Int)(b:Int)(i:Value)(wr:World):Prop:=∃k:Nat,2*k≤n+1∧i=.int .i64 (2*(k:Int))∧hasP S b k=false∧wr=w
def inI(w:World)(n:Nat)(s:MSt)(i:Value)(wr:World):Prop:=∃k:Nat,k≤n∧i=.int .i64 (k:Int)∧(s.st.take k).any (fun f=>f.kind==1)=false∧wr=w
set_option maxRecDepth 100000 in
set_option maxHeartbeats 4000000 in
theorem l2has_any(Q:Nat→Prop)(a:Option Addr)(n c:Nat)(S:Nat→Int)(b:Int)(w:World)(hS:Ints Q .i64 w a n S)(hn:n≤1048576) :
  Calls Tryz.prog 71 #[.slice a n c,.int .i64 b] w (Tells (hasN n S b) w):=by
 have HS:Hid (Ints Q .i64 w a n S):=hS;clear hS;go_enter Tryz.func71,Tryz.ntmps71;go_wp2;go_loopw [5] (fun i wr=>hasI w n S b i wr) (fun i _=>n+1-(intOf i).toNat)
 case atStart=>exact⟨0,by omega,rfl,rfl,rfl⟩
 case round =>
  obtain⟨k,hk,rfl,hh,hw⟩:=hrel;subst wr;have HH:Hid (hasP S b k=false):=hh;clear hh;by_cases hlt:2*k+1<n
  ·rcases HS.out with h0 | ⟨bb,off,rfl,hq,hS⟩
   ·omega
   have c0:=hS (2*k) (by omega)
   have c1:=hS (2*k+1) (by omega)
   have hl1:(2*(k:Int))+1<(n:Int):=by omega
   have hl2:(2*(k:Int))<(n:Int):=by omega
   obtain⟨u,hu⟩:∃u,S (2*k)=u:=⟨_,rfl⟩;obtain⟨v,hv⟩:∃v,S (2*k+1)=v:=⟨_,rfl⟩;have HU:Hid (S (2*k)=u):=hu;have HV:Hid (S (2*k+1)=v):=hv;rw[hu]at c0;rw[hv]at c1;clear hS hu hv;by_cases q1:u≤b
   ·by_cases q2:b≤v
    ·have HT:Hid (hasN n S b=true):=hasP_mono S b (m:=k+1) (by omega) (by rw[hasP,HU.out,HV.out,HH.out];simp[q1,q2])
     go_wp2;go_ret;exact⟨by rw[HT.out];rfl,rfl⟩
    ·have HT:Hid (hasP S b (k+1)=false):=by show _=_;rw[hasP,HU.out,HV.out,HH.out];simp[q2]
     go_wp2;go_roundw
     case rel=>exact⟨k+1,by omega,by go_num,HT.out,rfl⟩
     case measure=>simp[intOf];omega
   ·have HT:Hid (hasP S b (k+1)=false):=by show _=_;rw[hasP,HU.out,HV.out,HH.out];simp[q1]
    go_wp2;go_roundw
    case rel=>exact⟨k+1,by omega,by go_num,HT.out,rfl⟩
    case measure=>simp[intOf];omega
  ·have hl1:¬(2*(k:Int))+1<(n:Int):=by omega
   have HT:Hid (hasN n S b=false):=by
    show hasP S b (n / 2)=false;by_cases q:hasP S b (n / 2)=true
    ·have:=hasP_mono S b (show n / 2≤k by omega) q
     rw[HH.out]at this;cases this
    ·simpa using q
   go_wp2;go_ret;exact⟨by rw[HT.out];rfl,rfl⟩
set_option maxRecDepth 100000 in
set_option maxHeartbeats 4000000 in
theorem l4end_any(s:MSt)(ka la xa:Option Addr)(kc lc xn xc:Nat)(cd:Int)(w:World) :
  Calls Tryz.prog 18 #[stV s ka kc la lc xa xn xc,.int .i64 cd] w (GivesV (stV (s.fin cd) ka kc la lc xa xn xc) w):=by
 unfold stV;go_enter Tryz.func18,Tryz.ntmps18;go_wp2;refine bodyPost_ret (v:=stV (s.fin cd) ka kc la lc xa xn xc) ?_ rfl ?_
 ·simp[results,Tryz.f18,go_sem,stV,MSt.fin]
 ·exact⟨rfl,bel2 w _ _⟩
set_option maxRecDepth 100000 in
set_option maxHeartbeats 4000000 in
theorem l4inNot_any(s:MSt)(ka la xa:Option Addr)(kc lc xn xc:Nat)(w:World)(hK:FrA w ka s.st)(hn:s.st.length≤1000) :
  Calls Tryz.prog 43 #[stV s ka kc la lc xa xn xc] w (TellsB s.inNot w):=by
 have HK:Hid (∀x,FrA (w.alloc x) ka s.st):=fun x=>hK.later (bel1 w x)
 obtain⟨n,hnn⟩:∃n,s.st.length=n:=⟨_,rfl⟩;have HN:Hid (s.st.length=n):=hnn;clear hK;unfold stV;rw[hnn]at hn ⊢;clear hnn;go_enter Tryz.func43,Tryz.ntmps43;go_wp2;generalize hX:w.alloc _=X;have HX:Hid (Below w.heap.size w X):=hX▸bel1 w _;have HF:Hid (FrA X ka s.st):=hX▸HK.out _;have x2:X.cell? ⟨w.heap.size,2,none⟩=some (.slice ka n kc):=hX▸cN w.heap.size rfl rfl;have lx:=lt_of_cell x2;clear hX HK;go_loopw [3] (fun i wr=>inI X n s i wr) (fun i _=>n-(intOf i).toNat)
 case atStart=>exact⟨0,Nat.zero_le _,rfl,rfl,rfl⟩
 case round =>
  obtain⟨k,hk,rfl,hh,hw⟩:=hrel;subst wr;have HH:Hid ((s.st.take k).any (fun f=>f.kind==1)=false):=hh
  clear hh;by_cases hlt:k<n
  ·rcases HF.out with h0 | ⟨b,rfl,hf⟩
   ·have:=HN.out;omega
   have hkl:k<s.st.length:=by have:=HN.out;omega
   obtain⟨c0,_,_,_⟩:=hf k s.st[k] (List.getElem?_eq_getElem hkl);have hlt':(k:Int)<(n:Int):=by omega
   have HTK:Hid (s.st.take (k+1)=s.st.take k++[s.st[k]]):=by show _=_;rw[List.take_append_getElem hkl]
   have HIN:Hid (s.st[k]∈s.st):=List.getElem_mem hkl;generalize s.st[k]=fr at *;clear hf hkl;cases hq:(fr.kind==1) with
   |true =>
    have HT:Hid (s.inNot=true):=by
     show s.st.any (fun f=>f.kind==1)=true
     rw[List.any_eq_true];exact⟨fr,HIN.out,hq⟩
    go_wp2;go_ret;exact⟨by rw[HT.out];rfl,HX.out⟩
   |false =>
    have HT:Hid ((s.st.take (k+1)).any (fun f=>f.kind==1)=false):=by
     show _=_;rw[HTK.out,List.any_append,HH.out];simp[hq]
    go_wp2;go_roundw
    case rel=>exact⟨k+1,by omega,by go_num,HT.out,rfl⟩
    case measure=>simp[intOf];omega
  ·obtain rfl:k=n:=by omega
   have HT:Hid (s.inNot=false):=by
    have:=HH.out;rw[List.take_of_length_le (by have:=HN.out;omega)]at this
    exact this
   go_wp2;go_ret;exact⟨by rw[HT.out];rfl,HX.out⟩
end
end Go.Proofs.YtcbnnfnlilbjeaaGreat
