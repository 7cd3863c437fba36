import Derived.Test.YthicmmhmmfhncaaGreatT01
import Derived.Test.YthicmmhmmfhncaaGreatT04
import Derived.Test.YthicmmhmmfhncaaGreatT03
set_option linter.unusedVariables false
set_option linter.unusedSimpArgs false
namespace Go.Proofs.YthicmmhmmfhncaaGreat
section
open M (OpD uj Gr)
structure Tp where
 m:Nat
 T:Nat→Nat
 le:m≤500
 byte:∀i,T i≤255
def Tp.v(t:Tp)(i:Nat):Nat:=if i<t.m then t.T i else 0
def Tp.n(t:Tp)(i:Nat):Nat:=if i<t.m then i+1 else i
theorem Tp.v_le(t:Tp)(i:Nat):t.v i≤255:=by
 unfold Tp.v;split
 ·exact t.byte i
 ·omega
def opd(k a:Int):OpD:=⟨k,0,fun _=>0,a⟩
def sod(s:List Int):OpD:=⟨1,s.length,lf s,0⟩
def ur(b:Int):List Int:=[b,b]
def uf(k a:Int):List OpD:=[opd k a]
def ui(s:List Int):List OpD:=[sod s]
def unD(k:Int)(x:List OpD):List OpD:=x++[opd k 0]
def uw(k:Int)(x y:List OpD):List OpD:=x++y++[opd k 0]
def yM:List Int:=[10,9,13,92,34,91,93,45,94,32,35,59,0,127,128,255]
def yr(t:Tp)(i:Nat):List Int×Nat :=
 if t.v i%12<7 then (ur (97+t.v i / 12%4:Nat),t.n i)
 else if t.v i%12=7 then ([97,98],t.n i)
 else if t.v i%12=8 then ([0,255],t.n i)
 else if t.v i%12=9 then ([48,57,97,99],t.n i)
 else if t.v i%12=10 then (if 200<t.v i then ([],t.n i) else ([0,96,99,255],t.n i))
 else (ur (lf yM (t.v (t.n i)%16)),t.n (t.n i))
def vU(t:Tp)(at_ rules labels:Nat):Nat→Bool→Nat→List OpD×Nat
 |0,_,i=>(ui (yr t (t.n i)).1,(yr t (t.n i)).2)
 |d+1,after,i =>
  let k:=t.v i%20
  let j:=t.n i
  let s:=yr t j
  if k<4∨t.m=j then (ui s.1,s.2)
  else if k=4 then (uf 0 0,j)
  else if k<7 then
   let lo:=if after then 0 else at_+1
   if rules≤lo then (ui s.1,s.2) else (uf 2 (lo+t.v j%(rules-lo):Nat),t.n j)
  else if k<9∧0<labels then (uw 5 (ui (yr t (t.n j)).1) (uf 3 (t.v j%labels:Nat)),(yr t (t.n j)).2)
  else if k<13 then
   let y:=vU t at_ rules labels d true s.2
   (uw 4 (ui s.1) y.1,y.2)
  else if k<16 then
   let x:=vU t at_ rules labels d after j
   let y:=vU t at_ rules labels d after x.2
   (uw (if k=13 then 4 else 5) x.1 y.1,y.2)
  else if k<18 then
   let c:=t.v s.2%3
   if c=0 then (unD 6 (ui s.1),t.n s.2)
   else
    let y:=vU t at_ rules labels d (c==1) (t.n s.2)
    (if c=1 then unD 6 (uw 4 (ui s.1) y.1) else unD 6 (uw 4 (unD 7 y.1) (ui s.1)),y.2)
  else if k=18 then
   let y:=vU t at_ rules labels d after j
   (unD 7 y.1,y.2)
  else if 0<t.v j%4 then
   let x:=yr t (t.n j)
   let y:=vU t at_ rules labels d true x.2
   (unD 6 (uw 5 (ui x.1) (uw 4 (ui x.1) y.1)),y.2)
  else
   let y:=vU t at_ rules labels d after (t.n j)
   (unD 6 y.1,y.2)
def Lil(n:Nat)(l:List OpD):Prop:=l.length≤n∧∀x∈l,x.sl≤16
theorem Lil.mono{n m:Nat}{l:List OpD}(h:Lil n l)(hm:n≤m):Lil m l:=⟨Nat.le_trans h.1 hm,h.2⟩
theorem uH(k a:Int):Lil 1 (uf k a):=⟨Nat.le_refl _,fun x hx=>by obtain rfl:=List.mem_singleton.1 hx;exact Nat.zero_le _⟩
theorem uF{s:List Int}(h:s.length≤16):Lil 1 (ui s):=⟨Nat.le_refl _,fun x hx=>by obtain rfl:=List.mem_singleton.1 hx;exact h⟩
theorem ye{n:Nat}{x:List OpD}(k:Int)(h:Lil n x):Lil (n+1) (unD k x):=by
 refine⟨?_,fun y hy=>?_⟩
 ·have:=h.1;unfold unD;simp;omega
 ·rcases List.mem_append.1 hy with q | q
  ·exact h.2 y q
  ·obtain rfl:=List.mem_singleton.1 q;exact Nat.zero_le _
theorem vg{n m:Nat}{x y:List OpD}(k:Int)(h:Lil n x)(h':Lil m y):Lil (n+m+1) (uw k x y):=by
 refine⟨?_,fun z hz=>?_⟩
 ·have:=h.1;have:=h'.1;unfold uw;simp;omega
 ·rcases List.mem_append.1 hz with q | q
  ·rcases List.mem_append.1 q with q | q
   ·exact h.2 z q
   ·exact h'.2 z q
  ·obtain rfl:=List.mem_singleton.1 q;exact Nat.zero_le _
theorem vw(t:Tp)(i:Nat):(yr t i).1.length≤4:=by
 unfold yr
 repeat' split
 all_goals simp[ur]
def big:Nat→Nat
 |0=>1
 |d+1=>2*big d+5
theorem vJ(t:Tp)(at_ rules labels:Nat):∀(d:Nat) (after:Bool) (i:Nat),Lil (big d) (vU t at_ rules labels d after i).1
 |0,_,i=>uF (Nat.le_trans (vw _ _) (by omega))
 |d+1,after,i=>by
  have ih:=vJ t at_ rules labels d;have hs:∀i,Lil 1 (ui (yr t i).1):=fun i=>uF (Nat.le_trans (vw _ _) (by omega))
  have hb:big (d+1)=2*big d+5:=rfl;rw[hb,vU];dsimp only
  repeat' split
  all_goals first
   |exact (hs _).mono (by omega)
   |exact (uH _ _).mono (by omega)
   |exact (vg _ (hs _) (uH _ _)).mono (by omega)
   |exact (vg _ (hs _) (ih _ _)).mono (by omega)
   |exact (vg _ (ih _ _) (ih _ _)).mono (by omega)
   |exact (ye _ (hs _)).mono (by omega)
   |exact (ye _ (vg _ (hs _) (ih _ _))).mono (by omega)
   |exact (ye _ (vg _ (ye _ (ih _ _)) (hs _))).mono (by omega)
   |exact (ye _ (vg _ (hs _) (vg _ (hs _) (ih _ _)))).mono (by omega)
   |exact (ye _ (ih _ _)).mono (by omega)
end
section
open Go.RowKit
open M (OpD uj Gr)
structure RuleX(Q:Nat→Prop)(w:World)(b o:Nat)(d:uj):Prop where
 c:RuleC Q w b o d
 cap:∃a c,w.cell? ⟨b,o+1,none⟩=some (.slice a d.bl c)∧d.bl≤c
structure LabX(Q:Nat→Prop)(w:World)(b o:Nat)(d:uj):Prop where
 c:LabC Q w b o d
 cap:∃a c,w.cell? ⟨b,o+2,none⟩=some (.slice a d.bl c)∧d.bl≤c
def RulesX(Q:Nat→Prop)(w:World)(a:Option Addr)(n:Nat)(R:Nat→uj):Prop :=
 n=0∨∃b off,a=some ⟨b,off,none⟩∧Q b∧∀i,i<n→RuleX Q w b (off+i*2) (R i)
def LabsX(Q:Nat→Prop)(w:World)(a:Option Addr)(n:Nat)(R:Nat→uj):Prop :=
 n=0∨∃b off,a=some ⟨b,off,none⟩∧Q b∧∀i,i<n→LabX Q w b (off+i*3) (R i)
section
variable {Q Q':Nat→Prop} {w w':World}
theorem RuleX.on{b o:Nat}{d:uj}(h:RuleX Q w b o d)(hq:Q b)(t:Stay Q w w'):RuleX Q w' b o d :=
 ⟨h.c.on hq t,let ⟨a,c,h1,h2⟩:=h.cap;⟨a,c,(t.cell hq).trans h1,h2⟩⟩
theorem RuleX.later{b o:Nat}{d:uj}(h:RuleX Q w b o d)(t:Below w.heap.size w w'):RuleX Q w' b o d :=
 ⟨h.c.later t,let ⟨a,c,h1,h2⟩:=h.cap;⟨a,c,ug h1 t,h2⟩⟩
theorem LabX.on{b o:Nat}{d:uj}(h:LabX Q w b o d)(hq:Q b)(t:Stay Q w w'):LabX Q w' b o d :=
 ⟨h.c.on hq t,let ⟨a,c,h1,h2⟩:=h.cap;⟨a,c,(t.cell hq).trans h1,h2⟩⟩
theorem LabX.later{b o:Nat}{d:uj}(h:LabX Q w b o d)(t:Below w.heap.size w w'):LabX Q w' b o d :=
 ⟨h.c.later t,let ⟨a,c,h1,h2⟩:=h.cap;⟨a,c,ug h1 t,h2⟩⟩
theorem RulesX.later{a:Option Addr}{n:Nat}{R:Nat→uj}(h:RulesX Q w a n R)(t:Below w.heap.size w w'):RulesX Q w' a n R:=by
 rcases h with h | ⟨b,off,e,hq,h⟩
 ·exact .inl h
 ·exact .inr ⟨b,off,e,hq,fun i hi=>(h i hi).later t⟩
theorem LabsX.later{a:Option Addr}{n:Nat}{R:Nat→uj}(h:LabsX Q w a n R)(t:Below w.heap.size w w'):LabsX Q w' a n R:=by
 rcases h with h | ⟨b,off,e,hq,h⟩
 ·exact .inl h
 ·exact .inr ⟨b,off,e,hq,fun i hi=>(h i hi).later t⟩
theorem RulesX.plain{a:Option Addr}{n:Nat}{R:Nat→uj}(h:RulesX Q w a n R):RulesA Q w a n R:=by
 rcases h with h | ⟨b,off,e,hq,h⟩
 ·exact .inl h
 ·exact .inr ⟨b,off,e,hq,fun i hi=>(h i hi).c⟩
theorem LabsX.plain{a:Option Addr}{n:Nat}{R:Nat→uj}(h:LabsX Q w a n R):LabsA Q w a n R:=by
 rcases h with h | ⟨b,off,e,hq,h⟩
 ·exact .inl h
 ·exact .inr ⟨b,off,e,hq,fun i hi=>(h i hi).c⟩
end
structure GramX(Q:Nat→Prop)(w:World)(ra la:Option Addr)(g:Gr):Prop where
 rules:RulesX Q w ra g.nr g.rule
 labs:LabsX Q w la g.nb g.lab
theorem GramX.plain{Q:Nat→Prop}{w:World}{ra la:Option Addr}{g:Gr}(h:GramX Q w ra la g):GramA Q w ra la g:=⟨h.rules.plain,h.labs.plain⟩
theorem GramX.later{Q:Nat→Prop}{w w':World}{ra la:Option Addr}{g:Gr}(h:GramX Q w ra la g)(t:Below w.heap.size w w'):GramX Q w' ra la g:=⟨h.rules.later t,h.labs.later t⟩
end
end Go.Proofs.YthicmmhmmfhncaaGreat
