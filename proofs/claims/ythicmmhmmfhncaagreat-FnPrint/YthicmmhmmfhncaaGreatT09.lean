import Derived.Test.YthicmmhmmfhncaaGreatT07
import Derived.Test.YthicmmhmmfhncaaGreatT08
import Derived.Deep.RegionHeld3
set_option linter.unusedVariables false
set_option linter.unusedSimpArgs false
namespace Go.Proofs.YthicmmhmmfhncaaGreat
section
open Go.RowKit
open M (OpD uj Gr)
def qo(k n c:Nat)(b:List OpD):List OpD:=if k=0∧c%3=1∧1<n then uw 4 b (uf 2 1) else b
def qp(k c:Nat)(b:List OpD):List OpD:=if k=0∧c%4=1 then uw 4 b (unD 7 (ui [0,255])) else b
def qq(k m c:Nat)(b:List OpD):List OpD:=if k=0∧c%5=1∧0<m then uw 4 (uw 5 (ui (ur 97)) (uf 3 0)) b else b
def vG(t:Tp)(n m i0:Nat):Nat→List zNL×Nat
 |0=>([],i0)
 |k+1 =>
  let p:=vG t n m i0 k
  let b:=vU t k n m 5 false p.2
  (p.1++[⟨[((115+k%8:Nat):Int)],true,qq k m (t.v b.2) (qp k (t.v b.2) (qo k n (t.v b.2) b.1))⟩],t.n b.2)
structure zGVar(gb:Nat)(w0:World)(G:Nat→Nat)(w:World)(rv lv:Value)(rs ls:List zNC):Prop where
 c0:w.cell? ⟨gb,0,none⟩=some rv
 c1:w.cell? ⟨gb,1,none⟩=some lv
 f0:w.frozen? ⟨gb,0,none⟩=false
 f1:w.frozen? ⟨gb,1,none⟩=false
 gr:zGrP w0 G w rv lv rs ls
 tg:G gb=3
 lt:gb<w.heap.size
 le:w0.heap.size≤w.heap.size
theorem zGVar.tagR{gb R:Nat}{w0 w:World}{G:Nat→Nat}{rv lv:Value}{rs ls:List zNC}(h:zGVar gb w0 G w rv lv rs ls)(hR:R<w0.heap.size):G R=3:=by
 by_cases e:G R=3
 ·exact e
 ·have:=h.gr.new R e
  omega
theorem zGVar.later{gb:Nat}{w0 w w':World}{G:Nat→Nat}{rv lv:Value}{rs ls:List zNC}{C:Nat→Prop}(h:zGVar gb w0 G w rv lv rs ls)(k:Keep C w w')(hC:∀b,C b→b<w0.heap.size∧b≠gb)(t:Nat):zGVar gb w0 (uK G w t) w' rv lv rs ls:=by
 have hb:=k.block gb h.lt (fun q=>(hC gb q).2 rfl)
 exact⟨(World.cell?_of_block (a:=⟨gb,0,none⟩) hb).trans h.c0,(World.cell?_of_block (a:=⟨gb,1,none⟩) hb).trans h.c1,(World.frozen?_of_block (a:=⟨gb,0,none⟩) hb).trans h.f0,(World.frozen?_of_block (a:=⟨gb,1,none⟩) hb).trans h.f1,
  h.gr.later k (fun b q=>h.tagR (hC b q).1) t h.le,by rw[uD h.lt];exact h.tg,Nat.lt_of_lt_of_le h.lt k.size,Nat.le_trans h.le k.size⟩
theorem ufF(args:Array Value)(w:World):(callFunc 61 args).run Tryz.prog w=.ok (.enter 61 args) w:=by
 simp[callFunc,Tryz.func61,Tryz.f61,go_sem]
theorem yu(args:Array Value)(w:World):(callFunc 57 args).run Tryz.prog w=.ok (.enter 57 args) w:=by
 simp[callFunc,Tryz.func57,Tryz.f57,go_sem]
theorem jx{W:World}{g:Nat}{x:zNC}{t:TypeId}(hg:W.heap[g]? = some (.cells #[.slice x.na x.d.nm.length x.nc,.slice x.ba x.d.bd.length x.bc] t)):Src Tryz.prog 2 23 (.slice (some ⟨g,0,none⟩) 1 1) 1 (vF x) W:=by
 refine yH Tryz.underlying23 rfl (fun j u hu=>?_) (fun u hu=>unq [x] u (by simpa using hu))
 simp only[World.cell?,hg];rw[←hu];simp[vF]
theorem xA{W:World}{g:Nat}{x:zNC}{t:TypeId}(hg:W.heap[g]? = some (.cells #[.slice x.na x.d.nm.length x.nc,.bool x.d.has,.slice x.ba x.d.bd.length x.bc] t)):Src Tryz.prog 3 24 (.slice (some ⟨g,0,none⟩) 1 1) 1 (vC x) W:=by
 refine yH Tryz.underlying24 rfl (fun j u hu=>?_) (fun u hu=>unr [x] u (by simpa using hu))
 simp only[World.cell?,hg];rw[←hu];simp[vC]
def dgI(t:Tp)(R gb:Nat)(W0:World)(n m i0:Nat)(iv:Value)(wr:World):Prop :=
 ∃(k:Nat) (G:Nat→Nat) (rs:List zNC) (rv:Value),k≤n∧iv=.int .i64 (k:Int)∧zGVar gb W0 G wr rv (.slice none 0 0) rs []∧rs.map (·.d)=(vG t n m i0 k).1∧RdA t R wr (vG t n m i0 k).2∧Keep (fun b=>b=R∨b=gb) W0 wr
theorem uhP{gb R:Nat}{W0 w W2:World}{G:Nat→Nat}{rv lv v:Value}{rs ls:List zNC}{D:List OpD}{z:List Int}{na:Option Addr}{N B:Nat→Prop}(tag:Nat)(hR:R<W0.heap.size∧R≠gb)(h:zGVar gb W0 G w rv lv rs ls)(k:Keep (fun b=>b=R) w W2)(hn:Ints N .u8 W2 na z.length (lf z))(hb:BodP B W2 v D)(hN:∀b,N b→New w W2 b)(hB:∀b,B b→New w W2 b)(hNB:∀b,N b→¬B b) :
  ∃G',zGVar gb W0 G' W2 rv lv rs ls∧Ints (zTg G' W2 2) .u8 W2 na z.length (lf z)∧BodP (zTg G' W2 tag) W2 v D:=by
 classical
 let G':Nat→Nat:=fun b=>if b<w.heap.size then G b else if N b then 2 else if B b then tag else 3
 have old:∀b,b<w.heap.size→G' b=G b:=fun b hb=>if_pos hb
 have hbk:=k.block gb h.lt (fun q=>hR.2 q.symm)
 have zz:=k.size;have hlt:=h.lt;refine⟨G',⟨(World.cell?_of_block (a:=⟨gb,0,none⟩) hbk).trans h.c0,(World.cell?_of_block (a:=⟨gb,1,none⟩) hbk).trans h.c1,(World.frozen?_of_block (a:=⟨gb,0,none⟩) hbk).trans h.f0,(World.frozen?_of_block (a:=⟨gb,1,none⟩) hbk).trans h.f1,
  h.gr.on zz (fun b hb hg=>k.block b hb (fun q=>hg (by rw[q];exact h.tagR hR.1))) old (fun b hb=>?_),by rw[old gb hlt];exact h.tg,by omega,Nat.le_trans h.le zz⟩,hn.wide (fun b q=>⟨(hN b q).2,?_⟩),hb.wide (fun b q=>⟨(hB b q).2,?_⟩)⟩
 ·by_cases e:b<w.heap.size
  ·rw[old b e]at hb;exact h.gr.new b hb
  ·have:=h.le;omega
 ·have h1:=(hN b q).1
  show (if b<w.heap.size then G b else if N b then 2 else if B b then tag else 3)=2
  rw[if_neg (by omega),if_pos q]
 ·have h1:=(hB b q).1
  show (if b<w.heap.size then G b else if N b then 2 else if B b then tag else 3)=tag
  rw[if_neg (by omega),if_neg (fun e=>hNB b e q),if_pos q]
theorem uo5{gb tt:Nat}{W0 W2 W4:World}{G:Nat→Nat}{rv lv:Value}{rs ls:List zNC}(h:zGVar gb W0 G W2 rv lv rs ls)(htt:tt≠3)(g4:Grew (zTg G W2 tt) W2 W4):W4.heap[gb]? = W2.heap[gb]? :=
 g4.block gb h.lt (fun q=>by have:=q.2;rw[h.tg]at this;omega)
theorem vf{gb tt:Nat}{W0 W2 W4:World}{G:Nat→Nat}{rv lv:Value}{rs ls:List zNC}(h:zGVar gb W0 G W2 rv lv rs ls)(htt:tt≠3)(g4:Grew (zTg G W2 tt) W2 W4):W4.cell? ⟨gb,0,none⟩=some rv∧W4.cell? ⟨gb,1,none⟩=some lv∧W4.frozen? ⟨gb,0,none⟩=false∧W4.frozen? ⟨gb,1,none⟩=false:=by
 have hbk:=uo5 h htt g4;exact⟨(World.cell?_of_block (a:=⟨gb,0,none⟩) hbk).trans h.c0,(World.cell?_of_block (a:=⟨gb,1,none⟩) hbk).trans h.c1,(World.frozen?_of_block (a:=⟨gb,0,none⟩) hbk).trans h.f0,(World.frozen?_of_block (a:=⟨gb,1,none⟩) hbk).trans h.f1⟩
theorem uaI{gb:Nat}{W0 W2 W4:World}{G:Nat→Nat}{rv lv v4:Value}{rs ls:List zNC}{x:zNC}(h:zGVar gb W0 G W2 rv lv rs ls)(hn:Ints (zTg G W2 2) .u8 W2 x.na x.d.nm.length (lf x.d.nm))(hb:BodP (zTg G W2 (4+2*rs.length)) W2 (.slice x.ba x.d.bd.length x.bc) x.d.bd)
  (own:OwnC (fun b=>zTg G W2 0 b∨W2.heap.size≤b) W4 v4 2 (rs.length+1) (rs.flatMap vF++vF x)) (g4:Grew (zTg G W2 0) W2 W4):∃G',zGVar gb W0 G' (W4.setCell ⟨gb,0,none⟩ v4) v4 lv (rs++[x]) ls:=by
 obtain⟨c0,c1,f0,f1⟩:=vf h (by omega) g4
 have hgr:=h.gr.addRule h.le hn hb own g4;have hlt:=h.lt;have hle:=h.le;have z4:=g4.size;have hg3:uK G W2 0 gb=3:=by rw[uD hlt];exact h.tg
 exact⟨uK G W2 0,World.cell?_setCell_same' _ _ _ (by rw[c0];rfl),(World.cell?_setCell_other _ _ _ _ (by simp)).trans c1,by rw[World.frozen?_setCell];exact f0,by rw[World.frozen?_setCell];exact f1,
  hgr.on (by rw[ul];exact Nat.le_refl _) (fun b hb hg=>Below.heap_setCell _ _ _ _ (fun e=>hg (by rw[show b=gb from e];exact hg3))) (fun b hb=>rfl) hgr.new,hg3,by rw[ul];omega,by rw[ul];omega⟩
theorem ufG{gb:Nat}{W0 W2 W4:World}{G:Nat→Nat}{rv lv v4:Value}{rs ls:List zNC}{x:zNC}(h:zGVar gb W0 G W2 rv lv rs ls)(hn:Ints (zTg G W2 2) .u8 W2 x.na x.d.nm.length (lf x.d.nm))(hb:BodP (zTg G W2 (5+2*ls.length)) W2 (.slice x.ba x.d.bd.length x.bc) x.d.bd)
  (own:OwnC (fun b=>zTg G W2 1 b∨W2.heap.size≤b) W4 v4 3 (ls.length+1) (ls.flatMap vC++vC x)) (g4:Grew (zTg G W2 1) W2 W4):∃G',zGVar gb W0 G' (W4.setCell ⟨gb,1,none⟩ v4) rv v4 rs (ls++[x]):=by
 obtain⟨c0,c1,f0,f1⟩:=vf h (by omega) g4
 have hgr:=h.gr.addLabel h.le hn hb own g4;have hlt:=h.lt;have hle:=h.le;have z4:=g4.size;have hg3:uK G W2 1 gb=3:=by rw[uD hlt];exact h.tg
 exact⟨uK G W2 1,(World.cell?_setCell_other _ _ _ _ (by simp)).trans c0,World.cell?_setCell_same' _ _ _ (by rw[c1];rfl),by rw[World.frozen?_setCell];exact f0,by rw[World.frozen?_setCell];exact f1,
  hgr.on (by rw[ul];exact Nat.le_refl _) (fun b hb hg=>Below.heap_setCell _ _ _ _ (fun e=>hg (by rw[show b=gb from e];exact hg3))) (fun b hb=>rfl) hgr.new,hg3,by rw[ul];omega,by rw[ul];omega⟩
theorem ufH{t:Tp}{gb R i tt o:Nat}{W0 wr W2 W4:World}{G:Nat→Nat}{rv lv v:Value}{rs ls:List zNC}(hR:R<gb)(hgb:gb<W0.heap.size)(h:zGVar gb W0 G W2 rv lv rs ls)(htt:tt≠3)(kr:Keep (fun b=>b=R∨b=gb) W0 wr)(k:Keep (fun b=>b=R) wr W2)(g4:Grew (zTg G W2 tt) W2 W4)(hrd:RdA t R W2 i) :
  RdA t R (W4.setCell ⟨gb,o,none⟩ v) i∧Keep (fun b=>b=R∨b=gb) W0 (W4.setCell ⟨gb,o,none⟩ v):=by
 have hnew:∀b,zTg G W2 tt b→W0.heap.size≤b:=fun b q=>h.gr.new b (by rw[q.2];exact htt)
 have kk:Keep (fun b=>b=R∨b=gb) W0 W2:=kr.trans (k.mono (fun b q=>.inl q))
 refine⟨(hrd.keep g4.kept (fun b q=>by have:=hnew b q;omega)).keep (Keep.setCell (C:=fun b=>b=gb) _ _ _ rfl) (fun b q=>by omega),?_⟩
 have k4:Keep (fun b=>b=R∨b=gb) W0 W4:=⟨g4.os.trans kk.os,g4.tape.trans kk.tape,g4.output.trans kk.output,Nat.le_trans kk.size g4.size,fun b hb hn=>(g4.block b (Nat.lt_of_lt_of_le hb kk.size) (fun q=>by have:=hnew b q;omega)).trans (kk.block b hb hn)⟩
 exact k4.trans (Keep.setCell _ _ _ (.inr rfl))
theorem xO(w:World)(x y:Int)(t:TypeId):Ints (fun _=>True) .i64 (w.alloc (.cells #[.int .i64 x,.int .i64 y] t)) (some ⟨w.heap.size,0,none⟩) [x,y].length (lf [x,y]):=by
 refine .inr ⟨w.heap.size,0,rfl,trivial,fun k hk=>?_⟩
 have hb:=World.alloc_heap_new w (.cells #[.int .i64 x,.int .i64 y] t);simp only[World.cell?,hb];match k,hk with
 |0,_=>rfl
 |1,_=>rfl
theorem udG(w:World){t:TypeId}:zGVar w.heap.size (w.alloc (.cells #[.slice none 0 0,.slice none 0 0] t)) (fun _=>3) (w.alloc (.cells #[.slice none 0 0,.slice none 0 0] t)) (.slice none 0 0) (.slice none 0 0) [] []:=by
 have hb:=World.alloc_heap_new w (.cells #[.slice none 0 0,.slice none 0 0] t);refine⟨?_,?_,?_,?_,zGrP.nil _,rfl,by simp,Nat.le_refl _⟩
 ·simp only[World.cell?,hb];rfl
 ·simp only[World.cell?,hb];rfl
 ·simp only[World.frozen?,hb];rfl
 ·simp only[World.frozen?,hb];rfl
theorem jR(t:Tp)(n m i0 k:Nat):(vG t n m i0 k).1.length=k:=by
 induction k with
 |zero=>rfl
 |succ k ih=>rw[vG];simp[ih]
theorem ugx{t:Tp}{R gb:Nat}{W0 W:World}{n m i0 k i2:Nat}{rs:List zNC}{p:List zNL}{z:List Int}{E D:List OpD}{na ba:Option Addr}{nc bc:Nat}{v:Value}(hlt:k<n)(hrs:rs.map (·.d)=p)(hsu:vG t n m i0 (k+1)=(p++[⟨z,true,E⟩],i2))(he:E=D)
  (hE:∃G',zGVar gb W0 G' W v (.slice none 0 0) (rs++[⟨⟨z,true,D⟩,na,nc,ba,bc⟩]) []) (hF:RdA t R W i2∧Keep (fun x=>x=R∨x=gb) W0 W):dgI t R gb W0 n m i0 (.int .i64 ((k+1:Nat):Int)) W:=by
 obtain⟨G',hg⟩:=hE;refine⟨k+1,G',_,v,hlt,rfl,hg,?_,?_,hF.2⟩
 ·rw[hsu,List.map_append,hrs,he];rfl
 ·rw[hsu];exact hF.1
structure Lb(lb:Nat)(w:World)(v0:Value)(hs:Bool)(v2:Value):Prop where
 c0:w.cell? ⟨lb,0,none⟩=some v0
 c1:w.cell? ⟨lb,1,none⟩=some (.bool hs)
 c2:w.cell? ⟨lb,2,none⟩=some v2
 f1:w.frozen? ⟨lb,1,none⟩=false
 f2:w.frozen? ⟨lb,2,none⟩=false
theorem Lb.keep{lb:Nat}{w w':World}{v0 v2:Value}{hs:Bool}{C:Nat→Prop}(h:Lb lb w v0 hs v2)(k:Keep C w w')(hC:¬C lb):Lb lb w' v0 hs v2:=by
 have hb:=k.block lb (ub h.c0) hC;exact⟨(World.cell?_of_block (a:=⟨lb,0,none⟩) hb).trans h.c0,(World.cell?_of_block (a:=⟨lb,1,none⟩) hb).trans h.c1,(World.cell?_of_block (a:=⟨lb,2,none⟩) hb).trans h.c2,(World.frozen?_of_block (a:=⟨lb,1,none⟩) hb).trans h.f1,(World.frozen?_of_block (a:=⟨lb,2,none⟩) hb).trans h.f2⟩
theorem Lb.set1{lb:Nat}{w:World}{v0 v2:Value}{hs:Bool}(h:Lb lb w v0 hs v2)(x:Bool):Lb lb (w.setCell ⟨lb,1,none⟩ (.bool x)) v0 x v2 :=
 ⟨(World.cell?_setCell_other _ _ _ _ (by simp)).trans h.c0,World.cell?_setCell_same' _ _ _ (by rw[h.c1];rfl),(World.cell?_setCell_other _ _ _ _ (by simp)).trans h.c2,by rw[World.frozen?_setCell];exact h.f1,by rw[World.frozen?_setCell];exact h.f2⟩
theorem Lb.set2{lb:Nat}{w:World}{v0 v2:Value}{hs:Bool}(h:Lb lb w v0 hs v2)(x:Value):Lb lb (w.setCell ⟨lb,2,none⟩ x) v0 hs x :=
 ⟨(World.cell?_setCell_other _ _ _ _ (by simp)).trans h.c0,(World.cell?_setCell_other _ _ _ _ (by simp)).trans h.c1,World.cell?_setCell_same' _ _ _ (by rw[h.c2];rfl),by rw[World.frozen?_setCell];exact h.f1,by rw[World.frozen?_setCell];exact h.f2⟩
theorem yQ{C:Nat→Prop}{w W:World}(h:Keep C w W){b o:Nat}{v:Value}(hb:w.heap.size≤b):Keep C w (W.setCell ⟨b,o,none⟩ v) :=
 ⟨h.os,h.tape,h.output,by rw[ul];exact h.size,fun x hx hc=>(Below.heap_setCell _ _ _ _ (fun e=>by have e':x=b:=e;omega)).trans (h.block x hx hc)⟩
theorem RdOn.set{t:Tp}{R i:Nat}{w W:World}(h:RdOn t R i w W){b o:Nat}{v:Value}(hb:w.heap.size≤b)(hR:R<b):RdOn t R i w (W.setCell ⟨b,o,none⟩ v) :=
 ⟨h.1.keep (Keep.setCell (C:=fun x=>x=b) _ _ _ rfl) (fun x e=>by omega),yQ h.2 hb⟩
theorem uo6(w:World)(v0:Value){t:TypeId}:Lb w.heap.size (w.alloc (.cells #[v0,.bool false,.slice none 0 0] t)) v0 false (.slice none 0 0):=by
 have hb:=World.alloc_heap_new w (.cells #[v0,.bool false,.slice none 0 0] t);refine⟨?_,?_,?_,?_,?_⟩
 ·simp only[World.cell?,hb];rfl
 ·simp only[World.cell?,hb];rfl
 ·simp only[World.cell?,hb];rfl
 ·simp only[World.frozen?,hb];rfl
 ·simp only[World.frozen?,hb];rfl
theorem udH(P:Nat→Prop)(w:World):BodP P w (.slice none 0 0) []:=⟨fun _=>0,[],⟨.inl ⟨rfl,rfl,rfl⟩,fun i x hx=>by simp at hx⟩,rfl⟩
def uab(k:Nat):List Int:=if k=0 then [101,49] else if k=1 then [101,114,114] else [109,105,100,95,50]
def jS(t:Tp)(n i:Nat):(Bool×List OpD)×Nat :=
 if t.v i%8<6 then
  if t.v i%8<2 then ((true,unD 6 (uw 4 (unD 7 (ui (yr t (t.n i)).1)) (ui [0,255]))),(yr t (t.n i)).2)
  else if t.v i%8=2 then ((true,uf 0 0),t.n i)
  else if t.v i%8=3 then ((true,ui [0,255]),t.n i)
  else ((true,(vU t n n 0 3 false (t.n i)).1),(vU t n n 0 3 false (t.n i)).2)
 else ((false,[]),t.n i)
def vm(t:Tp)(n i1:Nat):Nat→List zNL×Nat
 |0=>([],i1)
 |k+1=>((vm t n i1 k).1++[⟨uab k,(jS t n (vm t n i1 k).2).1.1,(jS t n (vm t n i1 k).2).1.2⟩],(jS t n (vm t n i1 k).2).2)
theorem jT(t:Tp)(n i1 k:Nat):(vm t n i1 k).1.length=k:=by
 induction k with
 |zero=>rfl
 |succ k ih=>rw[vm];simp[ih]
def kZ(bd:List OpD)(i:Nat):Bool:=bd.any fun o=>decide (o.kind=3)&&decide (o.arg=(i:Int))
theorem ugy(bd:List OpD)(i:Nat):M.Throws bd.length (df bd) i↔kZ bd i=true:=by
 unfold kZ;rw[List.any_eq_true];constructor
 ·rintro⟨j,hj,h1,h2⟩
  rw[qe (List.getElem?_eq_getElem hj)]at h1 h2;exact⟨bd[j],List.getElem_mem hj,by simp[h1,h2]⟩
 ·rintro⟨o,ho,h⟩
  obtain⟨j,hj,rfl⟩:=List.getElem_of_mem ho;simp at h;exact⟨j,hj,by rw[qe (List.getElem?_eq_getElem hj)];exact h.1,by rw[qe (List.getElem?_eq_getElem hj)];exact h.2⟩
def ueS(rs:List zNL)(i:Nat)(x:zNL):zNL:=if x.has then x else if rs.any (fun r=>kZ r.bd i) then ⟨x.nm,false,[]⟩ else ⟨x.nm,true,uf 0 0⟩
def vP(rs:List zNL)(ls:List zNL)(k:Nat):List zNL:=ls.mapIdx fun i x=>if i<k then ueS rs i x else x
def qc(t:Tp)(i:Nat):(List zNL×List zNL)×Nat :=
 let n:=1+t.v i%4
 let m:=t.v (t.n i)%4
 let p:=vG t n m (t.n (t.n i)) n
 let q:=vm t n p.2 m
 ((p.1,vP p.1 q.1 m),q.2)
def DrG(t:Tp)(R:Nat)(g:(List zNL×List zNL)×Nat)(w:World)(e:Ending)(w':World):Prop :=
 ∃rv lv G rs ls,e=.returned (.agg #[rv,lv])∧zGrP w G w' rv lv rs ls∧rs.map (·.d)=g.1.1∧ls.map (·.d)=g.1.2∧RdOn t R g.2 w w'
theorem ufI{t:Tp}{R i lb:Nat}{wr A1 A2 A3 wk wn:World}{v0 v2:Value}{hs:Bool}{na ba:Option Addr}{bc:Nat}{z:List Int}{D:List OpD}(hR:RdOn t R i wr wn)(hL:Lb lb wk v0 hs v2)(hN:Ints (New A1 A2) .u8 wk na z.length (lf z))(hM:Keep (fun b=>b=R) wk wn)(hb:BodP (New wk wn) wn (.slice ba D.length bc) D)
  (h1:lb=A2.heap.size) (h2:A3.heap.size=lb+1) (h3:A3.heap.size≤wk.heap.size) (h4:wr.heap.size≤lb) (h5:R<wr.heap.size) (h6:wr.heap.size≤A1.heap.size) :
  Lb lb (wn.setCell ⟨lb,2,none⟩ (.slice ba D.length bc)) v0 hs (.slice ba D.length bc)∧BodP (New A3 (wn.setCell ⟨lb,2,none⟩ (.slice ba D.length bc))) (wn.setCell ⟨lb,2,none⟩ (.slice ba D.length bc)) (.slice ba D.length bc) D∧RdOn t R i wr (wn.setCell ⟨lb,2,none⟩ (.slice ba D.length bc))∧Ints (New A1 A2) .u8 (wn.setCell ⟨lb,2,none⟩ (.slice ba D.length bc)) na z.length (lf z):=by
 refine⟨(hL.keep hM (fun e=>by omega)).set2 _,(hb.on (fun b q=>Below.heap_setCell _ _ _ _ (fun e=>by have e':b=lb:=e;have:=q.1;omega))).wide (fun b q=>⟨by have:=q.1;omega,by rw[ul];exact q.2⟩),hR.set h4 (by omega),?_⟩
 exact (hN.kept hM (fun b q e=>by have:=q.1;omega)).kept (Keep.setCell (C:=fun b=>b=lb) _ _ _ rfl) (fun b q e=>by have:=q.2;omega)
theorem uaJ{R:Nat}{w X Y:World}{C:Nat→Prop}(h:Keep (fun b=>b=R) w X)(k:Keep C X Y)(hC:∀b,C b→b=R∨w.heap.size≤b):Keep (fun b=>b=R) w Y :=
 ⟨k.os.trans h.os,k.tape.trans h.tape,k.output.trans h.output,Nat.le_trans h.size k.size,fun b hb hn=>(k.block b (Nat.lt_of_lt_of_le hb h.size) (fun q=>by
  rcases hC b q with e | e
  ·exact hn e
  ·omega)).trans (h.block b hb hn)⟩
theorem zGrP.base{w0 w1 w:World}{G:Nat→Nat}{rv lv:Value}{rs ls:List zNC}(h:zGrP w0 G w rv lv rs ls)(hz:w1.heap.size≤w0.heap.size):zGrP w1 G w rv lv rs ls :=
 ⟨h.rules,h.labs,h.rn,h.ln,h.rb,h.lb,fun b hb=>Nat.le_trans hz (h.new b hb)⟩
theorem zGrP.set{w0 w:World}{G:Nat→Nat}{rv lv u:Value}{rs ls:List zNC}{rb o:Nat}(h:zGrP w0 G w rv lv rs ls)(hg:G rb=3):zGrP w0 G (w.setCell ⟨rb,o,none⟩ u) rv lv rs ls :=
 h.on (by rw[ul];exact Nat.le_refl _) (fun b hb hq=>Below.heap_setCell _ _ _ _ (fun e=>hq (by rw[show b=rb from e];exact hg))) (fun b hb=>rfl) h.new
theorem zGrP.tag{w0 w:World}{G:Nat→Nat}{rv lv:Value}{rs ls:List zNC}(h:zGrP w0 G w rv lv rs ls){b:Nat}(hb:b<w0.heap.size):G b=3:=by
 by_cases e:G b=3
 ·exact e
 ·have:=h.new b e
  omega
end
end Go.Proofs.YthicmmhmmfhncaaGreat
