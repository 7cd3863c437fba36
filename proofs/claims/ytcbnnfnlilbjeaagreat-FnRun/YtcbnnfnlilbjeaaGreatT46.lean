import Derived.Test.YtcbnnfnlilbjeaaGreatT44
import Derived.Test.YtcbnnfnlilbjeaaGreatT45
import Derived.Deep.RegionHeld3
import Derived.Test.YtcbnnfnlilbjeaaGreatT16
import Derived.Test.YtcbnnfnlilbjeaaGreatT02
import Derived.Deep.Cut
import Derived.Deep.CutRange
set_option linter.unusedVariables false
set_option linter.unusedSimpArgs false
namespace Go.Proofs.YtcbnnfnlilbjeaaGreat
section
open Go.RowKit
open M (OpD NodeD Gr)
def fix1(k n c:Nat)(b:List OpD):List OpD:=if k=0∧c%3=1∧1<n then binD 4 b (leafD 2 1) else b
def fix2(k c:Nat)(b:List OpD):List OpD:=if k=0∧c%4=1 then binD 4 b (unD 7 (setD [0,255])) else b
def fix3(k m c:Nat)(b:List OpD):List OpD:=if k=0∧c%5=1∧0<m then binD 4 (binD 5 (setD (oneD 97)) (leafD 3 0)) b else b
def drawRs(t:Tp)(n m i0:Nat):Nat→List NL×Nat
 |0=>([],i0)
 |k+1 =>
  let p:=drawRs t n m i0 k
  let b:=drawE t k n m 5 false p.2
  (p.1++[⟨[((115+k%8:Nat):Int)],true,fix3 k m (t.v b.2) (fix2 k (t.v b.2) (fix1 k n (t.v b.2) b.1))⟩],t.n b.2)
structure GVar(gb:Nat)(w0:World)(G:Nat→Nat)(w:World)(rv lv:Value)(rs ls:List NC):Prop where
 c0:w.cell? ⟨gb,0,none⟩=some rv
 c1:w.cell? ⟨gb,1,none⟩=some lv
 f0:w.frozen? ⟨gb,0,none⟩=false
 f1:w.frozen? ⟨gb,1,none⟩=false
 gr:GrP w0 G w rv lv rs ls
 tg:G gb=3
 lt:gb<w.heap.size
 le:w0.heap.size≤w.heap.size
theorem GVar.tagR{gb R:Nat}{w0 w:World}{G:Nat→Nat}{rv lv:Value}{rs ls:List NC}(h:GVar gb w0 G w rv lv rs ls)(hR:R<w0.heap.size):G R=3:=by
 by_cases e:G R=3
 ·exact e
 ·have:=h.gr.new R e
  omega
theorem GVar.later{gb:Nat}{w0 w w':World}{G:Nat→Nat}{rv lv:Value}{rs ls:List NC}{C:Nat→Prop}(h:GVar gb w0 G w rv lv rs ls)(k:Keep C w w')(hC:∀b,C b→b<w0.heap.size∧b≠gb)(t:Nat):GVar gb w0 (tagN G w t) w' rv lv rs ls:=by
 have hb:=k.block gb h.lt (fun q=>(hC gb q).2 rfl)
 exact⟨(World.cell?_of_block (a:=⟨gb,0,none⟩) hb).trans h.c0,(World.cell?_of_block (a:=⟨gb,1,none⟩) hb).trans h.c1,(World.frozen?_of_block (a:=⟨gb,0,none⟩) hb).trans h.f0,(World.frozen?_of_block (a:=⟨gb,1,none⟩) hb).trans h.f1,
  h.gr.later k (fun b q=>h.tagR (hC b q).1) t h.le,by rw[tagN_old h.lt];exact h.tg,Nat.lt_of_lt_of_le h.lt k.size,Nat.le_trans h.le k.size⟩
theorem enter62(args:Array Value)(w:World):(callFunc 62 args).run Tryz.prog w=.ok (.enter 62 args) w:=by
 simp[callFunc,Tryz.func62,Tryz.f62,go_sem]
theorem enter58(args:Array Value)(w:World):(callFunc 58 args).run Tryz.prog w=.ok (.enter 58 args) w:=by
 simp[callFunc,Tryz.func58,Tryz.f58,go_sem]
theorem src_rule{W:World}{g:Nat}{x:NC}{t:TypeId}(hg:W.heap[g]? = some (.cells #[.slice x.na x.d.nm.length x.nc,.slice x.ba x.d.bd.length x.bc] t)):Src Tryz.prog 2 23 (.slice (some ⟨g,0,none⟩) 1 1) 1 (ncR x) W:=by
 refine src_cells Tryz.underlying23 rfl (fun j u hu=>?_) (fun u hu=>ncR_one [x] u (by simpa using hu))
 simp only[World.cell?,hg];rw[←hu];simp[ncR]
theorem src_label{W:World}{g:Nat}{x:NC}{t:TypeId}(hg:W.heap[g]? = some (.cells #[.slice x.na x.d.nm.length x.nc,.bool x.d.has,.slice x.ba x.d.bd.length x.bc] t)):Src Tryz.prog 3 24 (.slice (some ⟨g,0,none⟩) 1 1) 1 (ncL x) W:=by
 refine src_cells Tryz.underlying24 rfl (fun j u hu=>?_) (fun u hu=>ncL_one [x] u (by simpa using hu))
 simp only[World.cell?,hg];rw[←hu];simp[ncL]
def dgI(t:Tp)(R gb:Nat)(W0:World)(n m i0:Nat)(iv:Value)(wr:World):Prop :=
 ∃(k:Nat) (G:Nat→Nat) (rs:List NC) (rv:Value),k≤n∧iv=.int .i64 (k:Int)∧GVar gb W0 G wr rv (.slice none 0 0) rs []∧rs.map (·.d)=(drawRs t n m i0 k).1∧RdA t R wr (drawRs t n m i0 k).2∧Keep (fun b=>b=R∨b=gb) W0 wr
theorem dg_mid{gb R:Nat}{W0 w W2:World}{G:Nat→Nat}{rv lv v:Value}{rs ls:List NC}{D:List OpD}{z:List Int}{na:Option Addr}{N B:Nat→Prop}(tag:Nat)(hR:R<W0.heap.size∧R≠gb)(h:GVar gb W0 G w rv lv rs ls)(k:Keep (fun b=>b=R) w W2)(hn:Ints N .u8 W2 na z.length (lf z))(hb:BodP B W2 v D)(hN:∀b,N b→New w W2 b)(hB:∀b,B b→New w W2 b)(hNB:∀b,N b→¬B b) :
  ∃G',GVar gb W0 G' W2 rv lv rs ls∧Ints (Tg G' W2 2) .u8 W2 na z.length (lf z)∧BodP (Tg G' W2 tag) W2 v D:=by
 classical
 let G':Nat→Nat:=fun b=>if b<w.heap.size then G b else if N b then 2 else if B b then tag else 3
 have old:∀b,b<w.heap.size→G' b=G b:=fun b hb=>if_pos hb
 have hbk:=k.block gb h.lt (fun q=>hR.2 q.symm)
 have zz:=k.size;have hlt:=h.lt;refine⟨G',⟨(World.cell?_of_block (a:=⟨gb,0,none⟩) hbk).trans h.c0,(World.cell?_of_block (a:=⟨gb,1,none⟩) hbk).trans h.c1,(World.frozen?_of_block (a:=⟨gb,0,none⟩) hbk).trans h.f0,(World.frozen?_of_block (a:=⟨gb,1,none⟩) hbk).trans h.f1,
  h.gr.on zz (fun b hb hg=>k.block b hb (fun q=>hg (by rw[q];exact h.tagR hR.1))) old (fun b hb=>?_),by rw[old gb hlt];exact h.tg,by omega,Nat.le_trans h.le zz⟩,hn.wide (fun b q=>⟨(hN b q).2,?_⟩),hb.wide (fun b q=>⟨(hB b q).2,?_⟩)⟩
 ·by_cases e:b<w.heap.size
  ·rw[old b e]at hb;exact h.gr.new b hb
  ·have:=h.le;omega
 ·have h1:=(hN b q).1
  show (if b<w.heap.size then G b else if N b then 2 else if B b then tag else 3)=2
  rw[if_neg (by omega),if_pos q]
 ·have h1:=(hB b q).1
  show (if b<w.heap.size then G b else if N b then 2 else if B b then tag else 3)=tag
  rw[if_neg (by omega),if_neg (fun e=>hNB b e q),if_pos q]
theorem dg_gb{gb tt:Nat}{W0 W2 W4:World}{G:Nat→Nat}{rv lv:Value}{rs ls:List NC}(h:GVar gb W0 G W2 rv lv rs ls)(htt:tt≠3)(g4:Grew (Tg G W2 tt) W2 W4):W4.heap[gb]? = W2.heap[gb]? :=
 g4.block gb h.lt (fun q=>by have:=q.2;rw[h.tg]at this;omega)
theorem dg_cells{gb tt:Nat}{W0 W2 W4:World}{G:Nat→Nat}{rv lv:Value}{rs ls:List NC}(h:GVar gb W0 G W2 rv lv rs ls)(htt:tt≠3)(g4:Grew (Tg G W2 tt) W2 W4):W4.cell? ⟨gb,0,none⟩=some rv∧W4.cell? ⟨gb,1,none⟩=some lv∧W4.frozen? ⟨gb,0,none⟩=false∧W4.frozen? ⟨gb,1,none⟩=false:=by
 have hbk:=dg_gb h htt g4;exact⟨(World.cell?_of_block (a:=⟨gb,0,none⟩) hbk).trans h.c0,(World.cell?_of_block (a:=⟨gb,1,none⟩) hbk).trans h.c1,(World.frozen?_of_block (a:=⟨gb,0,none⟩) hbk).trans h.f0,(World.frozen?_of_block (a:=⟨gb,1,none⟩) hbk).trans h.f1⟩
theorem dg_putR{gb:Nat}{W0 W2 W4:World}{G:Nat→Nat}{rv lv v4:Value}{rs ls:List NC}{x:NC}(h:GVar gb W0 G W2 rv lv rs ls)(hn:Ints (Tg G W2 2) .u8 W2 x.na x.d.nm.length (lf x.d.nm))(hb:BodP (Tg G W2 (4+2*rs.length)) W2 (.slice x.ba x.d.bd.length x.bc) x.d.bd)
  (own:OwnC (fun b=>Tg G W2 0 b∨W2.heap.size≤b) W4 v4 2 (rs.length+1) (rs.flatMap ncR++ncR x)) (g4:Grew (Tg G W2 0) W2 W4):∃G',GVar gb W0 G' (W4.setCell ⟨gb,0,none⟩ v4) v4 lv (rs++[x]) ls:=by
 obtain⟨c0,c1,f0,f1⟩:=dg_cells h (by omega) g4
 have hgr:=h.gr.addRule h.le hn hb own g4;have hlt:=h.lt;have hle:=h.le;have z4:=g4.size;have hg3:tagN G W2 0 gb=3:=by rw[tagN_old hlt];exact h.tg
 exact⟨tagN G W2 0,World.cell?_setCell_same' _ _ _ (by rw[c0];rfl),(World.cell?_setCell_other _ _ _ _ (by simp)).trans c1,by rw[World.frozen?_setCell];exact f0,by rw[World.frozen?_setCell];exact f1,
  hgr.on (by rw[size_set];exact Nat.le_refl _) (fun b hb hg=>Below.heap_setCell _ _ _ _ (fun e=>hg (by rw[show b=gb from e];exact hg3))) (fun b hb=>rfl) hgr.new,hg3,by rw[size_set];omega,by rw[size_set];omega⟩
theorem dg_putL{gb:Nat}{W0 W2 W4:World}{G:Nat→Nat}{rv lv v4:Value}{rs ls:List NC}{x:NC}(h:GVar gb W0 G W2 rv lv rs ls)(hn:Ints (Tg G W2 2) .u8 W2 x.na x.d.nm.length (lf x.d.nm))(hb:BodP (Tg G W2 (5+2*ls.length)) W2 (.slice x.ba x.d.bd.length x.bc) x.d.bd)
  (own:OwnC (fun b=>Tg G W2 1 b∨W2.heap.size≤b) W4 v4 3 (ls.length+1) (ls.flatMap ncL++ncL x)) (g4:Grew (Tg G W2 1) W2 W4):∃G',GVar gb W0 G' (W4.setCell ⟨gb,1,none⟩ v4) rv v4 rs (ls++[x]):=by
 obtain⟨c0,c1,f0,f1⟩:=dg_cells h (by omega) g4
 have hgr:=h.gr.addLabel h.le hn hb own g4;have hlt:=h.lt;have hle:=h.le;have z4:=g4.size;have hg3:tagN G W2 1 gb=3:=by rw[tagN_old hlt];exact h.tg
 exact⟨tagN G W2 1,(World.cell?_setCell_other _ _ _ _ (by simp)).trans c0,World.cell?_setCell_same' _ _ _ (by rw[c1];rfl),by rw[World.frozen?_setCell];exact f0,by rw[World.frozen?_setCell];exact f1,
  hgr.on (by rw[size_set];exact Nat.le_refl _) (fun b hb hg=>Below.heap_setCell _ _ _ _ (fun e=>hg (by rw[show b=gb from e];exact hg3))) (fun b hb=>rfl) hgr.new,hg3,by rw[size_set];omega,by rw[size_set];omega⟩
theorem dg_keep{t:Tp}{gb R i tt o:Nat}{W0 wr W2 W4:World}{G:Nat→Nat}{rv lv v:Value}{rs ls:List NC}(hR:R<gb)(hgb:gb<W0.heap.size)(h:GVar gb W0 G W2 rv lv rs ls)(htt:tt≠3)(kr:Keep (fun b=>b=R∨b=gb) W0 wr)(k:Keep (fun b=>b=R) wr W2)(g4:Grew (Tg G W2 tt) W2 W4)(hrd:RdA t R W2 i) :
  RdA t R (W4.setCell ⟨gb,o,none⟩ v) i∧Keep (fun b=>b=R∨b=gb) W0 (W4.setCell ⟨gb,o,none⟩ v):=by
 have hnew:∀b,Tg G W2 tt b→W0.heap.size≤b:=fun b q=>h.gr.new b (by rw[q.2];exact htt)
 have kk:Keep (fun b=>b=R∨b=gb) W0 W2:=kr.trans (k.mono (fun b q=>.inl q))
 refine⟨(hrd.keep g4.kept (fun b q=>by have:=hnew b q;omega)).keep (Keep.setCell (C:=fun b=>b=gb) _ _ _ rfl) (fun b q=>by omega),?_⟩
 have k4:Keep (fun b=>b=R∨b=gb) W0 W4:=⟨g4.os.trans kk.os,g4.tape.trans kk.tape,g4.output.trans kk.output,Nat.le_trans kk.size g4.size,fun b hb hn=>(g4.block b (Nat.lt_of_lt_of_le hb kk.size) (fun q=>by have:=hnew b q;omega)).trans (kk.block b hb hn)⟩
 exact k4.trans (Keep.setCell _ _ _ (.inr rfl))
theorem BodP.later{w w1 w':World}{v:Value}{D:List OpD}{C:Nat→Prop}(h:BodP (New w w1) w1 v D)(k:Keep C w1 w')(hC:∀b,C b→b<w.heap.size):BodP (New w w1) w' v D :=
 h.on (fun b hb=>k.block b hb.2 (fun q=>by have:=hC b q;have:=hb.1;omega))
theorem ints_two(w:World)(x y:Int)(t:TypeId):Ints (fun _=>True) .i64 (w.alloc (.cells #[.int .i64 x,.int .i64 y] t)) (some ⟨w.heap.size,0,none⟩) [x,y].length (lf [x,y]):=by
 refine .inr ⟨w.heap.size,0,rfl,trivial,fun k hk=>?_⟩
 have hb:=World.alloc_heap_new w (.cells #[.int .i64 x,.int .i64 y] t);simp only[World.cell?,hb];match k,hk with
 |0,_=>rfl
 |1,_=>rfl
theorem gvar_new(w:World){t:TypeId}:GVar w.heap.size (w.alloc (.cells #[.slice none 0 0,.slice none 0 0] t)) (fun _=>3) (w.alloc (.cells #[.slice none 0 0,.slice none 0 0] t)) (.slice none 0 0) (.slice none 0 0) [] []:=by
 have hb:=World.alloc_heap_new w (.cells #[.slice none 0 0,.slice none 0 0] t);refine⟨?_,?_,?_,?_,GrP.nil _,rfl,by simp,Nat.le_refl _⟩
 ·simp only[World.cell?,hb];rfl
 ·simp only[World.cell?,hb];rfl
 ·simp only[World.frozen?,hb];rfl
 ·simp only[World.frozen?,hb];rfl
theorem drawRs_len(t:Tp)(n m i0 k:Nat):(drawRs t n m i0 k).1.length=k:=by
 induction k with
 |zero=>rfl
 |succ k ih=>rw[drawRs];simp[ih]
theorem dgi_step{t:Tp}{R gb:Nat}{W0 W:World}{n m i0 k i2:Nat}{rs:List NC}{p:List NL}{z:List Int}{E D:List OpD}{na ba:Option Addr}{nc bc:Nat}{v:Value}(hlt:k<n)(hrs:rs.map (·.d)=p)(hsu:drawRs t n m i0 (k+1)=(p++[⟨z,true,E⟩],i2))(he:E=D)
  (hE:∃G',GVar gb W0 G' W v (.slice none 0 0) (rs++[⟨⟨z,true,D⟩,na,nc,ba,bc⟩]) []) (hF:RdA t R W i2∧Keep (fun x=>x=R∨x=gb) W0 W):dgI t R gb W0 n m i0 (.int .i64 ((k+1:Nat):Int)) W:=by
 obtain⟨G',hg⟩:=hE;refine⟨k+1,G',_,v,hlt,rfl,hg,?_,?_,hF.2⟩
 ·rw[hsu,List.map_append,hrs,he];rfl
 ·rw[hsu];exact hF.1
structure Lb(lb:Nat)(w:World)(v0:Value)(hs:Bool)(v2:Value):Prop where
 c0:w.cell? ⟨lb,0,none⟩=some v0
 c1:w.cell? ⟨lb,1,none⟩=some (.bool hs)
 c2:w.cell? ⟨lb,2,none⟩=some v2
 f1:w.frozen? ⟨lb,1,none⟩=false
 f2:w.frozen? ⟨lb,2,none⟩=false
theorem Lb.keep{lb:Nat}{w w':World}{v0 v2:Value}{hs:Bool}{C:Nat→Prop}(h:Lb lb w v0 hs v2)(k:Keep C w w')(hC:¬C lb):Lb lb w' v0 hs v2:=by
 have hb:=k.block lb (lt_of_cell h.c0) hC;exact⟨(World.cell?_of_block (a:=⟨lb,0,none⟩) hb).trans h.c0,(World.cell?_of_block (a:=⟨lb,1,none⟩) hb).trans h.c1,(World.cell?_of_block (a:=⟨lb,2,none⟩) hb).trans h.c2,(World.frozen?_of_block (a:=⟨lb,1,none⟩) hb).trans h.f1,(World.frozen?_of_block (a:=⟨lb,2,none⟩) hb).trans h.f2⟩
theorem Lb.set1{lb:Nat}{w:World}{v0 v2:Value}{hs:Bool}(h:Lb lb w v0 hs v2)(x:Bool):Lb lb (w.setCell ⟨lb,1,none⟩ (.bool x)) v0 x v2 :=
 ⟨(World.cell?_setCell_other _ _ _ _ (by simp)).trans h.c0,World.cell?_setCell_same' _ _ _ (by rw[h.c1];rfl),(World.cell?_setCell_other _ _ _ _ (by simp)).trans h.c2,by rw[World.frozen?_setCell];exact h.f1,by rw[World.frozen?_setCell];exact h.f2⟩
theorem Lb.set2{lb:Nat}{w:World}{v0 v2:Value}{hs:Bool}(h:Lb lb w v0 hs v2)(x:Value):Lb lb (w.setCell ⟨lb,2,none⟩ x) v0 hs x :=
 ⟨(World.cell?_setCell_other _ _ _ _ (by simp)).trans h.c0,(World.cell?_setCell_other _ _ _ _ (by simp)).trans h.c1,World.cell?_setCell_same' _ _ _ (by rw[h.c2];rfl),by rw[World.frozen?_setCell];exact h.f1,by rw[World.frozen?_setCell];exact h.f2⟩
theorem keep_set{C:Nat→Prop}{w W:World}(h:Keep C w W){b o:Nat}{v:Value}(hb:w.heap.size≤b):Keep C w (W.setCell ⟨b,o,none⟩ v) :=
 ⟨h.os,h.tape,h.output,by rw[size_set];exact h.size,fun x hx hc=>(Below.heap_setCell _ _ _ _ (fun e=>by have e':x=b:=e;omega)).trans (h.block x hx hc)⟩
theorem RdOn.set{t:Tp}{R i:Nat}{w W:World}(h:RdOn t R i w W){b o:Nat}{v:Value}(hb:w.heap.size≤b)(hR:R<b):RdOn t R i w (W.setCell ⟨b,o,none⟩ v) :=
 ⟨h.1.keep (Keep.setCell (C:=fun x=>x=b) _ _ _ rfl) (fun x e=>by omega),keep_set h.2 hb⟩
theorem lb_new(w:World)(v0:Value){t:TypeId}:Lb w.heap.size (w.alloc (.cells #[v0,.bool false,.slice none 0 0] t)) v0 false (.slice none 0 0):=by
 have hb:=World.alloc_heap_new w (.cells #[v0,.bool false,.slice none 0 0] t);refine⟨?_,?_,?_,?_,?_⟩
 ·simp only[World.cell?,hb];rfl
 ·simp only[World.cell?,hb];rfl
 ·simp only[World.cell?,hb];rfl
 ·simp only[World.frozen?,hb];rfl
 ·simp only[World.frozen?,hb];rfl
theorem bod_nil(P:Nat→Prop)(w:World):BodP P w (.slice none 0 0) []:=⟨fun _=>0,[],⟨.inl ⟨rfl,rfl,rfl⟩,fun i x hx=>by simp at hx⟩,rfl⟩
def labNm(k:Nat):List Int:=if k=0 then [101,49] else if k=1 then [101,114,114] else [109,105,100,95,50]
def drawLb(t:Tp)(n i:Nat):(Bool×List OpD)×Nat :=
 if t.v i%8<6 then
  if t.v i%8<2 then ((true,unD 6 (binD 4 (unD 7 (setD (drawS t (t.n i)).1)) (setD [0,255]))),(drawS t (t.n i)).2)
  else if t.v i%8=2 then ((true,leafD 0 0),t.n i)
  else if t.v i%8=3 then ((true,setD [0,255]),t.n i)
  else ((true,(drawE t n n 0 3 false (t.n i)).1),(drawE t n n 0 3 false (t.n i)).2)
 else ((false,[]),t.n i)
def drawLs(t:Tp)(n i1:Nat):Nat→List NL×Nat
 |0=>([],i1)
 |k+1=>((drawLs t n i1 k).1++[⟨labNm k,(drawLb t n (drawLs t n i1 k).2).1.1,(drawLb t n (drawLs t n i1 k).2).1.2⟩],(drawLb t n (drawLs t n i1 k).2).2)
theorem drawLs_len(t:Tp)(n i1 k:Nat):(drawLs t n i1 k).1.length=k:=by
 induction k with
 |zero=>rfl
 |succ k ih=>rw[drawLs];simp[ih]
def throwsL(bd:List OpD)(i:Nat):Bool:=bd.any fun o=>decide (o.kind=3)&&decide (o.arg=(i:Int))
theorem throwsL_iff(bd:List OpD)(i:Nat):M.Throws bd.length (df bd) i↔throwsL bd i=true:=by
 unfold throwsL;rw[List.any_eq_true];constructor
 ·rintro⟨j,hj,h1,h2⟩
  rw[df_at (List.getElem?_eq_getElem hj)]at h1 h2;exact⟨bd[j],List.getElem_mem hj,by simp[h1,h2]⟩
 ·rintro⟨o,ho,h⟩
  obtain⟨j,hj,rfl⟩:=List.getElem_of_mem ho;simp at h;exact⟨j,hj,by rw[df_at (List.getElem?_eq_getElem hj)];exact h.1,by rw[df_at (List.getElem?_eq_getElem hj)];exact h.2⟩
def tidy1(rs:List NL)(i:Nat)(x:NL):NL:=if x.has then x else if rs.any (fun r=>throwsL r.bd i) then ⟨x.nm,false,[]⟩ else ⟨x.nm,true,leafD 0 0⟩
def tidyK(rs:List NL)(ls:List NL)(k:Nat):List NL:=ls.mapIdx fun i x=>if i<k then tidy1 rs i x else x
def drawG(t:Tp)(i:Nat):(List NL×List NL)×Nat :=
 let n:=1+t.v i%4
 let m:=t.v (t.n i)%4
 let p:=drawRs t n m (t.n (t.n i)) n
 let q:=drawLs t n p.2 m
 ((p.1,tidyK p.1 q.1 m),q.2)
def DrG(t:Tp)(R:Nat)(g:(List NL×List NL)×Nat)(w:World)(e:Ending)(w':World):Prop :=
 ∃rv lv G rs ls,e=.returned (.agg #[rv,lv])∧GrP w G w' rv lv rs ls∧rs.map (·.d)=g.1.1∧ls.map (·.d)=g.1.2∧RdOn t R g.2 w w'
theorem lb_fin{t:Tp}{R i lb:Nat}{wr A1 A2 A3 wk wn:World}{v0 v2:Value}{hs:Bool}{na ba:Option Addr}{bc:Nat}{z:List Int}{D:List OpD}(hR:RdOn t R i wr wn)(hL:Lb lb wk v0 hs v2)(hN:Ints (New A1 A2) .u8 wk na z.length (lf z))(hM:Keep (fun b=>b=R) wk wn)(hb:BodP (New wk wn) wn (.slice ba D.length bc) D)
  (h1:lb=A2.heap.size) (h2:A3.heap.size=lb+1) (h3:A3.heap.size≤wk.heap.size) (h4:wr.heap.size≤lb) (h5:R<wr.heap.size) (h6:wr.heap.size≤A1.heap.size) :
  Lb lb (wn.setCell ⟨lb,2,none⟩ (.slice ba D.length bc)) v0 hs (.slice ba D.length bc)∧BodP (New A3 (wn.setCell ⟨lb,2,none⟩ (.slice ba D.length bc))) (wn.setCell ⟨lb,2,none⟩ (.slice ba D.length bc)) (.slice ba D.length bc) D∧RdOn t R i wr (wn.setCell ⟨lb,2,none⟩ (.slice ba D.length bc))∧Ints (New A1 A2) .u8 (wn.setCell ⟨lb,2,none⟩ (.slice ba D.length bc)) na z.length (lf z):=by
 refine⟨(hL.keep hM (fun e=>by omega)).set2 _,(hb.on (fun b q=>Below.heap_setCell _ _ _ _ (fun e=>by have e':b=lb:=e;have:=q.1;omega))).wide (fun b q=>⟨by have:=q.1;omega,by rw[size_set];exact q.2⟩),hR.set h4 (by omega),?_⟩
 exact (hN.kept hM (fun b q e=>by have:=q.1;omega)).kept (Keep.setCell (C:=fun b=>b=lb) _ _ _ rfl) (fun b q e=>by have:=q.2;omega)
theorem keep_far{R:Nat}{w X Y:World}{C:Nat→Prop}(h:Keep (fun b=>b=R) w X)(k:Keep C X Y)(hC:∀b,C b→b=R∨w.heap.size≤b):Keep (fun b=>b=R) w Y :=
 ⟨k.os.trans h.os,k.tape.trans h.tape,k.output.trans h.output,Nat.le_trans h.size k.size,fun b hb hn=>(k.block b (Nat.lt_of_lt_of_le hb h.size) (fun q=>by
  rcases hC b q with e | e
  ·exact hn e
  ·omega)).trans (h.block b hb hn)⟩
theorem GrP.base{w0 w1 w:World}{G:Nat→Nat}{rv lv:Value}{rs ls:List NC}(h:GrP w0 G w rv lv rs ls)(hz:w1.heap.size≤w0.heap.size):GrP w1 G w rv lv rs ls :=
 ⟨h.rules,h.labs,h.rn,h.ln,h.rb,h.lb,fun b hb=>Nat.le_trans hz (h.new b hb)⟩
theorem GrP.set{w0 w:World}{G:Nat→Nat}{rv lv u:Value}{rs ls:List NC}{rb o:Nat}(h:GrP w0 G w rv lv rs ls)(hg:G rb=3):GrP w0 G (w.setCell ⟨rb,o,none⟩ u) rv lv rs ls :=
 h.on (by rw[size_set];exact Nat.le_refl _) (fun b hb hq=>Below.heap_setCell _ _ _ _ (fun e=>hq (by rw[show b=rb from e];exact hg))) (fun b hb=>rfl) h.new
theorem GrP.tag{w0 w:World}{G:Nat→Nat}{rv lv:Value}{rs ls:List NC}(h:GrP w0 G w rv lv rs ls){b:Nat}(hb:b<w0.heap.size):G b=3:=by
 by_cases e:G b=3
 ·exact e
 ·have:=h.new b e
  omega
end
section
open Go.RowKit
open M (OpD NodeD Gr)
theorem GVar.putL{gb:Nat}{w0 w:World}{G:Nat→Nat}{rv:Value}{rs ls:List NC}{g n c i j:Nat}{x y:NC}{u:Value}(h:GVar gb w0 G w rv (.slice (some ⟨g,0,none⟩) n c) rs ls)(hx:ls[i]? = some x)(hj:j<3)(hy:ncL y=(ncL x).set j u)(hg:Tg G w 1 g)(hn:Ints (Tg G w 2) .u8 w y.na y.d.nm.length (lf y.d.nm))(hb:BodP (Tg G w (5+2*i)) w (.slice y.ba y.d.bd.length y.bc) y.d.bd) :
    GVar gb w0 G (w.setCell ⟨g,i*3+j,none⟩ u) rv (.slice (some ⟨g,0,none⟩) n c) rs (ls.set i y):=by
  have hne:gb≠g:=fun e=>by have h1:=hg.2;rw[←e,h.tg]at h1;omega
  have hb':(w.setCell ⟨g,i*3+j,none⟩ u).heap[gb]? = w.heap[gb]?:=Below.heap_setCell _ _ _ _ hne;exact⟨(World.cell?_of_block (a:=⟨gb,0,none⟩) hb').trans h.c0,(World.cell?_of_block (a:=⟨gb,1,none⟩) hb').trans h.c1,(World.frozen?_of_block (a:=⟨gb,0,none⟩) hb').trans h.f0,(World.frozen?_of_block (a:=⟨gb,1,none⟩) hb').trans h.f1,h.gr.putL hx hj hy hg hn hb,h.tg,by rw[size_set];exact h.lt,by rw[size_set];exact h.le⟩
theorem GVar.putR{gb:Nat}{w0 w:World}{G:Nat→Nat}{lv:Value}{rs ls:List NC}{g n c i j:Nat}{x y:NC}{u:Value}(h:GVar gb w0 G w (.slice (some ⟨g,0,none⟩) n c) lv rs ls)(hx:rs[i]? = some x)(hj:j<2)(hy:ncR y=(ncR x).set j u)(hg:Tg G w 0 g)(hn:Ints (Tg G w 2) .u8 w y.na y.d.nm.length (lf y.d.nm))(hb:BodP (Tg G w (4+2*i)) w (.slice y.ba y.d.bd.length y.bc) y.d.bd) :
    GVar gb w0 G (w.setCell ⟨g,i*2+j,none⟩ u) (.slice (some ⟨g,0,none⟩) n c) lv (rs.set i y) ls:=by
  have hne:gb≠g:=fun e=>by have h1:=hg.2;rw[←e,h.tg]at h1;omega
  have hb':(w.setCell ⟨g,i*2+j,none⟩ u).heap[gb]? = w.heap[gb]?:=Below.heap_setCell _ _ _ _ hne;exact⟨(World.cell?_of_block (a:=⟨gb,0,none⟩) hb').trans h.c0,(World.cell?_of_block (a:=⟨gb,1,none⟩) hb').trans h.c1,(World.frozen?_of_block (a:=⟨gb,0,none⟩) hb').trans h.f0,(World.frozen?_of_block (a:=⟨gb,1,none⟩) hb').trans h.f1,h.gr.putR hx hj hy hg hn hb,h.tg,by rw[size_set];exact h.lt,by rw[size_set];exact h.le⟩
theorem GVar.tagged{gb:Nat}{w0 w w':World}{G:Nat→Nat}{rv lv v:Value}{rs ls:List NC}{D:List OpD}(h:GVar gb w0 G w rv lv rs ls)(k:Keep (fun _=>False) w w')(hb:BodP (New w w') w' v D)(tag:Nat):GVar gb w0 (tagN G w tag) w' rv lv rs ls∧BodP (Tg (tagN G w tag) w' tag) w' v D :=
  ⟨h.later k (fun _ q=>q.elim) tag,hb.wide (fun b q=>tg_new q)⟩
def tdI(gb:Nat)(w0 w W1:World)(rv lv:Value)(rs:List NC)(ls0:List NL)(iv:Value)(wr:World):Prop :=
  ∃(k:Nat) (G:Nat→Nat) (ls:List NC),k≤ls0.length∧iv=.int .i64 (k:Int)∧GVar gb w0 G wr rv lv rs ls∧ls.map (·.d)=tidyK (rs.map (·.d)) ls0 k∧Keep (fun b=>w0.heap.size≤b∧b<w.heap.size) W1 wr∧G (gb+1)=3
def tdJ(gb:Nat)(w0 w W1:World)(rv lv:Value)(rs:List NC)(L:List NL)(k:Nat)(z:List Int)(jv:Value)(wr:World):Prop :=
  ∃(j:Nat) (G:Nat→Nat) (ls:List NC) (x:NC),j≤rs.length∧jv=.int .i64 (j:Int)∧GVar gb w0 G wr rv lv rs ls∧ls[k]? = some x∧x.d=(if ((rs.map (·.d)).take j).any (fun r=>throwsL r.bd k) then ⟨z,false,[]⟩ else ⟨z,true,leafD 0 0⟩)∧ls.map (·.d)=L.set k x.d∧Keep (fun b=>w0.heap.size≤b∧b<w.heap.size) W1 wr∧G (gb+1)=3
def Two(rb:Nat)(w:World):Prop:=w.cell? ⟨rb,0,none⟩=some (.slice none 0 0)∧w.cell? ⟨rb,1,none⟩=some (.slice none 0 0)∧w.frozen? ⟨rb,0,none⟩=false∧w.frozen? ⟨rb,1,none⟩=false
theorem Two.keep{rb:Nat}{w w':World}{C:Nat→Prop}(h:Two rb w)(k:Keep C w w')(hC:¬C rb):Two rb w':=by
  have hb:=k.block rb (lt_of_cell h.1) hC;exact⟨(World.cell?_of_block (a:=⟨rb,0,none⟩) hb).trans h.1,(World.cell?_of_block (a:=⟨rb,1,none⟩) hb).trans h.2.1,(World.frozen?_of_block (a:=⟨rb,0,none⟩) hb).trans h.2.2.1,(World.frozen?_of_block (a:=⟨rb,1,none⟩) hb).trans h.2.2.2⟩
theorem two_new(w:World){t:TypeId}:Two w.heap.size (w.alloc (.cells #[.slice none 0 0,.slice none 0 0] t)):=by
  have h:=gvar_new w (t:=t);exact⟨h.c0,h.c1,h.f0,h.f1⟩
theorem gvar_out{gb rb:Nat}{w0 w:World}{G:Nat→Nat}{rv lv u0 u1:Value}{rs ls:List NC}(h:GVar gb w0 G w rv lv rs ls)(hg:G rb=3):GrP w0 G ((w.setCell ⟨rb,0,none⟩ u0).setCell ⟨rb,1,none⟩ u1) rv lv rs ls :=
  h.gr.on (by rw[size_set,size_set];exact Nat.le_refl _) (fun b hb hq=>by
    have hne:b≠rb:=fun e=>hq (e▸hg)
    rw[Below.heap_setCell _ _ _ _ hne,Below.heap_setCell _ _ _ _ hne]) (fun b hb=>rfl) h.gr.new
theorem tidyK_len(rs ls:List NL)(k:Nat):(tidyK rs ls k).length=ls.length:=by unfold tidyK;simp
theorem tidyK_at{rs ls:List NL}{k:Nat}{x:NL}(h:(tidyK rs ls k)[k]? = some x):tidyK rs ls (k+1)=(tidyK rs ls k).set k (tidy1 rs k x):=by
  have hk:k<ls.length:=by have:=(List.getElem?_eq_some_iff.1 h).1;rwa [tidyK_len]at this
  have hx:ls[k]? = some x:=by
    unfold tidyK at h;rw[List.getElem?_mapIdx]at h;cases e:ls[k]? with
    |none=>rw[e]at h;cases h
    |some y=>rw[e]at h;simp at h;rw[h]
  apply List.ext_getElem?
  intro j;by_cases e:j=k
  · subst e
    rw[List.getElem?_set_self (by rw[tidyK_len];exact hk)]
    unfold tidyK;rw[List.getElem?_mapIdx,hx];simp
  · rw[List.getElem?_set_ne (by omega)]
    unfold tidyK;rw[List.getElem?_mapIdx,List.getElem?_mapIdx];cases ls[j]? with
    |none=>rfl
    |some y =>
      simp only[Option.map_some];by_cases e2:j<k
      · rw[if_pos (by omega),if_pos e2]
      · rw[if_neg (by omega),if_neg e2]
theorem tidyK_zero(rs ls:List NL):tidyK rs ls 0=ls:=by
  apply List.ext_getElem?
  intro j;unfold tidyK;rw[List.getElem?_mapIdx];cases ls[j]?<;>simp
theorem gvar_box{w0 w:World}{G:Nat→Nat}{rv lv:Value}{rs ls:List NC}(h:GrP w0 G w rv lv rs ls)(hz:w0.heap.size≤w.heap.size){t:TypeId}:GVar w.heap.size w0 (tagN G w 3) (w.alloc (.cells #[rv,lv] t)) rv lv rs ls:=by
  have hb:=World.alloc_heap_new w (.cells #[rv,lv] t);refine⟨?_,?_,?_,?_,h.later (Keep.alloc (fun _=>False) _ _) (fun _ q=>q.elim) 3 hz,tagN_new (Nat.le_refl _),by simp,by simp;omega⟩
  · simp only[World.cell?,hb];rfl
  · simp only[World.cell?,hb];rfl
  · simp only[World.frozen?,hb];rfl
  · simp only[World.frozen?,hb];rfl
theorem set_self{α:Type}{l:List α}{k:Nat}{x:α}(h:l[k]? = some x):l.set k x=l:=by
  apply List.ext_getElem?
  intro j;by_cases e:j=k
  · subst e;rw[List.getElem?_set_self (List.getElem?_eq_some_iff.1 h).1,h]
  · rw[List.getElem?_set_ne (by omega)]
def TdIs(w0:World)(rv lv:Value)(rs:List NC)(ls0:List NL)(w:World)(e:Ending)(w':World):Prop :=
  ∃G' ls',e=.returned (.agg #[rv,lv])∧GrP w0 G' w' rv lv rs ls'∧ls'.map (·.d)=tidyK (rs.map (·.d)) ls0 ls0.length∧Keep (fun b=>w0.heap.size≤b) w w'
set_option maxRecDepth 100000 in
set_option maxHeartbeats 20000000 in
theorem l2tidy_any(w0 w:World)(G:Nat→Nat)(ra la:Option Addr)(rc lc:Nat)(rs ls:List NC)(h:GrP w0 G w (.slice ra rs.length rc) (.slice la ls.length lc) rs ls)(hz:w0.heap.size≤w.heap.size)(hr:rs.length≤1000)(hl:ls.length≤1000)(hb:∀x∈rs,x.d.bd.length≤1048576) :
    Calls Tryz.prog 64 #[.agg #[.slice ra rs.length rc,.slice la ls.length lc]] w (TdIs w0 (.slice ra rs.length rc) (.slice la ls.length lc) rs (ls.map (·.d)) w):=by
  have HB:Hid (∀x∈rs,x.d.bd.length≤1048576):=hb;obtain⟨ls0,hls0⟩:∃l,ls.map (·.d)=l:=⟨_,rfl⟩
  have hlen0:ls.length=ls0.length:=by rw[←hls0,List.length_map]
  have HIN:Hid (GVar w.heap.size w0 (tagN G w 3) (w.alloc (.cells #[.slice ra rs.length rc,.slice la ls.length lc] 26)) (.slice ra rs.length rc) (.slice la ls.length lc) rs ls):=gvar_box h hz;have HIN2:Hid (GVar w.heap.size w0 (tagN (tagN G w 3) (w.alloc (.cells #[.slice ra rs.length rc,.slice la ls.length lc] 26)) 3) ((w.alloc (.cells #[.slice ra rs.length rc,.slice la ls.length lc] 26)).alloc (.cells #[.slice none 0 0,.slice none 0 0] 26)) (.slice ra rs.length rc) (.slice la ls.length lc) rs ls):=HIN.out.later (Keep.alloc (fun _=>False) _ _) (fun _ q=>q.elim) 3
  have HTW:Hid (Two (w.heap.size+1) ((w.alloc (.cells #[.slice ra rs.length rc,.slice la ls.length lc] 26)).alloc (.cells #[.slice none 0 0,.slice none 0 0] 26))):=by
    show Two _ _;have:=two_new (w.alloc (.cells #[.slice ra rs.length rc,.slice la ls.length lc] 26)) (t:=26);simpa using this
  have HLS:Hid (ls.map (·.d)=ls0):=hls0
  have HZ:Hid (w0.heap.size≤w.heap.size):=hz;have HGW:Hid (0<ls.length→∃g,la=some ⟨g,0,none⟩∧g<w.heap.size∧w0.heap.size≤g):=fun hp=>by
    obtain⟨g,c,e,hq,_⟩:=h.labs.at_ hp;exact⟨g,by injection e,hq.1,h.new g (by rw[hq.2];omega)⟩
  have HKW:Hid (Keep (fun _=>False) w ((w.alloc (.cells #[.slice ra rs.length rc,.slice la ls.length lc] 26)).alloc (.cells #[.slice none 0 0,.slice none 0 0] 26))):=(Keep.alloc _ _ _).trans (Keep.alloc _ _ _)
  have hsz1:((w.alloc (.cells #[.slice ra rs.length rc,.slice la ls.length lc] 26)).alloc (.cells #[.slice none 0 0,.slice none 0 0] 26)).heap.size=w.heap.size+2:=by simp
  have HG3:Hid (tagN (tagN G w 3) (w.alloc (.cells #[.slice ra rs.length rc,.slice la ls.length lc] 26)) 3 (w.heap.size+1)=3):=tagN_new (by simp)
  clear h hb hls0 HIN hz;generalize hm:ls.length=m at *;generalize hn:rs.length=n at *;have HNN:Hid (rs.length=n):=hn;have HMM:Hid (ls0.length=m):=hlen0.symm;rw[HLS.out];clear hm hn hlen0;go_enter Tryz.func64,Tryz.ntmps64;go_wp2_with fail;generalize (w.alloc (.cells #[.slice ra n rc,.slice la m lc] 26)).alloc (.cells #[.slice none 0 0,.slice none 0 0] 26)=W1 at *;go_loopw [3] (fun iv wr=>tdI w.heap.size w0 w W1 (.slice ra n rc) (.slice la m lc) rs ls0 iv wr) (fun iv _=>m-(intOf iv).toNat)
  case atStart=>exact⟨0,_,ls,Nat.zero_le _,rfl,HIN2.out,by rw[tidyK_zero];exact HLS.out,Keep.refl _ _,HG3.out⟩
  case round =>
    obtain⟨k,G1,ls1,hk,rfl,hg,hls1,hkeep,hg3⟩:=hrel;have c0:=hg.c0;have c1:=hg.c1;have hwl:=hkeep.size;have HG:Hid (GVar w.heap.size w0 G1 wr (.slice ra n rc) (.slice la m lc) rs ls1):=hg;have HL1:Hid (ls1.map (·.d)=tidyK (rs.map (·.d)) ls0 k):=hls1
    have HKP:Hid (Keep (fun b=>w0.heap.size≤b∧b<w.heap.size) W1 wr):=hkeep
    have hlen1:ls1.length=ls0.length:=by rw[←List.length_map (f:=(·.d)),hls1,tidyK_len]
    rw[HMM.out]at hk hlen1;clear hg hls1 hkeep;by_cases hlt:k<m
    · have hlt':(k:Int)<(m:Int):=by omega
      have hx:ls1[k]? = some ls1[k]:=List.getElem?_eq_getElem (by omega)
      obtain⟨x,hxe⟩:∃y,ls1[k]=y:=⟨_,rfl⟩;rw[hxe]at hx;have HX:Hid (ls1[k]? = some x):=hx;have HT:Hid (tidyK (rs.map (·.d)) ls0 (k+1)=(tidyK (rs.map (·.d)) ls0 k).set k (tidy1 (rs.map (·.d)) k x.d)):=tidyK_at (by rw[←HL1.out,List.getElem?_map,hx];rfl)
      obtain⟨g,c,e,hgt,hgc,x0,x1,x2,fx1,fx2⟩:=HG.out.gr.labelAt hx;obtain rfl:la=some ⟨g,0,none⟩:=by injection e
      have HGT:Hid (Tg G1 wr 1 g):=hgt;have hgw:g<w.heap.size∧w0.heap.size≤g:=by
        obtain⟨g',e',h1,h2⟩:=HGW.out (by omega)
        cases e'
        exact⟨h1,h2⟩
      have hgl:=hgt.1;clear hxe hx e hgt hgc hlen1;by_cases hh:x.d.has=true
      · rw[hh]at x1
        have HE:Hid (tdI w.heap.size w0 w W1 (.slice ra n rc) (.slice (some ⟨g,0,none⟩) m lc) rs ls0 (.int .i64 ((k+1:Nat):Int)) wr):=⟨k+1,G1,ls1,by have:=HMM.out;omega,rfl,HG.out,by rw[HT.out,tidy1,if_pos hh,←HL1.out,set_self (by rw[List.getElem?_map,HX.out];rfl)],HKP.out,hg3⟩
        go_wp2;go_roundw;all_goals first|exact HE.out|(simp[intOf];omega)
      · have hh':x.d.has=false:=by simpa using hh
        rw[hh']at x1;have HGa:Hid (GVar w.heap.size w0 G1 (wr.setCell ⟨g,k*3+1,none⟩ (.bool true)) (.slice ra n rc) (.slice (some ⟨g,0,none⟩) m lc) rs (ls1.set k ⟨⟨x.d.nm,true,x.d.bd⟩,x.na,x.nc,x.ba,x.bc⟩)):=HG.out.putL HX.out (by omega) (by simp[ncL]) HGT.out (HG.out.gr.ln x (List.mem_of_getElem? HX.out)) (HG.out.gr.lb k x HX.out)
        have HKa:Hid (Keep (fun b=>w0.heap.size≤b∧b<w.heap.size) W1 (wr.setCell ⟨g,k*3+1,none⟩ (.bool true))):=HKP.out.trans (Keep.setCell _ _ _ ⟨hgw.2,hgw.1⟩)
        have fx2a:(wr.setCell ⟨g,k*3+1,none⟩ (.bool true)).frozen? ⟨g,k*3+2,none⟩=false:=by rw[World.frozen?_setCell];exact fx2
        have hgb:w.heap.size<wr.heap.size:=lt_of_cell c0;have HSZ:Hid (wr.heap.size=(wr.setCell ⟨g,k*3+1,none⟩ (.bool true)).heap.size):=(size_set _ _ _).symm;go_wp2_with fail;generalize hWa:wr.setCell ⟨g,k*3+1,none⟩ (.bool true)=Wa at *;have a1:=HGa.out.c1;have hxa:(ls1.set k ⟨⟨x.d.nm,true,x.d.bd⟩,x.na,x.nc,x.ba,x.bc⟩)[k]? = some ⟨⟨x.d.nm,true,x.d.bd⟩,x.na,x.nc,x.ba,x.bc⟩:=List.getElem?_set_self (List.getElem?_eq_some_iff.1 HX.out).1;obtain⟨g',c',e',hgt',_,y0,y1,y2,fy1,fy2⟩:=HGa.out.gr.labelAt hxa;obtain rfl:g=g':=by injection e' with e1;injection e1 with e1;injection e1 with e1
        have HXA:Hid ((ls1.set k ⟨⟨x.d.nm,true,x.d.bd⟩,x.na,x.nc,x.ba,x.bc⟩)[k]? = some ⟨⟨x.d.nm,true,x.d.bd⟩,x.na,x.nc,x.ba,x.bc⟩):=hxa;clear hxa e' hgt' y0 y1 x0 x1 x2 fx1 fx2 fx2a c0 c1 hWa;have hya:(ls1.set k ⟨⟨x.d.nm,true,x.d.bd⟩,x.na,x.nc,x.ba,x.bc⟩).map (·.d)=(tidyK (rs.map (·.d)) ls0 k).set k ⟨x.d.nm,true,x.d.bd⟩:=by rw[List.map_set,HL1.out]
        have HYA:Hid ((ls1.set k ⟨⟨x.d.nm,true,x.d.bd⟩,x.na,x.nc,x.ba,x.bc⟩).map (·.d)=(tidyK (rs.map (·.d)) ls0 k).set k ⟨x.d.nm,true,x.d.bd⟩):=hya
        have HG3':Hid (G1 (w.heap.size+1)=3):=hg3;have hwa:wr.heap.size=Wa.heap.size:=HSZ.out;clear hya hg3 HL1 HX HG HKP HGT;generalize hlsa:ls1.set k ⟨⟨x.d.nm,true,x.d.bd⟩,x.na,x.nc,x.ba,x.bc⟩=lsa at *;go_cut [3] from 5 to 54 (fun v wc=>v=.int .i64 (k:Int)∧tdJ w.heap.size w0 w W1 (.slice ra n rc) (.slice (some ⟨g,0,none⟩) m lc) rs (tidyK (rs.map (·.d)) ls0 k) k x.d.nm (.int .i64 0) wc)
        case first =>
          go_region_law
            (refine stepC2 enter58 rfl (.const (.int .i64 0)) (.const (.int .i64 0)) 3 3 rfl (y1:=.int .i64 0) (y2:=.int .i64 0) rfl rfl ((l2leaf_any 0 0 Wa.drew).mono ?_)
             rintro e W2 ⟨ba,bc,rfl,hbod,hkk⟩;have k2:Keep (fun _=>False) Wa W2:=(Keep.drew _ _).trans hkk
             have hb2':BodP (New Wa W2) W2 (.slice ba (leafD 0 0).length bc) (leafD 0 0):=hbod;obtain⟨hg2,hb2⟩:=HGa.out.tagged k2 hb2' (5+2*k);have z1:=hg2.c1;have zl:=lt_of_cell z1;obtain⟨g2,c2,e2,hgt2,_,_,_,s2,_,q2⟩:=hg2.gr.labelAt HXA.out;obtain rfl:g=g2:=by injection e2 with e1;injection e1 with e1;injection e1 with e1
             have HE0:Hid (tdJ w.heap.size w0 w W1 (.slice ra n rc) (.slice (some ⟨g,0,none⟩) m lc) rs (tidyK (rs.map (·.d)) ls0 k) k x.d.nm (.int .i64 0) (W2.setCell ⟨g,k*3+2,none⟩ (.slice ba (leafD 0 0).length bc))):=⟨0,tagN G1 Wa (5+2*k),lsa.set k ⟨⟨x.d.nm,true,leafD 0 0⟩,x.na,x.nc,ba,bc⟩,⟨⟨x.d.nm,true,leafD 0 0⟩,x.na,x.nc,ba,bc⟩,Nat.zero_le _,rfl,hg2.putL HXA.out (by omega) (by simp[ncL]) hgt2 (hg2.gr.ln ⟨⟨x.d.nm,true,x.d.bd⟩,x.na,x.nc,x.ba,x.bc⟩ (List.mem_of_getElem? HXA.out)) hb2,List.getElem?_set_self (List.getElem?_eq_some_iff.1 HXA.out).1,by simp,by rw[List.map_set,HYA.out,List.set_set],(HKa.out.trans (k2.mono (fun _ q=>q.elim))).trans (Keep.setCell _ _ _ ⟨hgw.2,hgw.1⟩),by rw[tagN_old (by omega)];exact HG3'.out⟩
             clear hbod hkk k2 hb2' hg2 hb2 e2 hgt2;refine⟨_,rfl,?_⟩)
          all_goals go_goals
          all_goals go_wp2_with fail
          all_goals go_meet
          all_goals exact⟨rfl,HE0.out⟩
        case rest =>
          obtain⟨rfl,hj0⟩:=hcut;have HJ0:Hid (tdJ w.heap.size w0 w W1 (.slice ra n rc) (.slice (some ⟨g,0,none⟩) m lc) rs (tidyK (rs.map (·.d)) ls0 k) k x.d.nm (.int .i64 0) wc):=hj0
          clear hj0;go_wp2_with fail;go_loopw [4] (fun jv wx=>tdJ w.heap.size w0 w W1 (.slice ra n rc) (.slice (some ⟨g,0,none⟩) m lc) rs (tidyK (rs.map (·.d)) ls0 k) k x.d.nm jv wx) (fun jv _=>n-(intOf jv).toNat)
          case atStart=>exact HJ0.out
          case round =>
            obtain⟨j,G2,ls2,y,hj,rfl,hg,hy,hyd,hls2,hkeep,hg32⟩:=hrel;rw[HNN.out]at hj;have c0:=hg.c0;have c1:=hg.c1;have HG2:Hid (GVar w.heap.size w0 G2 wr (.slice ra n rc) (.slice (some ⟨g,0,none⟩) m lc) rs ls2):=hg;have HY:Hid (ls2[k]? = some y):=hy;have HYD:Hid (y.d=(if ((rs.map (·.d)).take j).any (fun r=>throwsL r.bd k) then ⟨x.d.nm,false,[]⟩ else ⟨x.d.nm,true,leafD 0 0⟩)):=hyd
            have HL2:Hid (ls2.map (·.d)=(tidyK (rs.map (·.d)) ls0 k).set k y.d):=hls2
            have HK2:Hid (Keep (fun b=>w0.heap.size≤b∧b<w.heap.size) W1 wr):=hkeep
            have HG32:Hid (G2 (w.heap.size+1)=3):=hg32;clear hg hy hyd hls2 hkeep hg32;by_cases hjn:j<n
            · have hjn':(j:Int)<(n:Int):=by omega
              obtain⟨xr,hr1⟩:∃y,rs[j]? = some y:=⟨_,List.getElem?_eq_getElem (by have:=HNN.out;omega)⟩
              have HTK:Hid ((rs.map (·.d)).take (j+1)=(rs.map (·.d)).take j++[xr.d]):=by
                show _=_;rw[List.take_add_one,List.getElem?_map,hr1];rfl
              obtain⟨g0,c0',e0,_,_,_,r1,_,_⟩:=HG2.out.gr.ruleAt hr1;obtain rfl:ra=some ⟨g0,0,none⟩:=by injection e0
              have hops:=(HG2.out.gr.rb j xr hr1).ops;have hxl:xr.d.bd.length≤1048576:=HB.out xr (List.mem_of_getElem? hr1);have HOP:Hid (OpsA (Tg G2 wr (4+2*j)) wr xr.ba xr.d.bd.length (df xr.d.bd)):=hops;clear hr1 e0 hops;go_wp2_with fail;refine (l2throws_any _ xr.ba xr.d.bd.length xr.bc k (df xr.d.bd) wr HOP.out hxl).mono ?_;rintro e w5 ⟨⟨r,rfl,hiff⟩,rfl⟩;rw[throwsL_iff]at hiff;cases r with
              |false =>
                have hth:throwsL xr.d.bd k=false:=by
                  cases ht:throwsL xr.d.bd k with
                  |false=>rfl
                  |true=>exact absurd (hiff.2 ht) (by simp)
                have HE:Hid (tdJ w.heap.size w0 w W1 (.slice (some ⟨g0,0,none⟩) n rc) (.slice (some ⟨g,0,none⟩) m lc) rs (tidyK (rs.map (·.d)) ls0 k) k x.d.nm (.int .i64 ((j+1:Nat):Int)) wr):=⟨j+1,G2,ls2,y,by have:=HNN.out;omega,rfl,HG2.out,HY.out,by rw[HTK.out,List.any_append,HYD.out];simp[hth],HL2.out,HK2.out,HG32.out⟩
                clear hiff hth;go_wp2;go_roundw;all_goals first|exact HE.out|(simp[intOf];omega)
              |true =>
                have hth:throwsL xr.d.bd k=true:=hiff.1 rfl;obtain⟨g5,c5,e5,hgt5,_,_,s1,s2,q1,q2⟩:=HG2.out.gr.labelAt HY.out;obtain rfl:g=g5:=by injection e5 with e1;injection e1 with e1;injection e1 with e1
                have hgl5:=hgt5.1;have hp1:=HG2.out.putL (y:=⟨⟨y.d.nm,false,y.d.bd⟩,y.na,y.nc,y.ba,y.bc⟩) (u:=.bool false) HY.out (show 1<3 by omega) (by simp[ncL]) hgt5 (HG2.out.gr.ln y (List.mem_of_getElem? HY.out)) (HG2.out.gr.lb k y HY.out)
                have hy1:(ls2.set k ⟨⟨y.d.nm,false,y.d.bd⟩,y.na,y.nc,y.ba,y.bc⟩)[k]? = some ⟨⟨y.d.nm,false,y.d.bd⟩,y.na,y.nc,y.ba,y.bc⟩:=List.getElem?_set_self (List.getElem?_eq_some_iff.1 HY.out).1;have hgt6:Tg G2 (wr.setCell ⟨g,k*3+1,none⟩ (.bool false)) 1 g:=⟨by rw[size_set];exact hgt5.1,hgt5.2⟩
                have hp2:=hp1.putL (y:=⟨⟨y.d.nm,false,[]⟩,y.na,y.nc,none,0⟩) (u:=.slice none 0 0) hy1 (show 2<3 by omega) (by simp[ncL]) hgt6 (hp1.gr.ln ⟨⟨y.d.nm,false,y.d.bd⟩,y.na,y.nc,y.ba,y.bc⟩ (List.mem_of_getElem? hy1)) (bod_nil _ _)
                have hynm:y.d.nm=x.d.nm:=by rw[HYD.out];split<;>rfl
                have HE:Hid (tdJ w.heap.size w0 w W1 (.slice (some ⟨g0,0,none⟩) n rc) (.slice (some ⟨g,0,none⟩) m lc) rs (tidyK (rs.map (·.d)) ls0 k) k x.d.nm (.int .i64 ((j+1:Nat):Int)) ((wr.setCell ⟨g,k*3+1,none⟩ (.bool false)).setCell ⟨g,k*3+2,none⟩ (.slice none 0 0))):=⟨j+1,G2,_,_,by have:=HNN.out;omega,rfl,hp2,List.getElem?_set_self (List.getElem?_eq_some_iff.1 hy1).1,by rw[HTK.out,List.any_append];simp[hth,hynm],by rw[List.map_set,List.map_set,HL2.out,List.set_set,List.set_set],(HK2.out.trans (Keep.setCell _ _ _ ⟨hgw.2,hgw.1⟩)).trans (Keep.setCell _ _ _ ⟨hgw.2,hgw.1⟩),HG32.out⟩
                clear hiff hth hp1 hp2 hy1 hgt6 hgt5 e5 hynm;go_wp2;go_roundw;all_goals first|exact HE.out|(simp[intOf];omega)
            · obtain rfl:j=n:=by omega
              have hall:(rs.map (·.d)).take j=rs.map (·.d):=List.take_of_length_le (by rw[List.length_map,HNN.out];exact Nat.le_refl _)
              have HE:Hid (tdI w.heap.size w0 w W1 (.slice ra j rc) (.slice (some ⟨g,0,none⟩) m lc) rs ls0 (.int .i64 ((k+1:Nat):Int)) wr):=⟨k+1,G2,ls2,by have:=HMM.out;omega,rfl,HG2.out,by rw[HT.out,HL2.out,HYD.out,hall,tidy1,hh'];rfl,HK2.out,HG32.out⟩
              clear hall;go_wp2;go_roundw;all_goals first|exact HE.out|(simp[intOf];omega)
    · obtain rfl:k=m:=by omega
      have htw:Two (w.heap.size+1) wr:=HTW.out.keep HKP.out (fun q=>by omega)
      obtain⟨t0,t1,g0,g1⟩:=htw;have HO:Hid (GrP w0 G1 ((wr.setCell ⟨w.heap.size+1,0,none⟩ (.slice ra n rc)).setCell ⟨w.heap.size+1,1,none⟩ (.slice la k lc)) (.slice ra n rc) (.slice la k lc) rs ls1):=gvar_out HG.out hg3;have HKO:Hid (Keep (fun b=>w0.heap.size≤b) w ((wr.setCell ⟨w.heap.size+1,0,none⟩ (.slice ra n rc)).setCell ⟨w.heap.size+1,1,none⟩ (.slice la k lc))):=keep_set (keep_set ((HKW.out.mono (fun _ q=>q.elim)).trans (HKP.out.mono (fun _ q=>q.1))) (by omega)) (by omega)
      go_wp2;refine bodyPost_ret (v:=.agg #[.slice ra n rc,.slice la k lc]) ?_ rfl ?_
      · simp[results,Tryz.f64,go_sem, *]
      · exact⟨G1,ls1,rfl,HO.out,by rw[HMM.out];exact HL1.out,HKO.out⟩
end
end Go.Proofs.YtcbnnfnlilbjeaaGreat
