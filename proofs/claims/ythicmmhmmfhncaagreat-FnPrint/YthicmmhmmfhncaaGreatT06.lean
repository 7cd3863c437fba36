import Derived.Test.YthicmmhmmfhncaaGreatT04
import Derived.Test.YthicmmhmmfhncaaGreatT03
import Derived.Test.YthicmmhmmfhncaaGreatT05
import Derived.Deep.RegionLaw
import Derived.Lib.SmallJoins
set_option linter.unusedVariables false
set_option linter.unusedSimpArgs false
namespace Go.Proofs.YthicmmhmmfhncaaGreat
section
open Go.RowKit
open M (OpD uj Gr)
theorem ugJ(g j:Nat):(⟨g,0,none⟩:Addr).add j=⟨g,j,none⟩:=by
 by_cases h0:j=0
 ·subst h0;simp[Addr.add]
 ·simp[Addr.add,h0]
section
variable {α:Type} (f:α→List Value) (k:Nat) (hk:∀x,(f x).length=k)
include hk
theorem yA(l:List α):(l.flatMap f).length=l.length*k:=by
 induction l with
 |nil=>simp
 |cons x l ih=>rw[List.flatMap_cons,List.length_append,ih,hk,List.length_cons,Nat.add_mul];omega
theorem vn:∀(l:List α) (i j:Nat) (x:α),l[i]? = some x→j<k→(l.flatMap f)[i*k+j]? = (f x)[j]?
 | [],i,j,x,h,_=>by simp at h
 |y::l,0,j,x,h,hj=>by
  simp at h;subst h;rw[List.flatMap_cons,List.getElem?_append_left (by rw[hk];omega)]
  simp
 |y::l,i+1,j,x,h,hj=>by
  simp at h;rw[List.flatMap_cons,List.getElem?_append_right (by rw[hk,Nat.add_mul];omega),hk,show (i+1)*k+j-k=i*k+j by rw[Nat.add_mul];omega]
  exact vn l i j x h hj
theorem kI:∀(l:List α) (i j:Nat) (x y:α) (u:Value),l[i]? = some x→j<k→f y=(f x).set j u→(l.flatMap f).set (i*k+j) u=(l.set i y).flatMap f
 | [],i,j,x,y,u,h,_,_=>by simp at h
 |z::l,0,j,x,y,u,h,hj,e=>by
  simp at h;subst h;rw[List.flatMap_cons,List.set_cons_zero,List.flatMap_cons,e,List.set_append_left _ _ (by rw[hk];omega)]
  simp
 |z::l,i+1,j,x,y,u,h,hj,e=>by
  simp at h;rw[List.flatMap_cons,List.set_cons_succ,List.flatMap_cons,←kI l i j x y u h hj e,List.set_append_right _ _ (by rw[hk,Nat.add_mul];omega),hk,show (i+1)*k+j-k=i*k+j by rw[Nat.add_mul];omega]
end
theorem OwnC.put{Q:Nat→Prop}{w:World}{g n c sz:Nat}{cs:List Value}{j:Nat}(h:OwnC Q w (.slice (some ⟨g,0,none⟩) n c) sz n cs)(hj:j<cs.length)(u:Value):OwnC Q (w.setCell ⟨g,j,none⟩ u) (.slice (some ⟨g,0,none⟩) n c) sz n (cs.set j u):=by
 rcases h with⟨e,_⟩|⟨g',cap,e,hq,hl,hc,hcell,hw⟩
 ·cases e
 cases e
 have hs:(w.cell? ⟨g,j,none⟩).isSome=true:=by rw[hcell j hj,List.getElem?_eq_getElem hj];rfl
 have hne:∀{i:Nat},i≠j→(⟨g,j,none⟩:Addr)≠⟨g,i,none⟩:=fun h q=>h (by injection q with _ q;exact q.symm)
 refine .inr ⟨g,c,rfl,hq,by rw[List.length_set,hl],hc,fun i hi=>?_,fun i hi=>⟨?_,?_⟩⟩
 ·rw[List.length_set]at hi
  by_cases e:i=j
  ·subst e
   rw[World.cell?_setCell_same' _ _ _ hs,List.getElem?_set_self hi]
  ·rw[World.cell?_setCell_other _ _ _ _ (hne e),List.getElem?_set_ne (by omega)]
   exact hcell i hi
 ·by_cases e:i=j
  ·subst e
   rw[World.cell?_setCell_same' _ _ _ hs];rfl
  ·rw[World.cell?_setCell_other _ _ _ _ (hne e)]
   exact (hw i hi).1
 ·rw[World.frozen?_setCell]
  exact (hw i hi).2
theorem OwnC.at_{Q:Nat→Prop}{w:World}{v:Value}{n sz:Nat}{cs:List Value}(h:OwnC Q w v sz n cs)(hn:0<n):∃g c,v=.slice (some ⟨g,0,none⟩) n c∧Q g∧n≤c∧(∀j,j<cs.length→w.cell? ⟨g,j,none⟩=cs[j]?∧w.frozen? ⟨g,j,none⟩=false):=by
 rcases h with⟨_,h,_⟩|⟨g,cap,e,hq,hl,hc,hcell,hw⟩
 ·omega
 ·refine⟨g,cap,e,hq,hc,fun j hj=>⟨hcell j hj,(hw j ?_).2⟩⟩
  have:n*sz≤cap*sz:=Nat.mul_le_mul_right _ hc;omega
theorem ulV{Q:Nat→Prop}{w:World}{a:Option Addr}{sz n c:Nat}{cs:List Value}{tx e:TypeId}(hk:Tryz.prog.underlying tx=some (.slice e))(h:OwnC Q w (.slice a n c) sz n cs)(hone:∀u∈cs,u.oneCell'=true):Src Tryz.prog sz tx (.slice a n c) n cs w:=by
 rcases h with⟨e,e1,e2⟩|⟨g,cap,e,hq,h3,h4,h5,h6⟩
 ·obtain rfl:a=none:=by injection e
  rw[e1,e2];exact Src.ofNil _ hk c
 ·obtain rfl:a=some ⟨g,0,none⟩:=by injection e
  refine Src.ofSlice (P:=Tryz.prog) _ hk ⟨g,0,none⟩ _ c cs h3 (fun j u hu=>?_) hone
  rw[ugJ,h5 j (List.getElem?_eq_some_iff.1 hu).1];exact hu
theorem Ints.srcD{Q:Nat→Prop}{k:IntKind}{w:World}{a:Option Addr}{n c:Nat}{S:Nat→Int}{tx e:TypeId}(hk:Tryz.prog.underlying tx=some (.slice e))(h:Ints Q k w a n S):Src Tryz.prog 1 tx (.slice a n c) n (uz k S n) w:=by
 cases a with
 |some x=>exact h.src hk
 |none =>
  have h0:n=0:=by
   rcases h with h | ⟨_,_,e,_⟩
   ·exact h
   ·cases e
  subst h0;exact Src.ofNil w hk c
theorem yH{w:World}{g:Nat}{us:List Value}{sz:Nat}{tx e:TypeId}(hk:Tryz.prog.underlying tx=some (.slice e))(hl:us.length=1*sz)(h:∀j u,us[j]? = some u→w.cell? ⟨g,j,none⟩=some u)(hone:∀u∈us,u.oneCell'=true):Src Tryz.prog sz tx (.slice (some ⟨g,0,none⟩) 1 1) 1 us w:=by
 refine Src.ofSlice (P:=Tryz.prog) _ hk ⟨g,0,none⟩ 1 1 us hl (fun j u hu=>?_) hone
 rw[ugJ];exact h j u hu
structure OC where
 d:OpD
 a:Option Addr
 c:Nat
def ocv(x:OC):List Value:=[.int .i64 x.d.kind,.slice x.a x.d.sl x.c,.int .i64 x.d.arg]
theorem jV(x:OC):(ocv x).length=3:=rfl
def uA(l:List OC):List Value:=l.flatMap ocv
theorem xD(l:List OC):(uA l).length=l.length*3:=yA ocv 3 jV l
theorem udL(l:List OC):∀u∈uA l,u.oneCell'=true:=fun u hu=>by
 obtain⟨x,_,h⟩:=List.mem_flatMap.1 hu;simp[ocv]at h;rcases h with rfl | rfl | rfl<;>rfl
structure Bod(P:Nat→Prop)(L:Nat→Nat)(w:World)(v:Value)(l:List OC):Prop where
 own:OwnC (fun b=>P b∧L b=0) w v 3 l.length (uA l)
 sets:∀i x,l[i]? = some x→OwnC (fun b=>P b∧L b=i+1) w (.slice x.a x.d.sl x.c) 1 x.d.sl (uz .i64 x.d.set x.d.sl)
theorem Bod.on{P:Nat→Prop}{L:Nat→Nat}{w w':World}{v:Value}{l:List OC}(h:Bod P L w v l)(t:Stay P w w'):Bod P L w' v l :=
 ⟨h.own.on (fun b hb=>t b hb.1),fun i x hx=>(h.sets i x hx).on (fun b hb=>t b hb.1)⟩
theorem Bod.wide{P P':Nat→Prop}{L L':Nat→Nat}{w:World}{v:Value}{l:List OC}(h:Bod P L w v l)(t:∀b,P b→P' b∧L' b=L b):Bod P' L' w v l :=
 ⟨uo h.own (fun b hb=>⟨(t b hb.1).1,(t b hb.1).2.trans hb.2⟩),fun i x hx=>uo (h.sets i x hx) (fun b hb=>⟨(t b hb.1).1,(t b hb.1).2.trans hb.2⟩)⟩
def df(D:List OpD):Nat→OpD:=fun i=>D.getD i default
theorem qe{D:List OpD}{i:Nat}{x:OpD}(h:D[i]? = some x):df D i=x:=by unfold df;rw[List.getD_eq_getElem?_getD,h];rfl
theorem ulW{l:List OC}{i:Nat}{x:OC}(h:l[i]? = some x):df (l.map (·.d)) i=x.d:=qe (by rw[List.getElem?_map,h];rfl)
theorem jA{Q:Nat→Prop}{k:IntKind}{w:World}{a:Option Addr}{n c:Nat}{S:Nat→Int}(h:OwnC Q w (.slice a n c) 1 n (uz k S n)):Ints Q k w a n S:=by
 obtain⟨a',c',e,h⟩:=h.ints;cases e
 exact h
theorem Bod.ops{P:Nat→Prop}{L:Nat→Nat}{w:World}{a:Option Addr}{n c:Nat}{l:List OC}(h:Bod P L w (.slice a n c) l):OpsA P w a l.length (df (l.map (·.d))):=by
 rcases h.own with⟨_,e,_⟩|⟨g,cap,e,hq,hl,hc,hcell,hw⟩
 ·exact .inl e
 ·obtain rfl:a=some ⟨g,0,none⟩:=by injection e
  refine .inr ⟨g,0,rfl,hq.1,fun i hi=>?_⟩
  have hx:l[i]? = some l[i]:=List.getElem?_eq_getElem hi;have hg:∀j,j<3→w.cell? ⟨g,0+i*3+j,none⟩=(ocv l[i])[j]?:=fun j hj=>by
   rw[show 0+i*3+j=i*3+j by omega,hcell _ (by rw[xD];omega)]
   exact vn ocv 3 jV l i j _ hx hj
  rw[ulW hx];exact⟨hg 0 (by omega),⟨l[i].a,l[i].c,hg 1 (by omega),(jA (h.sets i _ hx)).wide (fun b hb=>hb.1)⟩,hg 2 (by omega)⟩
def BodP(P:Nat→Prop)(w:World)(v:Value)(D:List OpD):Prop:=∃L l,Bod P L w v l∧l.map (·.d)=D
theorem BodP.on{P:Nat→Prop}{w w':World}{v:Value}{D:List OpD}(h:BodP P w v D)(t:Stay P w w'):BodP P w' v D:=by
 obtain⟨L,l,h,e⟩:=h;exact⟨L,l,h.on t,e⟩
theorem BodP.wide{P P':Nat→Prop}{w:World}{v:Value}{D:List OpD}(h:BodP P w v D)(t:∀b,P b→P' b):BodP P' w v D:=by
 obtain⟨L,l,h,e⟩:=h;exact⟨L,l,h.wide (fun b hb=>⟨t b hb,rfl⟩),e⟩
theorem BodP.shape{P:Nat→Prop}{w:World}{v:Value}{D:List OpD}(h:BodP P w v D):∃a c,v=.slice a D.length c∧D.length≤c:=by
 obtain⟨L,l,h,e⟩:=h;have hn:l.length=D.length:=by rw[←e,List.length_map]
 rw[←hn];rcases h.own with⟨rfl,e,_⟩|⟨g,cap,rfl,hq,hl,hc,hcell,hw⟩
 ·exact⟨none,0,by rw[e],by omega⟩
 ·exact⟨_,_,rfl,hc⟩
theorem BodP.ops{P:Nat→Prop}{w:World}{a:Option Addr}{n c:Nat}{D:List OpD}(h:BodP P w (.slice a n c) D):OpsA P w a D.length (df D):=by
 obtain⟨L,l,h,rfl⟩:=h;rw[List.length_map];exact h.ops
theorem Lil.small{n:Nat}{D:List OpD}(h:Lil n D)(hn:n≤1048576):yB D.length (df D):=by
 refine⟨Nat.le_trans h.1 hn,fun i hi=>?_⟩
 rw[qe (List.getElem?_eq_getElem hi)];exact Nat.le_trans (h.2 _ (List.getElem_mem hi)) (by omega)
end
section
open Go.RowKit
open M (OpD uj Gr)
theorem udE {Q : Nat→Prop} {w : World} {v x : Value} {sz bytes n m : Nat} {cs news : List Value} {t tx e : TypeId} (ty : TypeId) (hE : xM t e sz bytes) (hown : OwnC Q w v sz n cs) (hs : Src Tryz.prog sz tx x m news w) (hlen : n+m≤16777216) :
    ∃ v' w',(Builtin.append_ #[t,tx] ty #[v,x]).run Tryz.prog w = .ok v' w'∧OwnC (fun b=>Q b∨w.heap.size≤b) w' v' sz (n+m) (cs ++ news)∧Grew (fun b=>Q b) w w'∧w'.heap.size≤w.heap.size+1:=by
  by_cases hm:v = .slice none 0 0→0<m
  · exact qA ty hE hown hs hlen hm
  · have hv:v = .slice none 0 0:=Classical.byContradiction (fun h=>hm (fun q=>absurd q h))
    obtain rfl:m=0:=by
      by_cases h:m=0
      · exact h
      · exact absurd (fun _=>by omega) hm
    have hl:=hs.newsLen
    obtain rfl:news = []:=List.eq_nil_of_length_eq_zero (by omega)
    subst hv
    have h0:n=0∧cs = []:=by
      rcases hown with ⟨_,h,h'⟩ | ⟨g,cap,h,_⟩
      · exact ⟨h,h'⟩
      · cases h
    obtain ⟨rfl,rfl⟩:=h0
    exact ⟨_,_,ugo ty hE hs,.inl ⟨rfl,rfl,rfl⟩,⟨rfl,rfl,rfl,Nat.le_refl _,fun _ _ _=>rfl,fun _ _ _=>rfl,fun _ _ h1 h2=>absurd h2 (by omega)⟩,by omega⟩
theorem uai {ops : Array Oper} {rest : List Oper} {o : Oper} {a : Act} {P' : Exit→Act→World→Prop} {w : World} (hgd : o.guard=none) (s x : Operand) (t tx : TypeId) (ho : o.op = .call { callee:=.builtin .append,args:=#[s,x],argTypes:=#[t,tx] })
    {Q:Nat→Prop} {v y:Value} {e:TypeId} {sz bytes n m:Nat} {cs news:List Value} (hs:a.eval s=v) (hx:a.eval x=y) (hE:xM t e sz bytes) (hown:OwnC Q w v sz n cs) (hsrc:Src Tryz.prog sz tx y m news w) (hlen:n+m≤16777216)
    (h:∀ v' w',OwnC (fun b=>Q b∨w.heap.size≤b) w' v' sz (n+m) (cs ++ news)→Grew (fun b=>Q b) w w'→w'.heap.size≤w.heap.size+1→wpList Tryz.prog ops P' rest (a.put o.dst v') w'):wpList Tryz.prog ops P' (o :: rest) a w:=by
  refine wpList_plain hgd fun K hK=>?_
  obtain ⟨v',w',hr,h1,h2,h3⟩:=udE o.type hE hown hsrc hlen
  unfold Oper.wp execOp
  simp only [ho,resolve,invoke,builtin,Sem.run_bind,Sem.run_pure,Result.andThen_ok,List.map_toArray,List.map_cons,List.map_nil,hs,hx,hr]
  exact hK _ _ (h v' w' h1 h2 h3)
theorem Grew.kept {Q : Nat→Prop} {w w' : World} (h : Grew Q w w') : Keep Q w w':=⟨h.os,h.tape,h.output,h.size,h.block⟩
theorem Keep.bel {w w' : World} (h : Keep (fun _=>False) w w') : Below w.heap.size w w':=h.below (Nat.le_refl _) (fun _ _ q=>q)
theorem Below.kept {w w' : World} (h : Below w.heap.size w w') : Keep (fun _=>False) w w':=⟨h.os,h.tape,h.output,h.size,fun b hb _=>h.block b hb⟩
theorem qm {w W W' : World} {Q : Nat→Prop} (k : Keep (fun _=>False) w W) (g : Grew Q W W') (h : ∀ b,Q b→w.heap.size≤b) : Keep (fun _=>False) w W' :=
  ⟨g.os.trans k.os,g.tape.trans k.tape,g.output.trans k.output,Nat.le_trans k.size g.size,fun b hb q=>(g.block b (Nat.lt_of_lt_of_le hb k.size) (fun hq=>by have:=h b hq;omega)).trans (k.block b hb q)⟩
theorem ulL (P : Nat→Prop) (w : World) (k a : Int) : OwnC P w (.slice none (opd k a).sl 0) 1 (opd k a).sl (uz .i64 (opd k a).set (opd k a).sl):=.inl ⟨rfl,rfl,rfl⟩
theorem Bod.grow {w wr W2 W4 : World} {L L2 : Nat→Nat} {v v4 : Value} {l l2 : List OC} (h : Bod (New w wr) L wr v l) (hz : w.heap.size≤wr.heap.size) (k : Keep (fun _=>False) wr W2)
    (h2:∀ i x,l2[i]? = some x→OwnC (fun b=>New wr W2 b∧L2 b=i+1) W2 (.slice x.a x.d.sl x.c) 1 x.d.sl (uz .i64 x.d.set x.d.sl))
    (own:OwnC (fun b=>(New w wr b∧L b=0)∨W2.heap.size≤b) W4 v4 3 (l.length+l2.length) (uA l ++ uA l2)) (g4:Grew (fun b=>New w wr b∧L b=0) W2 W4) (s4:W4.heap.size≤W2.heap.size+1) (hl:0<l2.length) :
    Bod (New w W4) (fun b=>if b<wr.heap.size then L b else if b<W2.heap.size then L2 b+l.length else 0) W4 v4 (l ++ l2):=by
  have z2:=k.size
  have z4:=g4.size
  refine ⟨?_,fun i x hx=>?_⟩
  · have hn:l.length+l2.length=(l ++ l2).length:=by simp
    have hc:uA l ++ uA l2=uA (l ++ l2):=by simp [uA]
    rw [← hn,← hc]
    rcases own with ⟨_,q,_⟩ | ⟨g,cap,e,hq,h3,h4,h5,h6⟩
    · omega
    refine .inr ⟨g,cap,e,?_,h3,h4,h5,h6⟩
    have hg:g<W4.heap.size:=by
      have hlen:0<(uA l ++ uA l2).length:=by rw [List.length_append,xD,xD];omega
      have h:=h5 0 hlen
      rw [List.getElem?_eq_getElem hlen] at h
      exact ub h
    rcases hq with ⟨⟨q1,q2⟩,q3⟩ | q
    · exact ⟨⟨q1,hg⟩,by simp only [if_pos q2,q3]⟩
    · refine ⟨⟨by omega,hg⟩,?_⟩
      simp only [if_neg (show ¬ g<wr.heap.size by omega),if_neg (show ¬ g<W2.heap.size by omega)]
  · by_cases e:i<l.length
    · rw [List.getElem?_append_left e] at hx
      refine uo (((h.sets i x hx).on (w':=W2) (fun b hb=>k.block b hb.1.2 (fun q=>q))).on (w':=W4) (fun b hb=>g4.block b (by have:=hb.1.2;omega) (fun q=>by have:=hb.2;have:=q.2;omega))) (fun b hb=>⟨⟨hb.1.1,by have:=hb.1.2;omega⟩,?_⟩)
      simp only [if_pos hb.1.2,hb.2]
    · rw [List.getElem?_append_right (by omega)] at hx
      refine uo ((h2 _ x hx).on (w':=W4) (fun b hb=>g4.block b hb.1.2 (fun q=>by have:=hb.1.1;have:=q.1.2;omega))) (fun b hb=>⟨⟨by have:=hb.1.1;omega,by have:=hb.1.2;omega⟩,?_⟩)
      have:=hb.1.1
      simp only [if_neg (show ¬ b<wr.heap.size by omega),if_pos hb.1.2,hb.2]
      omega
def Mk (D : List OpD) (w : World) (e : Ending) (w' : World) : Prop:=∃ a c,e = .returned (.slice a D.length c)∧BodP (New w w') w' (.slice a D.length c) D∧Keep (fun _=>False) w w'
theorem ulM {w W : World} {x : OC} (k : Keep (fun _=>False) w W) (hs : OwnC (fun b=>New w W b) W (.slice x.a x.d.sl x.c) 1 x.d.sl (uz .i64 x.d.set x.d.sl)) {t : TypeId} :
    Mk [x.d] w (.returned (.slice (some ⟨W.heap.size,0,none⟩) 1 1)) (W.alloc (.cells #[.int .i64 x.d.kind,.slice x.a x.d.sl x.c,.int .i64 x.d.arg] t)):=by
  have z:=k.size
  have hk:Keep (fun _=>False) W (W.alloc (.cells #[.int .i64 x.d.kind,.slice x.a x.d.sl x.c,.int .i64 x.d.arg] t)):=Keep.alloc _ _ _
  have hsz:(W.alloc (.cells #[.int .i64 x.d.kind,.slice x.a x.d.sl x.c,.int .i64 x.d.arg] t)).heap.size=W.heap.size+1:=by simp
  have hb:=World.alloc_heap_new W (.cells #[.int .i64 x.d.kind,.slice x.a x.d.sl x.c,.int .i64 x.d.arg] t)
  refine ⟨_,_,rfl,⟨fun b=>if b<W.heap.size then 1 else 0,[x],⟨.inr ⟨W.heap.size,1,rfl,⟨⟨z,by omega⟩,by simp⟩,rfl,Nat.le_refl _,fun j hj=>?_,fun j hj=>⟨?_,?_⟩⟩,fun i y hy=>?_⟩,rfl⟩,k.trans hk⟩
  · simp only [World.cell?,hb]
    match j,hj with
    | 0,_=>rfl
    | 1,_=>rfl
    | 2,_=>rfl
  · simp only [World.cell?,hb]
    match j,hj with
    | 0,_=>rfl
    | 1,_=>rfl
    | 2,_=>rfl
  · simp only [World.frozen?,hb]
    rfl
  · match i,hy with
    | 0,hy =>
      cases hy
      refine uo (hs.on (fun b hb=>hk.block b hb.2 (fun q=>q))) (fun b hb=>⟨⟨hb.1,by have:=hb.2;omega⟩,by simp only [if_pos hb.2]⟩)
theorem ulN {w : World} {x : Value} {sz bytes m : Nat} {news : List Value} {t tx e : TypeId} (ty : TypeId) (hE : xM t e sz bytes) (hsz : 0<sz) (hs : Src Tryz.prog sz tx x m news w) (hlen : m≤16777216) :
    ∃ v' w',(Builtin.append_ #[t,tx] ty #[.slice none 0 0,x]).run Tryz.prog w = .ok v' w'∧OwnC (New w w') w' v' sz m news∧Keep (fun _=>False) w w':=by
  by_cases hm:0<m
  · obtain ⟨v',w',h1,h2,h3,h4⟩:=udE (Q:=fun _=>False) (n:=0) (cs:=[]) ty hE (.inl ⟨rfl,rfl,rfl⟩) hs (by omega)
    rw [Nat.zero_add,List.nil_append] at h2
    refine ⟨v',w',h1,?_,h3.kept⟩
    rcases h2 with q | ⟨g,cap,e,hq,q3,q4,q5,q6⟩
    · exact .inl q
    · refine .inr ⟨g,cap,e,⟨?_,?_⟩,q3,q4,q5,q6⟩
      · rcases hq with q | q
        · exact q.elim
        · exact q
      · have hl:0<news.length:=by rw [hs.newsLen];exact Nat.mul_pos hm hsz
        have h:=q5 0 hl
        rw [List.getElem?_eq_getElem hl] at h
        exact ub h
  · obtain rfl:m=0:=by omega
    have hl:=hs.newsLen
    obtain rfl:news = []:=List.eq_nil_of_length_eq_zero (by omega)
    exact ⟨_,_,ugo ty hE hs,.inl ⟨rfl,rfl,rfl⟩,Keep.refl _ _⟩
theorem upY {ops : Array Oper} {rest : List Oper} {o : Oper} {a : Act} {P' : Exit→Act→World→Prop} {w : World} (hgd : o.guard=none) (s x : Operand) (t tx : TypeId) (ho : o.op = .call { callee:=.builtin .append,args:=#[s,x],argTypes:=#[t,tx] })
    {y:Value} {e:TypeId} {sz bytes m:Nat} {news:List Value} (hs:a.eval s = .slice none 0 0) (hx:a.eval x=y) (hE:xM t e sz bytes) (hsz:0<sz) (hsrc:Src Tryz.prog sz tx y m news w) (hlen:m≤16777216)
    (h:∀ v' w',OwnC (New w w') w' v' sz m news→Keep (fun _=>False) w w'→wpList Tryz.prog ops P' rest (a.put o.dst v') w'):wpList Tryz.prog ops P' (o :: rest) a w:=by
  refine wpList_plain hgd fun K hK=>?_
  obtain ⟨v',w',hr,h1,h2⟩:=ulN o.type hE hsz hsrc hlen
  unfold Oper.wp execOp
  simp only [ho,resolve,invoke,builtin,Sem.run_bind,Sem.run_pure,Result.andThen_ok,List.map_toArray,List.map_cons,List.map_nil,hs,hx,hr]
  exact hK _ _ (h v' w' h1 h2)
theorem kE {ops : Array Oper} {o : Oper} {a : Act} {w : World} {K : Act→World→Prop} {P' : Exit→Act→World→Prop} {E : Prop} (hgd : o.guard=none) (s x : Operand) (t tx : TypeId) (ho : o.op = .call { callee:=.builtin .append,args:=#[s,x],argTypes:=#[t,tx] })
    {Q:Nat→Prop} {v y:Value} {e:TypeId} {sz bytes n m:Nat} {cs news:List Value} (hs:a.eval s=v) (hx:a.eval x=y) (hE:xM t e sz bytes) (hown:OwnC Q w v sz n cs) (hsrc:Src Tryz.prog sz tx y m news w) (hlen:n+m≤16777216)
    (h:∀ v' w',OwnC (fun b=>Q b∨w.heap.size≤b) w' v' sz (n+m) (cs ++ news)→Grew (fun b=>Q b) w w'→w'.heap.size≤w.heap.size+1→K (a.put o.dst v') w'):if Region.wanted o (yielded ops a.tmps)=true then Oper.wp Tryz.prog o a w K P' else E:=by
  have hw:Region.wanted o (yielded ops a.tmps)=true:=by simp [Region.wanted,hgd]
  rw [if_pos hw]
  obtain ⟨v',w',hr,h1,h2,h3⟩:=udE o.type hE hown hsrc hlen
  unfold Oper.wp execOp
  simp only [ho,resolve,invoke,builtin,Sem.run_bind,Sem.run_pure,Result.andThen_ok,List.map_toArray,List.map_cons,List.map_nil,hs,hx,hr]
  exact h v' w' h1 h2 h3
set_option maxHeartbeats 1000000 in
theorem uG (k x : Int) (w : World) : Calls Tryz.prog 57 #[.int .i64 k,.int .i64 x] w (Mk (uf k x) w):=by
  go_enter Tryz.func57,Tryz.ntmps57
  go_wp2
  go_ret
  exact ulM (x:=⟨opd k x,none,0⟩) (Keep.refl _ _) (ulL _ _ k x)
set_option maxHeartbeats 1000000 in
theorem uU (Q : Nat→Prop) (a : Option Addr) (c : Nat) (s : List Int) (w : World) (h : Ints Q .i64 w a s.length (lf s)) (hn : s.length≤1048576) :
    Calls Tryz.prog 59 #[.slice a s.length c] w (Mk (ui s) w):=by
  have HI:Hid (Ints Q .i64 w a s.length (lf s)):=h
  clear h
  generalize hm:s.length=m at *
  go_enter Tryz.func59,Tryz.ntmps59
  go_wp2_with (at_builtin;refine upY rfl _ _ 49 49 rfl rfl rfl ufl (by omega) (Ints.srcD Tryz.underlying49 HI.out) (by omega) ?_;intro v1 W1 hown hkeep;obtain ⟨a1,c1,rfl⟩:=um hown;have HO:Hid (OwnC (New w W1) W1 (.slice a1 m c1) 1 m (uz .i64 (lf s) m)):=hown;have HG:Hid (Keep (fun _=>False) w W1):=hkeep;clear hown hkeep)
  go_ret
  subst hm
  exact ulM (x:=⟨sod s,a1,c1⟩) HG.out HO.out
set_option maxHeartbeats 1000000 in
theorem uL (b : Int) (w : World) : Calls Tryz.prog 60 #[.int .i64 b] w fun e w'=>e = .returned (.slice (some ⟨w.heap.size,0,none⟩) 2 2)∧w'=w.alloc (.cells #[.int .i64 b,.int .i64 b] 3):=by
  go_enter Tryz.func60,Tryz.ntmps60
  go_wp2
  go_ret
  exact ⟨rfl,rfl⟩
theorem uhL {W : World} {g : Nat} {x : OC} {t : TypeId} (hg : W.heap[g]? = some (.cells #[.int .i64 x.d.kind,.slice x.a x.d.sl x.c,.int .i64 x.d.arg] t)) : Src Tryz.prog 3 37 (.slice (some ⟨g,0,none⟩) 1 1) 1 (ocv x) W:=by
  refine yH Tryz.underlying37 rfl (fun j u hu=>?_) (fun u hu=>udL [x] u (by simpa [uA] using hu))
  simp only [World.cell?,hg]
  rw [← hu]
  simp [ocv]
theorem jQ {W : World} {g : Nat} {k x : Int} {t : TypeId} (hg : W.heap[g]? = some (.cells #[.int .i64 k,.slice none 0 0,.int .i64 x] t)) : Src Tryz.prog 3 37 (.slice (some ⟨g,0,none⟩) 1 1) 1 (uA [⟨opd k x,none,0⟩]) W :=
  uhL (x:=⟨opd k x,none,0⟩) hg
def uo3 (w : World) (D : List OpD) (v i : Value) (wr : World) : Prop :=
  ∃ (k:Nat) (L:Nat→Nat) (l:List OC),k≤D.length∧i = .int .i64 (k:Int)∧Bod (New w wr) L wr v l∧l.map (·.d)=D.take k∧Keep (fun _=>False) w wr
theorem ulO {w wr W1 W4 : World} {D : List OpD} {d : OpD} {m n : Nat} {L : Nat→Nat} {l : List OC} {av a1 : Option Addr} {cv c1 : Nat} {v4 : Value} {cc : Array Value} {t : TypeId} (hb : Bod (New w wr) L wr (.slice av m cv) l) (hk : Keep (fun _=>False) w wr) (hg : Keep (fun _=>False) wr W1) (ho : OwnC (New wr W1) W1 (.slice a1 d.sl c1) 1 d.sl (uz .i64 d.set d.sl)) (hl : l.map (·.d)=D.take m∧l.length=m∧D.length=n) (hd : D[m]? = some d)
    (own4:OwnC (fun b=>(New w wr b∧L b=0)∨(W1.drew.alloc (.cells cc t)).heap.size≤b) W4 v4 3 (m+1) (uA l ++ ocv ⟨d,a1,c1⟩)) (g4:Grew (fun b=>New w wr b∧L b=0) (W1.drew.alloc (.cells cc t)) W4) (s4:W4.heap.size≤(W1.drew.alloc (.cells cc t)).heap.size+1) :
    uo3 w D v4 (.int .i64 ((m+1:Nat):Int)) W4:=by
  obtain ⟨hl1,hl2,hl3⟩:=hl
  have hmn:m<D.length:=(List.getElem?_eq_some_iff.1 hd).1
  have z1:=hg.size
  have k2:Keep (fun _=>False) wr (W1.drew.alloc (.cells cc t)):=hg.trans ((Keep.drew _ W1).trans (Keep.alloc _ _ _))
  have e1:(W1.drew.alloc (.cells cc t)).heap.size=W1.heap.size+1:=by simp
  refine ⟨m+1,_,l ++ [⟨d,a1,c1⟩],hmn,rfl,Bod.grow (L2:=fun _=>1) hb hk.size k2 (fun i x hx=>?_) (by rw [hl2,show uA [(⟨d,a1,c1⟩:OC)]=ocv ⟨d,a1,c1⟩ by simp [uA]];exact own4) g4 s4 (by simp),?_,?_⟩
  · match i,hx with
    | 0,hx =>
      cases hx
      exact uo (ho.on (w':=W1.drew.alloc (.cells cc t)) (fun b hb=>Below.heap_alloc W1.drew _ _ hb.2)) (fun b hb=>⟨⟨hb.1,by rw [e1];have:=hb.2;omega⟩,rfl⟩)
  · rw [List.map_append,hl1,List.take_add_one,hd]
    rfl
  · exact qm (hk.trans k2) g4 (fun b q=>q.1.1)
set_option maxRecDepth 100000 in
set_option maxHeartbeats 4000000 in
theorem uaj (Q : Nat→Prop) (a : Option Addr) (c : Nat) (D : List OpD) (w : World) (hB : OpsA Q w a D.length (df D)) (hs : yB D.length (df D)) :
    Calls Tryz.prog 84 #[.slice a D.length c] w (Mk D w):=by
  obtain ⟨hn,hsl⟩:=hs
  have HB:Hid (OpsA Q w a D.length (df D)):=hB
  have HSL:Hid (∀ i,i<D.length→(df D i).sl≤1048576):=hsl
  clear hB hsl
  generalize hDn:D.length=n at *
  go_enter Tryz.func84,Tryz.ntmps84
  go_wp2
  go_loopw [3,4] (fun v i wr=>uo3 w D v i wr) (fun _ i _=>n-(intOf i).toNat)
  case atStart=>exact ⟨0,fun _=>0,[],Nat.zero_le _,rfl,⟨.inl ⟨rfl,rfl,rfl⟩,fun i x hx=>by simp at hx⟩,rfl,Keep.refl _ _⟩
  case round =>
    obtain ⟨m,L,l,hm,rfl,hbod,hl,hkeep⟩:=hrel
    rw [hDn] at hm
    have hlen:l.length=m:=by rw [← List.length_map (f:=(·.d)),hl,List.length_take,hDn];omega
    by_cases hlt:m<n
    · have hB:=HB.out.later hkeep.bel
      rcases hB with h0 | ⟨b,off,rfl,hq,hB⟩
      · omega
      obtain ⟨c0,⟨sa,sc,c1,hs⟩,c2⟩:=hB m hlt
      have HS:Hid (Ints Q .i64 wr sa (df D m).sl (df D m).set):=hs
      have hsl:=HSL.out m hlt
      have hlt':(m:Int)<(n:Int):=by omega
      have ho:=hbod.own
      rw [hlen] at ho
      obtain ⟨av,cv,rfl⟩:=um ho
      clear ho
      have HBD:Hid (Bod (New w wr) L wr (.slice av m cv) l):=hbod
      have HK:Hid (Keep (fun _=>False) w wr):=hkeep
      have HL:Hid (l.map (·.d)=D.take m∧l.length=m∧D.length=n):=⟨hl,hlen,hDn⟩
      have HDm:Hid (D[m]? = some (df D m)):=by
        show D[m]? = some (df D m)
        rw [List.getElem?_eq_getElem (by omega),qe (List.getElem?_eq_getElem (by omega))]
      clear hB hs hbod hkeep hl hlen hDn
      generalize df D m=d at *
      go_wp2_with (at_builtin;refine upY rfl _ _ 49 49 rfl rfl rfl ufl (by omega) (Ints.srcD Tryz.underlying49 HS.out) (by omega) ?_;intro v1 W1 hown hkeep;obtain ⟨a1,c1',rfl⟩:=um hown;have HO:Hid (OwnC (New wr W1) W1 (.slice a1 d.sl c1') 1 d.sl (uz .i64 d.set d.sl)):=hown;have HG:Hid (Keep (fun _=>False) wr W1):=hkeep;clear hown hkeep)
      have bb:Hid (Below wr.heap.size wr W1):=HG.out.bel
      have d0:=ug c0 bb.out
      have d2:=ug c2 bb.out
      clear c0 c1 c2
      go_region_law (refine kE rfl (.tmp 19) (.tmp 32) 37 37 rfl (v:=.slice av m cv) (y:=.slice (some ⟨W1.heap.size,0,none⟩) 1 1) (by simp [Act.eval,Act.put]) (by simp [Act.eval,Act.put]) jk (Q:=fun b=>New w wr b∧L b=0) (n:=m) (cs:=uA l) (news:=ocv ⟨d,a1,c1'⟩) (by have h:=HBD.out.own;rw [HL.out.2.1] at h;exact h.on (w':=W1.drew.alloc (.cells #[.int .i64 d.kind,.slice a1 d.sl c1',.int .i64 d.arg] 72)) (fun x hx=>(uh bb.out.drew (up W1.drew _)).block x hx.1.2)) (uhL (W:=W1.drew.alloc (.cells #[.int .i64 d.kind,.slice a1 d.sl c1',.int .i64 d.arg] 72)) (x:=⟨d,a1,c1'⟩) (World.alloc_heap_new W1.drew _)) (by omega) ?_
                     intro v4 W4 hown4 hgrew4 hsz4
                     have HE:Hid (uo3 w D v4 (.int .i64 ((m+1:Nat):Int)) W4):=ulO HBD.out HK.out HG.out HO.out HL.out HDm.out hown4 hgrew4 hsz4
                     clear hown4 hgrew4 hsz4)
      all_goals go_goals
      all_goals go_wp2
      all_goals go_roundw
      all_goals first | exact HE.out | (simp [intOf];omega)
    · obtain rfl:m=n:=by omega
      go_wp2
      go_ret
      have ho:=hbod.own
      rw [hlen,← hDn] at ho
      obtain ⟨av,cv,rfl⟩:=um ho
      rw [List.take_of_length_le (by omega)] at hl
      exact ⟨_,_,rfl,⟨L,l,hbod,hl⟩,hkeep⟩
theorem uiH {P : Nat→Prop} {L : Nat→Nat} {W : World} (k a : Int) : ∀ i x,[(⟨opd k a,none,0⟩ : OC)][i]? = some x→OwnC (fun b=>P b∧L b=i+1) W (.slice x.a x.d.sl x.c) 1 x.d.sl (uz .i64 x.d.set x.d.sl):=fun i x hx=>by
  match i,hx with
  | 0,hx=>cases hx;exact .inl ⟨rfl,rfl,rfl⟩
theorem uiI {w wr W2 W4 : World} {L : Nat→Nat} {v v4 : Value} {l : List OC} {D : List OpD} {n : Nat} (k x : Int) (h : Bod (New w wr) L wr v l) (hk : Keep (fun _=>False) w wr) (k2 : Keep (fun _=>False) wr W2) (hD : l.map (·.d)=D) (hn : l.length=n)
    (own:OwnC (fun b=>(New w wr b∧L b=0)∨W2.heap.size≤b) W4 v4 3 (n+1) (uA l ++ uA [⟨opd k x,none,0⟩])) (g4:Grew (fun b=>New w wr b∧L b=0) W2 W4) (s4:W4.heap.size≤W2.heap.size+1):Mk (D ++ [opd k x]) w (.returned v4) W4:=by
  have hb:=Bod.grow (L2:=fun _=>0) h hk.size k2 (uiH k x) (by rw [hn];exact own) g4 s4 (by simp)
  have hlen:(D ++ [opd k x]).length=n+1:=by rw [← hD,← hn];simp
  obtain ⟨a,c,rfl⟩:=um own
  rw [← hlen] at hb ⊢
  exact ⟨a,c,rfl,⟨_,_,hb,by rw [List.map_append,hD];rfl⟩,qm (hk.trans k2) g4 (fun b q=>q.1.1)⟩
set_option maxRecDepth 100000 in
set_option maxHeartbeats 2000000 in
theorem vT (Q : Nat→Prop) (k : Int) (a : Option Addr) (c : Nat) (D : List OpD) (w : World) (hB : OpsA Q w a D.length (df D)) (hs : yB D.length (df D)) :
    Calls Tryz.prog 58 #[.int .i64 k,.slice a D.length c] w (Mk (unD k D) w):=by
  have hn:=hs.1
  have HB:Hid (OpsA Q w a D.length (df D)):=hB
  have HS:Hid (yB D.length (df D)):=hs
  clear hB hs
  go_enter Tryz.func58,Tryz.ntmps58
  go_wp2_with fail
  refine (uaj Q a c D w HB.out HS.out).mono ?_
  rintro e w1 ⟨a1,c1,rfl,⟨L,l,hbod,hl⟩,hk⟩
  have hlen:l.length=D.length:=by rw [← hl,List.length_map]
  have HBD:Hid (Bod (New w w1) L w1 (.slice a1 D.length c1) l):=hbod
  have HK:Hid (Keep (fun _=>False) w w1):=hk
  have HL:Hid (l.map (·.d)=D∧l.length=D.length):=⟨hl,hlen⟩
  clear hbod hk hl hlen
  go_wp2_with (at_builtin;refine uai rfl _ _ 37 37 rfl rfl rfl jk (Q:=fun b=>New w w1 b∧L b=0) (n:=D.length) (cs:=uA l) (news:=uA [⟨opd k 0,none,0⟩]) (by have h:=HBD.out.own;rw [HL.out.2] at h;exact h.on (fun x hx=>Below.heap_alloc w1 _ _ hx.1.2)) (jQ (World.alloc_heap_new w1 _)) (by omega) ?_;intro v4 W4 hown hgrew hsz;have HE:Hid (Mk (unD k D) w (.returned v4) W4):=uiI k 0 HBD.out HK.out (Keep.alloc _ _ _) HL.out.1 HL.out.2 hown hgrew hsz;clear hown hgrew hsz)
  go_ret
  exact HE.out
set_option maxRecDepth 100000 in
set_option maxHeartbeats 2000000 in
theorem uV (Q Q' : Nat→Prop) (k : Int) (a a' : Option Addr) (c c' : Nat) (D D' : List OpD) (w : World) (hB : OpsA Q w a D.length (df D)) (hs : yB D.length (df D)) (hB' : OpsA Q' w a' D'.length (df D')) (hs' : yB D'.length (df D')) (hne : 0<D'.length) :
    Calls Tryz.prog 56 #[.int .i64 k,.slice a D.length c,.slice a' D'.length c'] w (Mk (uw k D D') w):=by
  have hn:=hs.1
  have hn':=hs'.1
  have HB:Hid (OpsA Q w a D.length (df D)):=hB
  have HS:Hid (yB D.length (df D)):=hs
  have HB':Hid (OpsA Q' w a' D'.length (df D')):=hB'
  have HS':Hid (yB D'.length (df D')):=hs'
  clear hB hs hB' hs'
  go_enter Tryz.func56,Tryz.ntmps56
  go_wp2_with fail
  refine (uaj Q a c D w HB.out HS.out).mono ?_
  rintro e w1 ⟨a1,c1,rfl,⟨L,l,hbod,hl⟩,hk⟩
  have hlen:l.length=D.length:=by rw [← hl,List.length_map]
  have HBD:Hid (Bod (New w w1) L w1 (.slice a1 D.length c1) l):=hbod
  have HK:Hid (Keep (fun _=>False) w w1):=hk
  have HL:Hid (l.map (·.d)=D∧l.length=D.length):=⟨hl,hlen⟩
  clear hbod hk hl hlen
  go_wp2_with fail
  refine (uaj Q' a' c' D' w1 (HB'.out.later HK.out.bel) HS'.out).mono ?_
  rintro e w2 ⟨a2,c2,rfl,⟨L2,l2,hbod,hl⟩,hk⟩
  have hlen:l2.length=D'.length:=by rw [← hl,List.length_map]
  have HBD2:Hid (Bod (New w1 w2) L2 w2 (.slice a2 D'.length c2) l2):=hbod
  have HK2:Hid (Keep (fun _=>False) w1 w2):=hk
  have HL2:Hid (l2.map (·.d)=D'∧l2.length=D'.length):=⟨hl,hlen⟩
  clear hbod hk hl hlen
  go_wp2_with (first | (at_builtin;refine uai rfl _ _ 37 37 rfl rfl rfl jk (Q:=fun b=>New w w1 b∧L b=0) (n:=D.length) (cs:=uA l) (m:=D'.length) (news:=uA l2) (by have h:=HBD.out.own;rw [HL.out.2] at h;exact h.on (fun x hx=>HK2.out.block x hx.1.2 (fun q=>q))) (by have h:=HBD2.out.own;rw [HL2.out.2] at h;exact ulV Tryz.underlying37 h (udL _)) (by omega) ?_;intro v3 W3 hown hgrew hsz;obtain ⟨a3,c3,rfl⟩:=um hown;have HB3:Hid (∃ L3,Bod (New w W3) L3 W3 (.slice a3 (D.length+D'.length) c3) (l ++ l2)):=⟨_,Bod.grow HBD.out HK.out.size HK2.out HBD2.out.sets (by rw [HL.out.2,HL2.out.2];exact hown) hgrew hsz (by rw [HL2.out.2];exact hne)⟩;have HK3:Hid (Keep (fun _=>False) w W3):=qm (HK.out.trans HK2.out) hgrew (fun b q=>q.1.1);clear hown hgrew hsz;obtain ⟨L3,hB3⟩:=HB3.out;have HBD3:Hid (Bod (New w W3) L3 W3 (.slice a3 (D.length+D'.length) c3) (l ++ l2)):=hB3;clear HB3 hB3) | (at_builtin;refine uai rfl _ _ 37 37 rfl rfl rfl jk (Q:=fun b=>New w W3 b∧L3 b=0) (n:=D.length+D'.length) (cs:=uA (l ++ l2)) (news:=uA [⟨opd k 0,none,0⟩]) (by have h:=HBD3.out.own;rw [List.length_append,HL.out.2,HL2.out.2] at h;exact h.on (fun x hx=>Below.heap_alloc W3 _ _ hx.1.2)) (jQ (World.alloc_heap_new W3 _)) (by omega) ?_;intro v4 W4 hown hgrew hsz;have HE:Hid (Mk (uw k D D') w (.returned v4) W4):=uiI k 0 HBD3.out HK3.out (Keep.alloc _ _ _) (by rw [List.map_append,HL.out.1,HL2.out.1]) (by rw [List.length_append,HL.out.2,HL2.out.2]) hown hgrew hsz;clear hown hgrew hsz))
  go_ret
  exact HE.out
end
section
open Go.RowKit
open M (OpD uj Gr)
structure Rd(t:Tp)(R:Nat)(w:World)(a:Option Addr)(cap i:Nat):Prop where
 c0:w.cell? ⟨R,0,none⟩=some (.slice a t.m cap)
 c1:w.cell? ⟨R,1,none⟩=some (.int .i64 (i:Int))
 f1:w.frozen? ⟨R,1,none⟩=false
 le:i≤t.m
 txt:Ints (fun b=>b<R) .u8 w a t.m (fun k=>(t.T k:Int))
def RdA(t:Tp)(R:Nat)(w:World)(i:Nat):Prop:=∃a cap,Rd t R w a cap i
theorem RdA.lt{t:Tp}{R:Nat}{w:World}{i:Nat}(h:RdA t R w i):R<w.heap.size:=by
 obtain⟨a,c,h⟩:=h;exact ub h.c0
theorem RdA.le{t:Tp}{R:Nat}{w:World}{i:Nat}(h:RdA t R w i):i≤t.m:=by
 obtain⟨a,c,h⟩:=h;exact h.le
theorem RdA.keep{t:Tp}{R:Nat}{w w':World}{i:Nat}{C:Nat→Prop}(h:RdA t R w i)(k:Keep C w w')(hC:∀b,C b→R<b):RdA t R w' i:=by
 have hlt:=h.lt;obtain⟨a,c,h⟩:=h;have hb:∀b,b≤R→w'.heap[b]? = w.heap[b]?:=fun b hb=>k.block b (by omega) (fun q=>by have:=hC b q;omega)
 exact⟨a,c,(World.cell?_of_block (a:=⟨R,0,none⟩) (hb R (Nat.le_refl _))).trans h.c0,(World.cell?_of_block (a:=⟨R,1,none⟩) (hb R (Nat.le_refl _))).trans h.c1,(World.frozen?_of_block (a:=⟨R,1,none⟩) (hb R (Nat.le_refl _))).trans h.f1,h.le,h.txt.on (fun b q=>hb b (by omega))⟩
theorem Rd.set{t:Tp}{R:Nat}{w:World}{a:Option Addr}{cap i j:Nat}(h:Rd t R w a cap i)(hj:j≤t.m):Rd t R (w.setCell ⟨R,1,none⟩ (.int .i64 (j:Int))) a cap j:=by
 have other:(⟨R,1,none⟩:Addr)≠⟨R,0,none⟩:=by simp
 refine⟨(World.cell?_setCell_other _ _ _ _ other).trans h.c0,World.cell?_setCell_same' _ _ _ (by rw[h.c1];rfl),by rw[World.frozen?_setCell];exact h.f1,hj,h.txt.on (fun b hb=>Below.heap_setCell _ _ _ _ (by show b≠R;omega))⟩
def RdOn(t:Tp)(R i:Nat)(w w':World):Prop:=RdA t R w' i∧Keep (fun k=>k=R) w w'
set_option maxHeartbeats 1000000 in
theorem uN(t:Tp)(R i:Nat)(w:World)(h:RdA t R w i) :
  Calls Tryz.prog 27 #[.pointer (some ⟨R,0,none⟩)] w fun e w'=>e=.returned (.int .i64 (t.v i:Int))∧RdOn t R (t.n i) w w':=by
 obtain⟨a,cap,h⟩:=h;have c0:=h.c0;have c1:=h.c1;have f1:=h.f1;have hle:=h.le;have hsm:=t.le;have H:Hid (Rd t R w a cap i):=h;clear h;by_cases hlt:i<t.m
 ·have ev:t.v i=t.T i:=if_pos hlt
  have en:t.n i=i+1:=if_pos hlt;rw[ev,en];obtain⟨b,off,rfl,hb,ht⟩:∃b off,a=some ⟨b,off,none⟩∧b<R∧∀k,k<t.m→w.cell? ⟨b,off+k,none⟩=some (.int .u8 (t.T k:Int)):=by
   rcases H.out.txt with e | e
   ·omega
   ·exact e
  have ct:=ht i hlt;have x1:=t.byte i;have d1:decide ((t.m:Int)≤i)=false:=by simp;omega
  have hlt':(i:Int)<t.m:=by omega
  have HS:Hid (∀q,RdOn t R (i+1) w ((w.drewN q).setCell ⟨R,1,none⟩ (.int .i64 ((i:Int)+1)))):=fun q=>by
   have hk:Keep (fun _=>False) w (w.drewN q):=Keep.of_below (below_drewN (Below.refl w.heap.size w) q) (fun k hk _=>hk)
   obtain⟨a',cap',h'⟩:=RdA.keep ⟨_,_,H.out⟩ hk (fun b q=>q.elim)
   have:=h'.set (j:=i+1) (by omega)
   rw[Int.natCast_add]at this;exact⟨⟨_,_,this⟩,(hk.mono (fun _ q=>q.elim)).trans (Keep.setCell _ _ _ rfl)⟩
  clear ht;generalize t.T i=tv at *;go_enter Tryz.func27,Tryz.ntmps27;go_wp2;go_quiet (fail);go_wp2;go_quiet (fail);go_wp2;go_ret;exact⟨rfl,HS.out _⟩
 ·have ev:t.v i=0:=if_neg hlt
  have en:t.n i=i:=if_neg hlt;rw[ev,en];have d1:decide ((t.m:Int)≤i)=true:=by simp;omega
  have hlt':(t.m:Int)≤i:=by omega
  go_enter Tryz.func27,Tryz.ntmps27;go_wp2;go_quiet (fail);go_wp2;go_ret;have hk:∀q,Keep (fun _=>False) w (w.drewN q):=fun q=>Keep.of_below (below_drewN (Below.refl w.heap.size w) q) (fun k hk _=>hk)
  exact⟨rfl,RdA.keep ⟨_,_,H.out⟩ (hk _) (fun b q=>q.elim),(hk _).mono (fun _ q=>q.elim)⟩
set_option maxHeartbeats 1000000 in
theorem ulU(t:Tp)(R i:Nat)(w:World)(h:RdA t R w i) :
  Calls Tryz.prog 83 #[.pointer (some ⟨R,0,none⟩)] w fun e w'=>e=.returned (.int .i64 ((t.m:Int)-i))∧RdOn t R i w w':=by
 obtain⟨a,cap,h⟩:=h;have c0:=h.c0;have c1:=h.c1;have hle:=h.le;have hsm:=t.le;have H:Hid (Rd t R w a cap i):=h;clear h;go_enter Tryz.func83,Tryz.ntmps83;go_wp2;go_quiet (fail);go_wp2;go_ret;have hk:∀q,Keep (fun _=>False) w (w.drewN q):=fun q=>Keep.of_below (below_drewN (Below.refl w.heap.size w) q) (fun k hk _=>hk)
 exact⟨rfl,RdA.keep ⟨_,_,H.out⟩ (hk _) (fun b q=>q.elim),(hk _).mono (fun _ q=>q.elim)⟩
end
end Go.Proofs.YthicmmhmmfhncaaGreat
