import Derived.Test.YtcbnnfnlilbjeaaGreatT06
set_option linter.unusedVariables false
set_option linter.unusedSimpArgs false
namespace Go.Proofs.YtcbnnfnlilbjeaaGreat
section
open Go.RowKit
open M (OpD NodeD Gr InsD)
def frv(f:FrD):List Value:=[.int .i64 f.kind,.int .i64 f.to,.int .i64 (f.pos:Int),.int .i64 (f.log:Int)]
def cellsF(l:List FrD):List Value:=l.flatMap frv
theorem cellsF_snoc(l:List FrD)(f:FrD):cellsF (l++[f])=cellsF l++frv f:=by simp[cellsF]
theorem cellsF_len(l:List FrD):(cellsF l).length=l.length*4:=by
 induction l with
 |nil=>rfl
 |cons x l ih =>
  have:cellsF (x::l)=frv x++cellsF l:=rfl;rw[this,List.length_append,ih,List.length_cons];show 4+_=_;omega
theorem cellsF_get:∀(l:List FrD) (i j:Nat) (x:FrD),l[i]? = some x→j<4→(cellsF l)[i*4+j]? = (frv x)[j]?
 | [],i,j,x,h,_=>by simp at h
 |y::l,0,j,x,h,hj=>by
  simp at h;subst h;show (frv y++cellsF l)[0*4+j]? = _;rw[List.getElem?_append_left (by show 0*4+j<4;omega)]
  simp
 |y::l,i+1,j,x,h,hj=>by
  simp at h;show (frv y++cellsF l)[(i+1)*4+j]? = _;have h4:(frv y).length=4:=rfl;rw[List.getElem?_append_right (by rw[h4];omega),h4,show (i+1)*4+j-4=i*4+j by omega]
  exact cellsF_get l i j x h hj
theorem own_frames{Q:Nat→Prop}{w:World}{a:Option Addr}{c:Nat}{l:List FrD}(h:OwnC Q w (.slice a l.length c) 4 l.length (cellsF l)):FrA w a l:=by
 rcases h with⟨_,e,_⟩|⟨g,cap,e,hq,hl,hc,hcell,hw⟩
 ·exact .inl e
 ·obtain rfl:a=some ⟨g,0,none⟩:=by injection e
  refine .inr ⟨g,rfl,fun i f hf=>?_⟩
  have hi:i<l.length:=(List.getElem?_eq_some_iff.1 hf).1;have hg:∀j,j<4→w.cell? ⟨g,i*4+j,none⟩=(frv f)[j]?:=fun j hj=>by
   rw[hcell _ (by rw[cellsF_len];omega),cellsF_get l i j f hf hj]
  exact⟨hg 0 (by omega),hg 1 (by omega),hg 2 (by omega),hg 3 (by omega)⟩
theorem own_shape{Q:Nat→Prop}{w:World}{v:Value}{sz n:Nat}{cs:List Value}(h:OwnC Q w v sz n cs):∃a c,v=.slice a n c:=by
 rcases h with⟨rfl,rfl,_⟩|⟨g,cap,rfl,_⟩
 ·exact⟨none,0,rfl⟩
 ·exact⟨_,_,rfl⟩
theorem ownC_wide{Q Q':Nat→Prop}{w:World}{v:Value}{sz n:Nat}{cs:List Value}(h:OwnC Q w v sz n cs)(k:∀b,Q b→Q' b):OwnC Q' w v sz n cs:=by
 rcases h with h | ⟨g,cap,e,hq,h3⟩
 ·exact .inl h
 ·exact .inr ⟨g,cap,e,k g hq,h3⟩
theorem info85:(Tryz.prog.info? 85).map (fun i=>(i.zero,i.size,i.bytes))=some (some (.agg #[.int .i64 0,.int .i64 0,.int .i64 0,.int .i64 0]),4,32):=by kernel_rfl
theorem elem53:ElemT 53 85 4 32:=⟨Tryz.underlying53,⟨_,info85,rfl⟩,by omega⟩
theorem src_fr{w W:World}(f:FrD)(y:Nat)(hy:w.heap.size=y)(k:Below (w.alloc (.cells #[.int .i64 f.kind,.int .i64 f.to,.int .i64 (f.pos:Int),.int .i64 (f.log:Int)] 85)).heap.size (w.alloc (.cells #[.int .i64 f.kind,.int .i64 f.to,.int .i64 (f.pos:Int),.int .i64 (f.log:Int)] 85)) W):Src Tryz.prog 4 53 (.slice (some ⟨y,0,none⟩) 1 1) 1 (frv f) W:=by
 subst hy;refine Src.ofSlice (P:=Tryz.prog) _ Tryz.underlying53 ⟨w.heap.size,0,none⟩ 1 1 (frv f) rfl (fun j u hu=>?_) (fun u hu=>?_)
 ·have e':(⟨w.heap.size,0,none⟩:Addr).add j=⟨w.heap.size,j,none⟩:=by
   by_cases h0:j=0
   ·subst h0;simp[Addr.add]
   ·simp[Addr.add,h0]
  rw[e'];match j,hu with
  |0,hu=>exact cell_on (cN w.heap.size rfl hu) k
  |1,hu=>exact cell_on (cN w.heap.size rfl hu) k
  |2,hu=>exact cell_on (cN w.heap.size rfl hu) k
  |3,hu=>exact cell_on (cN w.heap.size rfl hu) k
  |j+4,hu=>simp[frv]at hu
 ·simp[frv]at hu
  rcases hu with rfl | rfl | rfl | rfl<;>rfl
structure Kept(K:Nat→Prop)(w w':World):Prop where
 os:w'.os=w.os
 tape:w'.tape=w.tape
 output:w'.output=w.output
 size:w.heap.size≤w'.heap.size
 block:∀b,b<w.heap.size→¬K b→w'.heap[b]? = w.heap[b]?
theorem Kept.of{K:Nat→Prop}{w w':World}(h:Below w.heap.size w w'):Kept K w w':=⟨h.os,h.tape,h.output,h.size,fun b hb _=>h.block b hb⟩
theorem Kept.set{K:Nat→Prop}{w w':World}(h:Kept K w w')(b o:Nat)(v:Value)(hb:w.heap.size≤b):Kept K w (w'.setCell ⟨b,o,none⟩ v) :=
 ⟨h.os,h.tape,h.output,by rw[size_set];exact h.size,fun x hx hk=>(Below.heap_setCell _ _ _ x (fun e=>by simp at e;omega)).trans (h.block x hx hk)⟩
def PushIs(K:Nat→Prop)(s:MSt)(la:Option Addr)(lc:Nat)(xa:Option Addr)(xn xc:Nat)(w:World)(e:Ending)(w':World):Prop :=
 ∃ka kc,e=.returned (stV s ka kc la lc xa xn xc)∧OwnC (fun b=>K b∨New w w' b) w' (.slice ka s.st.length kc) 4 s.st.length (cellsF s.st)∧Kept K w w'
theorem push_old{K:Nat→Prop}{s s':MSt}{ka la xa:Option Addr}{kc lc xn xc:Nat}{w w':World}(hE:s'.st=s.st)(hO:OwnC K w (.slice ka s.st.length kc) 4 s.st.length (cellsF s.st))(hlt:∀b,K b→b<w.heap.size)(hb:Below w.heap.size w w'):PushIs K s' la lc xa xn xc w (.returned (stV s' ka kc la lc xa xn xc)) w':=by
 refine⟨ka,kc,rfl,?_,Kept.of hb⟩;rw[hE];exact ownC_wide (hO.on (fun z hz=>hb.block z (hlt z hz))) (fun z hz=>.inl hz)
theorem push_new{K:Nat→Prop}{s s':MSt}{f:FrD}{ka la xa:Option Addr}{n kc lc xn xc:Nat}{w Y W w':World}(hE:s'={ s with st:=s.st++[f] })(hn:s.st.length=n)(hY:Below w.heap.size w Y)(hO:OwnC (fun b=>K b∨Y.heap.size≤b) W (.slice ka (n+1) kc) 4 (n+1) (cellsF s.st++frv f))(hlt:∀b,K b→b<w.heap.size)(hG:Grew (fun b=>K b) Y W)(hS:Stay (fun b=>(K b∨Y.heap.size≤b)) W w')(hkk:Kept K w w'):PushIs K s' la lc xa xn xc w (.returned (stV s' ka kc la lc xa xn xc)) w':=by
 refine⟨ka,kc,rfl,?_,hkk⟩;subst hE;show OwnC _ _ (.slice ka (s.st++[f]).length kc) 4 (s.st++[f]).length (cellsF (s.st++[f]));rw[cellsF_snoc,List.length_append,List.length_singleton,hn];have h:=hO.on hS;rcases h with h | ⟨g,cap,e,hq,h3,h4,h5,h6⟩
 ·exact .inl h
 ·refine .inr ⟨g,cap,e,?_,h3,h4,h5,h6⟩
  rcases hq with q | q
  ·exact .inl q
  ·obtain⟨u,hu⟩:=Option.isSome_iff_exists.1 (h6 0 (by omega)).1
   exact .inr ⟨by have:=hY.size;omega,lt_of_cell hu⟩
theorem Kept.grew{K:Nat→Prop}{w Y W:World}(hY:Below w.heap.size w Y)(hG:Grew (fun b=>K b) Y W):Kept K w W :=
 ⟨hG.os.trans hY.os,hG.tape.trans hY.tape,hG.output.trans hY.output,Nat.le_trans hY.size hG.size,fun b hb hk=>(hG.block b (by have:=hY.size;omega) hk).trans (hY.block b hb)⟩
set_option maxRecDepth 100000 in
set_option maxHeartbeats 8000000 in
theorem l4push_any(K:Nat→Prop)(s:MSt)(f:FrD)(most:Int)(ka la xa:Option Addr)(kc lc xn xc:Nat)(w:World)(hK:OwnC K w (.slice ka s.st.length kc) 4 s.st.length (cellsF s.st))(hlt:∀b,K b→b<w.heap.size)(hn:s.st.length≤1000) :
  Calls Tryz.prog 42 #[stV s ka kc la lc xa xn xc,.agg #[.int .i64 f.kind,.int .i64 f.to,.int .i64 (f.pos:Int),.int .i64 (f.log:Int)],.int .i64 most] w (PushIs K (s.push f most) la lc xa xn xc w):=by
 obtain⟨n,hnn⟩:∃n,s.st.length=n:=⟨_,rfl⟩;have HN:Hid (s.st.length=n):=hnn;obtain⟨ln,hll⟩:∃ln,s.log.length=ln:=⟨_,rfl⟩;have HLL:Hid (s.log.length=ln):=hll;have HO:Hid (OwnC K w (.slice ka n kc) 4 n (cellsF s.st)):=hnn▸hK;have HLT:Hid (∀b,K b→b<w.heap.size):=hlt;rw[hnn]at hn;have HV:Hid (stV s ka kc la lc xa xn xc=.agg #[.int .i64 s.at_,.int .i64 (s.pos:Int),.slice ka n kc,.slice la ln lc,.int .i64 (s.far:Int),.slice xa xn xc,.int .i64 (s.steps:Int),.int .i64 (s.throws:Int),.bool s.done,.int .i64 s.code,.int .i64 s.label]):=by
  show _=_;unfold stV;rw[hnn,hll]
 rw[HV.out];have HVF:Hid (stV (s.fin 3) ka kc la lc xa xn xc=.agg #[.int .i64 s.at_,.int .i64 (s.pos:Int),.slice ka n kc,.slice la ln lc,.int .i64 (s.far:Int),.slice xa xn xc,.int .i64 (s.steps:Int),.int .i64 (s.throws:Int),.bool true,.int .i64 3,.int .i64 s.label]):=by
  show stV (s.fin 3) ka kc la lc xa xn xc=_;unfold stV MSt.fin;rw[HN.out,HLL.out]
 clear hnn hll hK hlt;by_cases hm:most≤(n:Int)
 ·have HE:Hid (s.push f most=s.fin 3):=by show _=_;unfold MSt.push;rw[if_pos (by rw[HN.out];exact hm)]
  go_enter Tryz.func42,Tryz.ntmps42;go_wp2_with fail;have hc:=fun W=>l4end_any s ka la xa kc lc xn xc 3 W
  simp only[HV.out]at hc;refine (hc _).mono ?_;rintro e W ⟨rfl,hb⟩;rw[HVF.out];have y0:=cell_on (a:=⟨w.heap.size+1+1,0,none⟩) (v:=.int .i64 0) (cN (w.heap.size+1+1) (by simp) rfl) hb
  have y1:=cell_on (a:=⟨w.heap.size+1+1,1,none⟩) (v:=.int .i64 0) (cN (w.heap.size+1+1) (by simp) rfl) hb
  have y2:=cell_on (a:=⟨w.heap.size+1+1,2,none⟩) (v:=.slice none 0 0) (cN (w.heap.size+1+1) (by simp) rfl) hb
  have y3:=cell_on (a:=⟨w.heap.size+1+1,3,none⟩) (v:=.slice none 0 0) (cN (w.heap.size+1+1) (by simp) rfl) hb
  have y4:=cell_on (a:=⟨w.heap.size+1+1,4,none⟩) (v:=.int .i64 0) (cN (w.heap.size+1+1) (by simp) rfl) hb
  have y5:=cell_on (a:=⟨w.heap.size+1+1,5,none⟩) (v:=.slice none 0 0) (cN (w.heap.size+1+1) (by simp) rfl) hb
  have y6:=cell_on (a:=⟨w.heap.size+1+1,6,none⟩) (v:=.int .i64 0) (cN (w.heap.size+1+1) (by simp) rfl) hb
  have y7:=cell_on (a:=⟨w.heap.size+1+1,7,none⟩) (v:=.int .i64 0) (cN (w.heap.size+1+1) (by simp) rfl) hb
  have y8:=cell_on (a:=⟨w.heap.size+1+1,8,none⟩) (v:=.bool false) (cN (w.heap.size+1+1) (by simp) rfl) hb
  have y9:=cell_on (a:=⟨w.heap.size+1+1,9,none⟩) (v:=.int .i64 0) (cN (w.heap.size+1+1) (by simp) rfl) hb
  have y10:=cell_on (a:=⟨w.heap.size+1+1,10,none⟩) (v:=.int .i64 0) (cN (w.heap.size+1+1) (by simp) rfl) hb
  have fz:∀o,W.frozen? ⟨w.heap.size+1+1,o,none⟩=false:=fun o=>by
   rw[hb.frozen (p:=⟨w.heap.size+1+1,o,none⟩) (by simp)]
   exact (((soft1 w _ 55).trans (soft1 _ _ 85) (bel1 _ _)).trans (soft1 _ _ 55) (bel1 _ _)) _ o (by omega) (by simp)
  have q0:=fz 0;have q1:=fz 1;have q2:=fz 2;have q3:=fz 3;have q4:=fz 4;have q5:=fz 5;have q6:=fz 6;have q7:=fz 7;have q8:=fz 8;have q9:=fz 9;have q10:=fz 10;have HB:Hid (Below w.heap.size w W):=bel_tr (bel3 w _ _ _) hb;have lw:=lt_of_cell y0;clear hb hc fz;go_wp2;refine bodyPost_ret (v:=stV (s.push f most) ka kc la lc xa xn xc) ?_ rfl ?_
  ·rw[HE.out,HVF.out]
   simp[results,Tryz.f42,go_sem, *]
  ·exact push_old (s:=s) (by rw[HE.out];rfl) (by rw[HN.out];exact HO.out) HLT.out (bel_set (bel_set (bel_set (bel_set (bel_set (bel_set (bel_set (bel_set (bel_set (bel_set (bel_set (HB.out) _ _ _ (by omega)) _ _ _ (by omega)) _ _ _ (by omega)) _ _ _ (by omega)) _ _ _ (by omega)) _ _ _ (by omega)) _ _ _ (by omega)) _ _ _ (by omega)) _ _ _ (by omega)) _ _ _ (by omega)) _ _ _ (by omega))
 ·have HE:Hid (s.push f most={ s with st:=s.st++[f] }):=by show _=_;unfold MSt.push;rw[if_neg (by rw[HN.out];exact hm)]
  have hm':¬most≤(n:Int):=hm;go_enter Tryz.func42,Tryz.ntmps42;have HOY:Hid (∀W',Below w.heap.size w W'→OwnC K W' (.slice ka n kc) 4 n (cellsF s.st)):=fun W' hW=>HO.out.on (fun z hz=>hW.block z (HLT.out z hz))
  go_wp2_with (at_builtin;refine appC rfl _ _ 53 53 rfl rfl rfl elem53 (HOY.out _ (bel_tr (bel3 w _ _ _) (bel1 _ _))) (src_fr f (w.heap.size+1+1+1) (by simp) (Below.refl _ _)) (by omega) (fun _=>Nat.one_pos) ?_;intro v' W4 hown hgrew hsz;obtain⟨a',c',rfl⟩:=own_shape hown;have HOW:Hid _:=hown;have HGW:Hid _:=hgrew;have b0:=hgrew.block w.heap.size (by simp;omega) (fun q=>absurd (HLT.out _ q) (by omega));have b2:=hgrew.block (w.heap.size+1+1) (by simp) (fun q=>absurd (HLT.out _ q) (by omega));have r0:=(World.cell?_of_block (a:=⟨w.heap.size,0,none⟩) b0).trans (cellOn _ (cellOn _ (cellOn _ (cN (v:=.int .i64 s.at_) w.heap.size rfl rfl))));have r1:=(World.cell?_of_block (a:=⟨w.heap.size,1,none⟩) b0).trans (cellOn _ (cellOn _ (cellOn _ (cN (v:=.int .i64 (s.pos:Int)) w.heap.size rfl rfl))));have r2:=(World.cell?_of_block (a:=⟨w.heap.size,2,none⟩) b0).trans (cellOn _ (cellOn _ (cellOn _ (cN (v:=.slice ka n kc) w.heap.size rfl rfl))));have r3:=(World.cell?_of_block (a:=⟨w.heap.size,3,none⟩) b0).trans (cellOn _ (cellOn _ (cellOn _ (cN (v:=.slice la ln lc) w.heap.size rfl rfl))));have r4:=(World.cell?_of_block (a:=⟨w.heap.size,4,none⟩) b0).trans (cellOn _ (cellOn _ (cellOn _ (cN (v:=.int .i64 (s.far:Int)) w.heap.size rfl rfl))));have r5:=(World.cell?_of_block (a:=⟨w.heap.size,5,none⟩) b0).trans (cellOn _ (cellOn _ (cellOn _ (cN (v:=.slice xa xn xc) w.heap.size rfl rfl))));have r6:=(World.cell?_of_block (a:=⟨w.heap.size,6,none⟩) b0).trans (cellOn _ (cellOn _ (cellOn _ (cN (v:=.int .i64 (s.steps:Int)) w.heap.size rfl rfl))));have r7:=(World.cell?_of_block (a:=⟨w.heap.size,7,none⟩) b0).trans (cellOn _ (cellOn _ (cellOn _ (cN (v:=.int .i64 (s.throws:Int)) w.heap.size rfl rfl))));have r8:=(World.cell?_of_block (a:=⟨w.heap.size,8,none⟩) b0).trans (cellOn _ (cellOn _ (cellOn _ (cN (v:=.bool s.done) w.heap.size rfl rfl))));have r9:=(World.cell?_of_block (a:=⟨w.heap.size,9,none⟩) b0).trans (cellOn _ (cellOn _ (cellOn _ (cN (v:=.int .i64 s.code) w.heap.size rfl rfl))));have r10:=(World.cell?_of_block (a:=⟨w.heap.size,10,none⟩) b0).trans (cellOn _ (cellOn _ (cellOn _ (cN (v:=.int .i64 s.label) w.heap.size rfl rfl))));have y0:=(World.cell?_of_block (a:=⟨w.heap.size+1+1,0,none⟩) b2).trans (cellOn _ (cN (v:=.int .i64 0) (w.heap.size+1+1) (by simp) rfl));have y1:=(World.cell?_of_block (a:=⟨w.heap.size+1+1,1,none⟩) b2).trans (cellOn _ (cN (v:=.int .i64 0) (w.heap.size+1+1) (by simp) rfl));have y2:=(World.cell?_of_block (a:=⟨w.heap.size+1+1,2,none⟩) b2).trans (cellOn _ (cN (v:=.slice none 0 0) (w.heap.size+1+1) (by simp) rfl));have y3:=(World.cell?_of_block (a:=⟨w.heap.size+1+1,3,none⟩) b2).trans (cellOn _ (cN (v:=.slice none 0 0) (w.heap.size+1+1) (by simp) rfl));have y4:=(World.cell?_of_block (a:=⟨w.heap.size+1+1,4,none⟩) b2).trans (cellOn _ (cN (v:=.int .i64 0) (w.heap.size+1+1) (by simp) rfl));have y5:=(World.cell?_of_block (a:=⟨w.heap.size+1+1,5,none⟩) b2).trans (cellOn _ (cN (v:=.slice none 0 0) (w.heap.size+1+1) (by simp) rfl));have y6:=(World.cell?_of_block (a:=⟨w.heap.size+1+1,6,none⟩) b2).trans (cellOn _ (cN (v:=.int .i64 0) (w.heap.size+1+1) (by simp) rfl));have y7:=(World.cell?_of_block (a:=⟨w.heap.size+1+1,7,none⟩) b2).trans (cellOn _ (cN (v:=.int .i64 0) (w.heap.size+1+1) (by simp) rfl));have y8:=(World.cell?_of_block (a:=⟨w.heap.size+1+1,8,none⟩) b2).trans (cellOn _ (cN (v:=.bool false) (w.heap.size+1+1) (by simp) rfl));have y9:=(World.cell?_of_block (a:=⟨w.heap.size+1+1,9,none⟩) b2).trans (cellOn _ (cN (v:=.int .i64 0) (w.heap.size+1+1) (by simp) rfl));have y10:=(World.cell?_of_block (a:=⟨w.heap.size+1+1,10,none⟩) b2).trans (cellOn _ (cN (v:=.int .i64 0) (w.heap.size+1+1) (by simp) rfl));have fz:∀b o,w.heap.size≤b→b<w.heap.size+3→W4.frozen? ⟨b,o,none⟩=false:=fun b o h1 h2=>by { rw[hgrew.frozen b o (by simp;omega)];exact (((soft1 w _ 55).trans (soft1 _ _ 85) (bel1 _ _)).trans (soft1 _ _ 55) (bel1 _ _)).trans (soft1 _ _ 85) (bel1 _ _) b o h1 (by simp;omega) };have f2:=fz w.heap.size 2 (by omega) (by omega);have q0:=fz (w.heap.size+1+1) 0 (by omega) (by omega);have q1:=fz (w.heap.size+1+1) 1 (by omega) (by omega);have q2:=fz (w.heap.size+1+1) 2 (by omega) (by omega);have q3:=fz (w.heap.size+1+1) 3 (by omega) (by omega);have q4:=fz (w.heap.size+1+1) 4 (by omega) (by omega);have q5:=fz (w.heap.size+1+1) 5 (by omega) (by omega);have q6:=fz (w.heap.size+1+1) 6 (by omega) (by omega);have q7:=fz (w.heap.size+1+1) 7 (by omega) (by omega);have q8:=fz (w.heap.size+1+1) 8 (by omega) (by omega);have q9:=fz (w.heap.size+1+1) 9 (by omega) (by omega);have q10:=fz (w.heap.size+1+1) 10 (by omega) (by omega);have lw4:=lt_of_cell r0;have lw6:=lt_of_cell y0;clear hown hgrew hsz b0 b2 fz)
  have HVR:Hid (stV (s.push f most) a' c' la lc xa xn xc=.agg #[.int .i64 s.at_,.int .i64 (s.pos:Int),.slice a' (n+1) c',.slice la ln lc,.int .i64 (s.far:Int),.slice xa xn xc,.int .i64 (s.steps:Int),.int .i64 (s.throws:Int),.bool s.done,.int .i64 s.code,.int .i64 s.label]):=by
   show _=_;rw[HE.out];unfold stV;simp only[List.length_append,List.length_singleton,HN.out,HLL.out]
  refine bodyPost_ret (v:=stV (s.push f most) a' c' la lc xa xn xc) ?_ rfl ?_
  ·rw[HVR.out]
   simp[results,Tryz.f42,go_sem, *]
  ·refine push_new (s:=s) (f:=f) (n:=n) HE.out HN.out (bel_tr (bel3 w _ _ _) (bel1 _ _)) HOW.out HLT.out HGW.out ?_ (((((((((((((Kept.grew (bel_tr (bel3 w _ _ _) (bel1 _ _)) HGW.out).set _ _ _ (by omega)).set _ _ _ (by omega)).set _ _ _ (by omega)).set _ _ _ (by omega)).set _ _ _ (by omega)).set _ _ _ (by omega)).set _ _ _ (by omega)).set _ _ _ (by omega)).set _ _ _ (by omega)).set _ _ _ (by omega)).set _ _ _ (by omega)).set _ _ _ (by omega))
   have hA:¬(K w.heap.size∨w.heap.size+1+1+1+1≤w.heap.size):=fun q=>q.elim (fun q=>absurd (HLT.out _ q) (by omega)) (fun q=>by omega)
   have hC:¬(K (w.heap.size+1+1)∨w.heap.size+1+1+1+1≤w.heap.size+1+1):=fun q=>q.elim (fun q=>absurd (HLT.out _ q) (by omega)) (fun q=>by omega)
   simp only[World.size_alloc];exact ((((((((((((stay_set _ ⟨w.heap.size,2,none⟩ _ hA)).trans (stay_set _ ⟨w.heap.size+1+1,0,none⟩ _ hC)).trans (stay_set _ ⟨w.heap.size+1+1,1,none⟩ _ hC)).trans (stay_set _ ⟨w.heap.size+1+1,2,none⟩ _ hC)).trans (stay_set _ ⟨w.heap.size+1+1,3,none⟩ _ hC)).trans (stay_set _ ⟨w.heap.size+1+1,4,none⟩ _ hC)).trans (stay_set _ ⟨w.heap.size+1+1,5,none⟩ _ hC)).trans (stay_set _ ⟨w.heap.size+1+1,6,none⟩ _ hC)).trans (stay_set _ ⟨w.heap.size+1+1,7,none⟩ _ hC)).trans (stay_set _ ⟨w.heap.size+1+1,8,none⟩ _ hC)).trans (stay_set _ ⟨w.heap.size+1+1,9,none⟩ _ hC)).trans (stay_set _ ⟨w.heap.size+1+1,10,none⟩ _ hC)
end
end Go.Proofs.YtcbnnfnlilbjeaaGreat
