import Derived.Test.YtcbnnfnlilbjeaaGreatT17
import Derived.Test.YtcbnnfnlilbjeaaGreatT18
import Derived.Test.YtcbnnfnlilbjeaaGreatT19
import Derived.Test.YtcbnnfnlilbjeaaGreatT10
set_option linter.unusedVariables false
set_option linter.unusedSimpArgs false
namespace Go.Proofs.YtcbnnfnlilbjeaaGreat
section
open Go.RowKit
open M (OpD NodeD Gr InsD EX ins emit wsum)
theorem pex_any (w0 : World) (cb : Nat) (Q : Nat→Prop) (ra la : Option Addr) (rc lc : Nat) (g : Gr) (h1 : g.nr≤100) (h2 : g.nb≤100) (b off N : Nat) (B : Nat→OpD) (hN : N≤2000)
    (hok:∀ i,i<N→M.ElemOK g.nr g.nb (B i)) (hB:∀ i,i<N→OpC Q w0 b (off+i*3) (B i)) (hi:Nat) :
    ∀ (lo o c l:Nat) (x:EX) (L:List IC) (fl:List Int) (w:World),hi≤N→M.Fed B hi→M.stk (M.nodeE g.nr) B hi=(lo,x) :: M.stk (M.nodeE g.nr) B lo→o=off+lo*3→l+lo=hi→l≤c →
      CS w0 cb (.slice ra g.nr rc) (.slice la g.nb lc) L [] fl w→L.length+x.len≤100000 →
      Calls Tryz.prog 50 #[.pointer (some ⟨cb,0,none⟩),.slice (some ⟨b,o,none⟩) l c] w (ExpIs w0 cb (.slice ra g.nr rc) (.slice la g.nb lc) L fl x):=by
  induction hi using Nat.strongRecOn with
  | _ hi ih =>
    intro lo o c l x L fl w hle hF hst
    obtain ⟨hlo,_,_⟩:=M.stk_cons _ B hi hF lo x _ hst
    obtain ⟨q,rfl⟩:∃ q,hi=q+1:=⟨hi-1,by omega⟩
    have hE:=hok q (by omega)
    have k0:=hE.1
    have k7:=hE.2.1
    rcases (show (B q).kind=0∨(B q).kind=1∨(B q).kind=2∨(B q).kind=3∨(B q).kind=4∨(B q).kind=5∨(B q).kind=6∨(B q).kind=7 by omega) with e | e | e | e | e | e | e | e
    · exact pex_empty w0 cb Q ra la rc lc g h1 h2 b off N B hN hok hB q ih e lo o c l x L fl w hle hF hst
    · exact pex_set w0 cb Q ra la rc lc g h1 h2 b off N B hN hok hB q ih e lo o c l x L fl w hle hF hst
    · exact pex_ref w0 cb Q ra la rc lc g h1 h2 b off N B hN hok hB q ih e lo o c l x L fl w hle hF hst
    · exact pex_thr w0 cb Q ra la rc lc g h1 h2 b off N B hN hok hB q ih e lo o c l x L fl w hle hF hst
    · exact pex_seq w0 cb Q ra la rc lc g h1 h2 b off N B hN hok hB q ih e lo o c l x L fl w hle hF hst
    · exact pex_alt w0 cb Q ra la rc lc g h1 h2 b off N B hN hok hB q ih e lo o c l x L fl w hle hF hst
    · exact pex_star w0 cb Q ra la rc lc g h1 h2 b off N B hN hok hB q ih e lo o c l x L fl w hle hF hst
    · exact pex_not w0 cb Q ra la rc lc g h1 h2 b off N B hN hok hB q ih e lo o c l x L fl w hle hF hst
theorem pex_body (w0 : World) (cb : Nat) (Q : Nat→Prop) (ra la a : Option Addr) (rc lc n c : Nat) (g : Gr) (h1 : g.nr≤100) (h2 : g.nb≤100) (B : Nat→OpD) (hn : n≤2000) (hc : n≤c) (hok : M.BodyOK g.nr g.nb n B) (hB : OpsA Q w0 a n B) (L : List IC) (fl : List Int) (w : World)
    (hC:CS w0 cb (.slice ra g.nr rc) (.slice la g.nb lc) L [] fl w) (hL:L.length≤50000) :
    Calls Tryz.prog 50 #[.pointer (some ⟨cb,0,none⟩),.slice a n c] w (ExpIs w0 cb (.slice ra g.nr rc) (.slice la g.nb lc) L fl (M.treeE g.nr n B)):=by
  have h0:¬ n=0:=fun q=>by
    have:=hok.2.2
    rw [q,M.dep] at this
    omega
  rcases hB with q | ⟨b,off,rfl,hq,hB⟩
  · exact absurd q h0
  have hl:=tree_len hok
  have hw:=M.wsum_bd B n
  exact pex_any w0 cb Q ra la rc lc g h1 h2 b off n B hn hok.1 hB n 0 off c n _ L fl w (Nat.le_refl _) hok.2.1 (stk_whole _ B n hok.2) (by omega) (by omega) hc hC (by show L.length+(M.treeE g.nr n B).len≤100000;omega)
theorem src_int1 (w : World) (z : Int) : Src Tryz.prog 1 33 (.slice (some ⟨w.heap.size,0,none⟩) 1 1) 1 [.int .i64 z] (w.alloc (.cells #[.int .i64 z] 3)):=by
  refine Src.ofSlice (P:=Tryz.prog) _ Tryz.underlying33 ⟨w.heap.size,0,none⟩ 1 1 [.int .i64 z] rfl (fun j u hu=>?_) (fun u hu=>?_)
  · match j,hu with
    | 0,hu=>simp at hu;subst hu;simp [Addr.add]
    | j+1,hu=>simp at hu
  · simp at hu
    subst hu
    rfl
set_option maxRecDepth 100000 in
set_option maxHeartbeats 8000000 in
theorem putNode_any (w0 : World) (cb : Nat) (Q : Nat→Prop) (ra la a : Option Addr) (rc lc n c : Nat) (g : Gr) (h1 : g.nr≤100) (h2 : g.nb≤100) (B : Nat→OpD) (hn : n≤2000) (hc : n≤c) (hok : M.BodyOK g.nr g.nb n B) (hB : OpsA Q w0 a n B) (L : List IC) (fl : List Int) (k z : Int) (w : World)
    (hC:CS w0 cb (.slice ra g.nr rc) (.slice la g.nb lc) L [] fl w) (hL:L.length≤40000) (hfl:fl.length≤40000) :
    Calls Tryz.prog 22 #[.pointer (some ⟨cb,0,none⟩),.agg #[.int .i64 k,.int .i64 z,.int .i64 0,.slice none 0 0],.slice a n c] w fun e w'=>(∃ v,e = .returned v)∧∃ K:List IC,K.map IC.d=M.nodeC (fun n=>(n:Int)) (ins k z 0) (M.treeE g.nr n B) L.length∧CS w0 cb (.slice ra g.nr rc) (.slice la g.nb lc) (L ++ K) [] (fl ++ [(L.length:Int)]) w':=by
  have HOK:Hid (M.BodyOK g.nr g.nb n B):=hok
  have HB:Hid (OpsA Q w0 a n B):=hB
  have HC:Hid (CS w0 cb (.slice ra g.nr rc) (.slice la g.nb lc) L [] fl w):=hC
  have HTL:Hid ((M.treeE g.nr n B).len≤4000):=by
    show _≤_
    have:=M.wsum_bd B n
    rw [tree_len hok]
    omega
  have x0:(w.alloc (.cells #[.int .i64 k,.int .i64 z,.int .i64 0,.slice none 0 0] 52)).cell? ⟨w.heap.size,0,none⟩=some (.int .i64 k):=cN w.heap.size rfl rfl
  have x1:(w.alloc (.cells #[.int .i64 k,.int .i64 z,.int .i64 0,.slice none 0 0] 52)).cell? ⟨w.heap.size,1,none⟩=some (.int .i64 z):=cN w.heap.size rfl rfl
  have x2:(w.alloc (.cells #[.int .i64 k,.int .i64 z,.int .i64 0,.slice none 0 0] 52)).cell? ⟨w.heap.size,2,none⟩=some (.int .i64 0):=cN w.heap.size rfl rfl
  have x3:(w.alloc (.cells #[.int .i64 k,.int .i64 z,.int .i64 0,.slice none 0 0] 52)).cell? ⟨w.heap.size,3,none⟩=some (.slice none 0 0):=cN w.heap.size rfl rfl
  obtain ⟨P,F,S,vp,vf,hP⟩:=(hC.plain k z 0).later (bel1 w (.cells #[.int .i64 k,.int .i64 z,.int .i64 0,.slice none 0 0] 52))
  obtain ⟨fa,fc,rfl⟩:=own_shape hP.ownf
  have HX:Hid (CP w0 cb (.slice ra g.nr rc) (.slice la g.nb lc) L [ic k z 0] fl (w.alloc (.cells #[.int .i64 k,.int .i64 z,.int .i64 0,.slice none 0 0] 52)) P F S vp (.slice fa fl.length fc)):=hP
  clear hok hB hC hP
  go_enter Tryz.func22,Tryz.ntmps22
  go_wp2
  generalize w.alloc (.cells #[.int .i64 k,.int .i64 z,.int .i64 0,.slice none 0 0] 52)=X at *
  have f3:=HX.out.f
  have lcb:=HX.out.cb0.2
  have lx:=lt_of_cell x0
  go_region_law (first
    | (refine stepC2 enter21 rfl (.tmp 11) (.tmp 12) 92 52 rfl (y1:=.pointer (some ⟨cb,0,none⟩)) (y2:=.agg #[.int .i64 k,.int .i64 z,.int .i64 0,.slice none 0 0]) (by simp [Act.eval,Act.put]) (by simp [Act.eval,Act.put]) ((put_cp w0 cb _ _ L (ic k z 0) fl X.drew P F S vp (.slice fa fl.length fc) (HX.out.later (Below.refl _ X).drew) (by omega)).mono ?_)
       rintro e W2 ⟨rfl,P2,vp2,h2⟩
       have HP2:Hid (CP w0 cb (.slice ra g.nr rc) (.slice la g.nb lc) (L ++ [ic k z 0]) [] fl W2 P2 F S vp2 (.slice fa fl.length fc)):=h2
       have u3:=h2.f
       have lcb2:=h2.cb0.2
       clear h2
       refine ⟨_,rfl,?_⟩)
    | (refine stepC rfl (.tmp 10) (.tmp 14) 33 33 rfl (v:=.slice fa fl.length fc) (y:=.slice (some ⟨W2.heap.size,0,none⟩) 1 1) (by simp [Act.eval,Act.put]) (by simp [Act.eval,Act.put]) elem33 (HP2.out.later (bel1 W2 (.cells #[.int .i64 (L.length:Int)] 3))).ownf (src_int1 W2 (L.length:Int)) (by omega) (fun _=>Nat.one_pos) ?_
       intro v' W4 hown4 hgrew4 hsz4
       have hpf:=(HP2.out.later (bel1 W2 (.cells #[.int .i64 (L.length:Int)] 3))).putF hown4 hgrew4
       have hcb4:W4.heap[cb]? = (W2.alloc (.cells #[.int .i64 (L.length:Int)] 3)).heap[cb]?:=hgrew4.block cb (HP2.out.later (bel1 W2 (.cells #[.int .i64 (L.length:Int)] 3))).cb0.2 (fun q=>((HP2.out.later (bel1 W2 (.cells #[.int .i64 (L.length:Int)] 3))).rf cb q).2.2.1 rfl)
       have r2:W4.cell? ⟨cb,3,none⟩=some (.slice fa fl.length fc):=(World.cell?_of_block (a:=⟨cb,3,none⟩) hcb4).trans (HP2.out.later (bel1 W2 (.cells #[.int .i64 (L.length:Int)] 3))).f
       have r3:W4.frozen? ⟨cb,3,none⟩=false:=(World.frozen?_of_block (a:=⟨cb,3,none⟩) hcb4).trans ((HP2.out.later (bel1 W2 (.cells #[.int .i64 (L.length:Int)] 3))).soft 3)
       obtain ⟨a4,c4,rfl⟩:=own_shape hown4
       have C4:Hid (CS w0 cb (.slice ra g.nr rc) (.slice la g.nb lc) (L ++ [ic k z 0]) [] (fl ++ [(L.length:Int)]) (W4.setCell ⟨cb,3,none⟩ (.slice a4 (fl.length+1) c4))):=hpf
       clear hown4 hgrew4 hsz4 hpf hcb4))
  all_goals go_goals
  all_goals (
    have HL4:Hid ((L ++ [ic k z 0]).length=L.length+1):=by show _=_;simp
    go_wp2_with fail
    refine (pex_body w0 cb Q ra la a rc lc n c g h1 h2 B hn hc HOK.out HB.out (L ++ [ic k z 0]) (fl ++ [(L.length:Int)]) _ C4.out (by have:=HL4.out;omega)).mono ?_
    rintro e W5 ⟨⟨v5,rfl⟩,K5,hm5,hc5⟩
    have HM5:Hid (K5.map IC.d=emit (fun n=>(n:Int)) (M.treeE g.nr n B) (L.length+1)):=HL4.out ▸ hm5
    have HK5:Hid (K5.length=(M.treeE g.nr n B).len):=by show _=_;exact exp_len hm5
    have C5:Hid (CS w0 cb (.slice ra g.nr rc) (.slice la g.nb lc) (L ++ [ic k z 0] ++ K5) [] (fl ++ [(L.length:Int)]) W5):=hc5
    clear hm5 hc5
    go_wp2_with fail
    refine (put_any w0 cb _ _ (L ++ [ic k z 0] ++ K5) _ W5 11 0 0 C5.out (by have h1:=HK5.out;have h2:=HTL.out;have h3:=HL4.out;rw [List.length_append];omega)).mono ?_
    rintro e W6 ⟨rfl,C6⟩
    go_wp2_with fail
    refine (put_any w0 cb _ _ (L ++ [ic k z 0] ++ K5 ++ [ic 11 0 0]) _ W6 7 0 0 C6.out (by have h1:=HK5.out;have h2:=HTL.out;have h3:=HL4.out;rw [List.length_append,List.length_append];show _+_+1≤_;omega)).mono ?_
    rintro e W7 ⟨rfl,C7⟩
    go_wp2
    go_end0
    refine ⟨⟨_,rfl⟩,ic k z 0 :: (K5 ++ [ic 11 0 0,ic 7 0 0]),?_,?_⟩
    · rw [List.map_cons,List.map_append,HM5.out];rfl
    · have e:L ++ ic k z 0 :: (K5 ++ [ic 11 0 0,ic 7 0 0])=L ++ [ic k z 0] ++ K5 ++ [ic 11 0 0] ++ [ic 7 0 0]:=by simp
      rw [e];exact C7.out)
end
section
open Go.RowKit
open M (OpD NodeD Gr InsD EX ins lk)
def lkI(f:Int→Int)(x:IC):IC:=⟨lk f x.d,x.a,x.c⟩
def lkd(f:Int→Int)(l:List IC)(k:Nat):List IC:=(l.take k).map (lkI f)++l.drop k
theorem lkd_len(f:Int→Int)(l:List IC)(k:Nat):(lkd f l k).length=l.length:=by
 unfold lkd;rw[List.length_append,List.length_map,List.length_take,List.length_drop];omega
theorem lkd_get{f:Int→Int}{l:List IC}{k:Nat}{x:IC}(h:l[k]? = some x):(lkd f l k)[k]? = some x:=by
 have hk:k<l.length:=(List.getElem?_eq_some_iff.1 h).1;unfold lkd;rw[List.getElem?_append_right (by rw[List.length_map,List.length_take];omega),List.length_map,List.length_take,show k-min k l.length=0 by omega,List.getElem?_drop]
 simpa using h
theorem lkd_succ{f:Int→Int}{l:List IC}{k:Nat}{x:IC}(h:l[k]? = some x):lkd f l (k+1)=(lkd f l k).set k (lkI f x):=by
 have hk:k<l.length:=(List.getElem?_eq_some_iff.1 h).1;have hx:l[k]=x:=(List.getElem?_eq_some_iff.1 h).2;unfold lkd;rw[List.set_append_right _ _ (by rw[List.length_map,List.length_take];omega),List.length_map,List.length_take,show k-min k l.length=0 by omega,List.drop_eq_getElem_cons hk,List.set_cons_zero,List.take_succ_eq_append_getElem hk,List.map_append,List.append_assoc,hx]
 rfl
theorem lkI_same{f:Int→Int}{x:IC}(h:¬(x.d.kind=6∨x.d.kind=8)):lkI f x=x:=by
 unfold lkI lk;rw[if_neg h]
theorem lkI_turn{f:Int→Int}{x:IC}(h:x.d.kind=6∨x.d.kind=8):lkI f x=toI x (f x.d.to):=by
 unfold lkI lk toI;rw[if_pos h]
theorem lkd_full(f:Int→Int)(l:List IC):lkd f l l.length=l.map (lkI f):=by
 unfold lkd;simp
theorem lkd_zero(f:Int→Int)(l:List IC):lkd f l 0=l:=by simp[lkd]
def lnI(w0:World)(cb:Nat)(u0 u1:Value)(l:List IC)(fl:List Int)(f:Int→Int)(P F S:Nat→Prop)(vp vf:Value)(iv:Value)(wr:World):Prop :=
 ∃k:Nat,k≤l.length∧iv=.int .i64 (k:Int)∧CP w0 cb u0 u1 (lkd f l k) [] fl wr P F S vp vf
set_option maxRecDepth 100000 in
set_option maxHeartbeats 8000000 in
theorem link_any(w0:World)(cb:Nat)(u0 u1:Value)(l:List IC)(fl:List Int)(f:Int→Int)(w:World)(h:CS w0 cb u0 u1 l [] fl w)(hl0:0<l.length)(hl:l.length≤200000)(hfl:fl.length≤200000)
  (hto:∀(i:Nat) (x:IC),l[i]? = some x→x.d.kind=6∨x.d.kind=8→∃n:Nat,x.d.to=(n:Int)∧fl[n]? = some (f x.d.to)) :
  Calls Tryz.prog 23 #[.pointer (some ⟨cb,0,none⟩)] w fun e w'=>(∃v,e=.returned v)∧CS w0 cb u0 u1 (l.map (lkI f)) [] fl w':=by
 obtain⟨P,F,S,vp,vf,h⟩:=h;obtain⟨g,cap,rfl,hcap⟩:∃g cap,vp=.slice (some ⟨g,0,none⟩) l.length cap∧l.length≤cap:=by
  rcases h.own with⟨_,q,_⟩|⟨g,cap,e,hq,h3,h4,h5,h6⟩
  ·omega
  ·exact⟨g,cap,e,h4⟩
 have HTO:Hid (∀(i:Nat) (x:IC),l[i]? = some x→x.d.kind=6∨x.d.kind=8→∃n:Nat,x.d.to=(n:Int)∧fl[n]? = some (f x.d.to)):=hto;have HP:Hid (CP w0 cb u0 u1 (lkd f l 0) [] fl w P F S (.slice (some ⟨g,0,none⟩) l.length cap) vf):=by show CP _ _ _ _ _ _ _ _ _ _ _ _ _;rw[lkd_zero];exact h
 have p2:=h.p;have lcb:=h.cb0.2;clear h hto;go_enter Tryz.func23,Tryz.ntmps23;go_wp2;go_loopw [9] (fun iv wr=>lnI w0 cb u0 u1 l fl f P F S (.slice (some ⟨g,0,none⟩) l.length cap) vf iv wr) (fun iv _=>l.length-(intOf iv).toNat)
 case atStart=>exact⟨0,Nat.zero_le _,rfl,HP.out⟩
 case round =>
  clear p2;obtain⟨k,hk,rfl,hC⟩:=hrel;have HC:Hid (CP w0 cb u0 u1 (lkd f l k) [] fl wr P F S (.slice (some ⟨g,0,none⟩) l.length cap) vf):=hC;by_cases hlt:k<l.length
  ·obtain⟨x,hx⟩:∃x,l[k]? = some x:=⟨l[k],List.getElem?_eq_getElem hlt⟩
   have hgx:=lkd_get (f:=f) hx;have hrow:∀j,j<4→wr.cell? ⟨g,k*4+j,none⟩=(icv x)[j]?∧wr.frozen? ⟨g,k*4+j,none⟩=false:=fun j hj=>by
    rcases hC.own with⟨q,_⟩|⟨g',cap',q,hq,h3,h4,h5,h6⟩
    ·cases q
    ·obtain⟨rfl,rfl⟩:g=g'∧cap=cap':=by
      injection q with e1 e2 e3
      injection e1 with e1
      injection e1 with e1
      exact⟨e1,e3⟩
     have hlen:=cellsI_len (lkd f l k);rw[lkd_len]at hlen;exact⟨by rw[h5 _ (by rw[hlen];omega)];exact cellsI_get _ k j x hgx hj,(h6 _ (by omega)).2⟩
   have c0:wr.cell? ⟨g,k*4,none⟩=some (.int .i64 x.d.kind):=(hrow 0 (by omega)).1
   have c1:wr.cell? ⟨g,k*4+1,none⟩=some (.int .i64 x.d.arg):=(hrow 1 (by omega)).1
   have c2:wr.cell? ⟨g,k*4+2,none⟩=some (.int .i64 x.d.to):=(hrow 2 (by omega)).1
   have c3:wr.cell? ⟨g,k*4+3,none⟩=some (.slice x.a x.d.sl x.c):=(hrow 3 (by omega)).1
   have cf:=(hrow 2 (by omega)).2
   have lg:=lt_of_cell c0;have q2:=hC.p;have q3:=hC.f;have lcb2:=hC.cb0.2;have HX:Hid (l[k]? = some x):=hx;have HSU:Hid (lkd f l (k+1)=(lkd f l k).set k (lkI f x)):=lkd_succ hx;have HGX:Hid ((lkd f l k)[k]? = some x):=hgx;have hk':(k:Int)<(l.length:Int):=by omega
   clear hrow hgx hx;by_cases e68:x.d.kind=6∨x.d.kind=8
   ·obtain⟨n,hn,hfn⟩:=HTO.out k x HX.out e68
    have hnl:n<fl.length:=(List.getElem?_eq_some_iff.1 hfn).1;obtain⟨fg,fcap,rfl,hfc⟩:∃fg fcap,vf=.slice (some ⟨fg,0,none⟩) fl.length fcap∧wr.cell? ⟨fg,n,none⟩=some (.int .i64 (f x.d.to)):=by
     rcases hC.ownf with⟨_,q,_⟩|⟨fg,fcap,e,hq,h3,h4,h5,h6⟩
     ·omega
     ·refine⟨fg,fcap,e,?_⟩
      rw[h5 n (by rw[intsV_len];exact hnl)]
      unfold intsV;rw[List.getElem?_map,hfn];rfl
    have HTU:Hid (lkI f x=toI x (f x.d.to)):=lkI_turn e68;have lfg:=lt_of_cell hfc;rw[hn]at c2 hfc HTU;have hn':(n:Int)<(fl.length:Int):=by omega
    have HAIM:Hid (∀t:Int,CP w0 cb u0 u1 ((lkd f l k).set k (toI x t)) [] fl ((wr.setCell ⟨g,k*4+2,none⟩ (.int .i64 t)).alloc (.cells #[.int .i64 x.d.kind,.int .i64 x.d.arg,.int .i64 (n:Int),.slice x.a x.d.sl x.c] 52)).drew P F S (.slice (some ⟨g,0,none⟩) l.length cap) (.slice (some ⟨fg,0,none⟩) fl.length fcap)):=fun t=>(HC.out.aim HGX.out).later (bel1 _ _).drew
    clear hC hfn hn;generalize f (n:Int)=fv at *;by_cases e6:x.d.kind=6
    ·have f6:(x.d.kind==6)=true:=by simp[e6]
     clear e6 e68;go_wp2;go_region;all_goals go_wp2
     all_goals go_roundw
     all_goals first
      |exact⟨k+1,by omega,by go_num,by rw[HSU.out,HTU.out];exact HAIM.out fv⟩
      | (simp[intOf];omega)
    ·have f6:(x.d.kind==6)=false:=by simp[e6]
     have f8:(x.d.kind==8)=true:=by simp;omega
     clear e6 e68;go_wp2;go_region;all_goals go_wp2
     all_goals go_roundw
     all_goals first
      |exact⟨k+1,by omega,by go_num,by rw[HSU.out,HTU.out];exact HAIM.out fv⟩
      | (simp[intOf];omega)
   ·have f6:(x.d.kind==6)=false:=by simp;omega
    have f8:(x.d.kind==8)=false:=by simp;omega
    have HSA:Hid (lkd f l (k+1)=lkd f l k):=by
     show _=_;rw[HSU.out,lkI_same e68];obtain⟨hk2,hk3⟩:=List.getElem?_eq_some_iff.1 HGX.out;rw[←hk3];exact List.set_getElem_self hk2
    clear hC e68;go_wp2;go_roundw
    case rel=>exact⟨k+1,by omega,by go_num,by rw[HSA.out];exact HC.out.later (bel1 wr _)⟩
    case measure=>simp[intOf];omega
  ·obtain rfl:k=l.length:=by omega
   clear hC;go_wp2;go_end0;exact⟨⟨_,rfl⟩,_,_,_,_,_,by rw[←lkd_full];exact HC.out⟩
end
end Go.Proofs.YtcbnnfnlilbjeaaGreat
