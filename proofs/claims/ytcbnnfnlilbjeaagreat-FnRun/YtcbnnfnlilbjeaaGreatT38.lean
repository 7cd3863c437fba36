import Derived.Test.YtcbnnfnlilbjeaaGreatT37
import Derived.Deep.RegionLaw
import Derived.BigQuiet
import Derived.Test.YtcbnnfnlilbjeaaGreatT15
set_option linter.unusedVariables false
set_option linter.unusedSimpArgs false
namespace Go.Proofs.YtcbnnfnlilbjeaaGreat
section
open Go.RowKit
open M (OpD NodeD Gr InsD)
set_option maxRecDepth 100000 in
set_option maxHeartbeats 8000000 in
theorem throw_any (K L : Nat→Prop) (b : Nat) (s : MSt) (x : InsD) (sa : Option Addr) (sc : Nat) (ia : Option Addr) (il ic : Nat) (I : Nat→Int) (most : Int) (ka : Option Addr) (kc : Nat) (la : Option Addr) (lc : Nat) (w : World) (hA : MacA K L w b s.nx ia il ic most ka kc la lc) (hp : AP most s) (hthr : s.throws≤1048576) (hx : x.kind=8) :
    Calls Tryz.prog 89 #[.pointer (some ⟨b,0,none⟩),insV x sa sc] w (ActIs (s.act x il I most) K L b ia il ic most w):=by
  have HA:Hid (MacA K L w b s.nx ia il ic most ka kc la lc):=hA
  have HP:Hid (AP most s):=hp
  unfold insV
  have HE:Hid (s.act x il I most=if s.inNot then s.fail else if x.to<0 then ({ s with throws:=s.throws+1,label:=x.arg }).fin 2 else ({ s with throws:=s.throws+1 }).enter x most):=by
    show _=_
    unfold MSt.act
    simp only [hx]
    simp
  obtain ⟨nn,hnn⟩:∃ nn,s.inNot=nn:=⟨_,rfl⟩
  have HNN:Hid (s.nx.inNot=nn):=hnn
  have HE2:=HE.out
  rw [hnn] at HE2
  obtain ⟨T,hT⟩:∃ T,s.act x il I most=T:=⟨_,rfl⟩
  rw [hT] at HE2 ⊢
  have HT:Hid (T=if nn=true then s.fail else if x.to<0 then ({ s with throws:=s.throws+1,label:=x.arg }).fin 2 else ({ s with throws:=s.throws+1 }).enter x most):=HE2
  clear hA hp hx hnn HE2 HE hT
  go_enter Tryz.func89,Tryz.ntmps89
  go_wp2_with fail
  refine (inside_any K L b s.nx ia il ic most ka kc la lc _ (HA.out.later (bel1 w _)) HP.out.len').mono ?_
  rintro e W ⟨rfl,hb⟩
  rw [HNN.out]
  have HAW:Hid (MacA K L W b s.nx ia il ic most ka kc la lc):=HA.out.later (bel_tr (bel1 w _) hb)
  have HW:Hid (Below w.heap.size w W):=bel_tr (bel1 w _) hb
  have x0:=cell_on (a:=⟨w.heap.size,0,none⟩) (v:=.int .i64 x.kind) (cN w.heap.size rfl rfl) hb
  have x1:=cell_on (a:=⟨w.heap.size,1,none⟩) (v:=.int .i64 x.arg) (cN w.heap.size rfl rfl) hb
  have x2:=cell_on (a:=⟨w.heap.size,2,none⟩) (v:=.int .i64 x.to) (cN w.heap.size rfl rfl) hb
  have x3:=cell_on (a:=⟨w.heap.size,3,none⟩) (v:=.slice sa x.sl sc) (cN w.heap.size rfl rfl) hb
  have lw:w.heap.size<W.heap.size:=lt_of_cell x0
  have d9:W.cell? ⟨b,264,none⟩=some (.int .i64 (s.throws:Int)):=HAW.out.c.c9
  have d10:W.cell? ⟨b,265,none⟩=some (.int .i64 s.label):=HAW.out.c.c10
  have f9:=HAW.out.c.fz 264
  have f10:=HAW.out.c.fz 265
  have lbW:=HAW.out.bl
  have lbw:=HA.out.bl
  have hne:b≠w.heap.size:=by omega
  clear hb
  cases nn with
  | true =>
    have HT2:Hid (T=s.fail):=by show _=_;rw [HT.out,if_pos rfl]
    clear HT
    go_wp2_with fail
    refine (fail_any K L b s.nx ia il ic most ka kc la lc _ HAW.out HP.out.len' HP.out.done HP.out.last HP.out.kinds).mono ?_
    rintro e W9 hact
    obtain ⟨he,hact⟩:=hact
    subst he
    have HACT:Hid (ActIs (MSt.fail s.nx) K L b ia il ic most _ _ W9):=⟨rfl,hact⟩
    clear hact
    go_wp2
    go_ret
    rw [HT2.out]
    exact (HACT.out.below HW.out).fail
  | false =>
    have HA3:Hid (MacA K L (W.setCell ⟨b,264,none⟩ (.int .i64 ((s.throws:Int)+1))) b (MSt.nx { s with throws:=s.throws+1 }) ia il ic most ka kc la lc):=by
      have h:=HAW.out.put (s':=MSt.nx { s with throws:=s.throws+1 }) ((Only.refl _ W).set b 264 (.int .i64 ((s.throws+1:Nat):Int)) rfl) rfl rfl (HAW.out.c.set9 (s.throws+1))
      rw [Int.natCast_add,Int.natCast_one] at h
      exact h
    have HK3:Hid (Kept (fun y=>K y∨L y∨y=b) w (W.setCell ⟨b,264,none⟩ (.int .i64 ((s.throws:Int)+1)))):=kept_wide (kept_set (Kept.of HW.out) 264 _) (fun y h=>.inr (.inr h))
    by_cases hto:x.to<0
    · have HT2:Hid (T=({ s with throws:=s.throws+1,label:=x.arg }:MSt).fin 2):=by show _=_;rw [HT.out,if_neg (by decide),if_pos hto]
      clear HT
      go_wp2
      go_ret
      rw [HT2.out]
      have h4:MacA K L ((W.setCell ⟨b,264,none⟩ (.int .i64 ((s.throws:Int)+1))).setCell ⟨b,265,none⟩ (.int .i64 x.arg)) b (MSt.nx { s with throws:=s.throws+1,label:=x.arg }) ia il ic most ka kc la lc:=HA3.out.put ((Only.refl _ _).set b 265 _ rfl) rfl rfl (HA3.out.c.set10 x.arg)
      exact act_over (t:=({ s with throws:=s.throws+1,label:=x.arg }:MSt).fin 2) h4 (kept_trans HK3.out (kept_wide (kept_set (kept_refl _ _) 265 _) (fun y h=>.inr (.inr h)))) rfl ⟨_,_,rfl⟩
    · have hto':¬ x.to<0:=hto
      have HT2:Hid (T=MSt.enter { s with throws:=s.throws+1 } x most):=by show _=_;rw [HT.out,if_neg (by decide),if_neg hto]
      clear HT
      have hap:AP most { s with throws:=s.throws+1 }:=⟨HP.out.m1,HP.out.len,HP.out.last,HP.out.kinds,HP.out.logl,HP.out.done⟩
      go_wp2_with fail
      refine (call_any K L b { s with throws:=s.throws+1 } x sa sc ia il ic I most ka kc la lc _ HA3.out hap).mono ?_
      rintro e W9 hact
      obtain ⟨he,hact⟩:=hact
      subst he
      have HACT:Hid (ActIs (MSt.enter { s with throws:=s.throws+1 } x most) K L b ia il ic most _ _ W9):=⟨rfl,hact⟩
      clear hact
      go_wp2
      go_ret
      rw [HT2.out]
      exact HACT.out.from_ HK3.out
set_option maxRecDepth 100000 in
set_option maxHeartbeats 8000000 in
theorem not_any (K L : Nat→Prop) (b : Nat) (s : MSt) (x : InsD) (sa : Option Addr) (sc : Nat) (ia : Option Addr) (il ic : Nat) (I : Nat→Int) (most : Int) (ka : Option Addr) (kc : Nat) (la : Option Addr) (lc : Nat) (w : World) (hA : MacA K L w b s.nx ia il ic most ka kc la lc) (hp : AP most s) (hx : x.kind=4) :
    Calls Tryz.prog 85 #[.pointer (some ⟨b,0,none⟩),insV x sa sc] w (ActIs (s.act x il I most) K L b ia il ic most w):=by
  have HP:Hid (AP most s):=hp
  have HE:Hid (s.act x il I most=(s.nx).push ⟨1,x.to,s.pos,s.log.length⟩ most):=by
    show _=_
    unfold MSt.act
    simp only [hx]
    simp [MSt.hold,MSt.nx]
  rw [HE.out]
  unfold insV
  have HA:Hid (MacA K L w b s.nx ia il ic most ka kc la lc):=hA
  clear hA hp hx
  go_enter Tryz.func85,Tryz.ntmps85
  go_wp2
  have hX:=bel1 w (.cells #[.int .i64 x.kind,.int .i64 x.arg,.int .i64 x.to,.slice sa x.sl sc] 52)
  have x2:(w.alloc (.cells #[.int .i64 x.kind,.int .i64 x.arg,.int .i64 x.to,.slice sa x.sl sc] 52)).cell? ⟨w.heap.size,2,none⟩=some (.int .i64 x.to):=cN w.heap.size rfl rfl
  generalize w.alloc (.cells #[.int .i64 x.kind,.int .i64 x.arg,.int .i64 x.to,.slice sa x.sl sc] 52)=X at *
  have HX:Hid (Below w.heap.size w X):=hX
  have HAX:Hid (MacA K L X b s.nx ia il ic most ka kc la lc):=HA.out.later hX
  have HX2:Hid (∀ W,Below X.heap.size X W→W.cell? ⟨w.heap.size,2,none⟩=some (.int .i64 x.to)):=fun W hW=>cell_on x2 hW
  clear hX
  go_region_with (first
    | (go_at_call 108
       refine (here_any b s.pos s.log.length lc la _ (HAX.out.later (Below.refl _ X).drew).c.c3 (HAX.out.later (Below.refl _ X).drew).c.c5).mono ?_
       rintro e W ⟨rfl,hb⟩
       have y2:=HX2.out W (bel_tr (Below.refl _ X).drew hb)
       have HAW:Hid (MacA K L W b s.nx ia il ic most ka kc la lc):=HAX.out.later (bel_tr (Below.refl _ X).drew hb)
       have HBW:Hid (Below X.heap.size X W):=bel_tr (Below.refl _ X).drew hb
       clear hb)
    | (go_at_call 106
       refine (push_any K L b s.nx ⟨1,x.to,s.pos,s.log.length⟩ _ _ ia il ic most ka kc la lc _ HAW.out HP.out.len' HP.out.len HP.out.done (by unfold frC;simp)).mono ?_
       rintro e W9 hact
       obtain ⟨he,hact⟩:=hact
       subst he
       have HACT:Hid (ActIs (MSt.push s.nx ⟨1,x.to,s.pos,s.log.length⟩ most) K L b ia il ic most _ _ W9):=⟨rfl,hact⟩
       clear hact))
  all_goals
    go_wp2
    go_ret
    exact (HACT.out.below HBW.out).below HX.out
theorem iinfoEv : (Tryz.prog.info? 91).map (fun i=>(i.zero,i.size,i.bytes))=some (some (.agg #[.int .i64 0,.int .i64 0,.int .i64 0]),3,24):=by kernel_rfl
theorem ielemEv : ElemT 34 91 3 24:=⟨Tryz.underlying34,⟨_,iinfoEv,rfl⟩,by omega⟩
def evO (e : EvD) : Obj:=.cells #[.int .i64 e.kind,.int .i64 e.arg,.int .i64 e.pos] 91
theorem isrc_ev (w : World) (e : EvD) : Src Tryz.prog 3 34 (.slice (some ⟨w.heap.size,0,none⟩) 1 1) 1 (evv e) (w.alloc (evO e)):=by
  refine Src.ofSlice (P:=Tryz.prog) _ Tryz.underlying34 ⟨w.heap.size,0,none⟩ 1 1 (evv e) rfl (fun j u hu=>?_) (fun u hu=>?_)
  · have e':(⟨w.heap.size,0,none⟩:Addr).add j=⟨w.heap.size,j,none⟩:=by
      by_cases h0:j=0
      · subst h0;simp [Addr.add]
      · simp [Addr.add,h0]
    rw [e']
    match j,hu with
    | 0,hu=>exact cN w.heap.size rfl hu
    | 1,hu=>exact cN w.heap.size rfl hu
    | 2,hu=>exact cN w.heap.size rfl hu
    | j+3,hu=>simp [evv] at hu
  · simp [evv] at hu
    rcases hu with rfl | rfl | rfl <;> rfl
theorem evT {ops : Array Oper} {o : Oper} {a : Act} {w : World} {K : Act→World→Prop} {P' : Exit→Act→World→Prop} {E : Prop} (hgd : o.guard=none) (s x : Operand) (ho : o.op = .call { callee:=.builtin .append,args:=#[s,x],argTypes:=#[34,34] })
    {L:Nat→Prop} {w1:World} {v y:Value} {m:Nat} {cs:List Value} {d:EvD} (hs:a.eval s=v) (hx:a.eval x=y) (hy:y = .slice (some ⟨w1.heap.size,0,none⟩) 1 1) (hw:w=w1.alloc (evO d)) (h:OwnC L w1 v 3 m cs) (hlt:∀ b,L b→b<w1.heap.size) (hl:m≤4194304)
    (k:∀ w' a' c',Hid (OwnC (fun b=>L b∨(w1.alloc (evO d)).heap.size≤b) w' (.slice a' (m+1) c') 3 (m+1) (cs ++ evv d))→Hid (Grew (fun b=>L b) (w1.alloc (evO d)) w')→K (a.put o.dst (.slice a' (m+1) c')) w'):if Region.wanted o (yielded ops a.tmps)=true then Oper.wp Tryz.prog o a w K P' else E:=by
  subst hw hy
  have b1:=bel1 w1 (evO d)
  refine stepC hgd s x 34 34 ho hs hx ielemEv (h.on (fun b hb=>b1.block b (hlt b hb))) (isrc_ev w1 d) (by omega) (fun _=>Nat.one_pos) ?_
  intro v' w' k1 k2 k3
  obtain ⟨a',c',rfl⟩:=own_shape k1
  exact k w' a' c' k1 k2
theorem act_put {K L : Nat→Prop} {b : Nat} {s : MSt} {k a : Int} {ia : Option Addr} {il ic : Nat} {most : Int} {ka : Option Addr} {kc : Nat} {la : Option Addr} {lc : Nat} {w Y W : World} {a' : Option Addr} {c' : Nat} (hA : MacA K L w b s.nx ia il ic most ka kc la lc) (hd : s.done=false) (hY : Below w.heap.size w Y) (hG : Grew (fun x=>L x) Y W)
    (hO:OwnC (fun x=>L x∨Y.heap.size≤x) W (.slice a' (s.log.length+1) c') 3 (s.log.length+1) (cellsE s.log ++ evv ⟨k,a,s.pos⟩)) :
    ActIs (s.put k a) K L b ia il ic most w (.returned (.int .i64 (-1))) (W.setCell ⟨b,5,none⟩ (.slice a' (s.log.length+1) c')):=by
  have hbl:=hA.bl
  have hys:=hY.size
  have hgs:=hG.size
  have blk:∀ x,x<w.heap.size→¬ L x→W.heap[x]? = w.heap[x]?:=fun x hx hk=>(hG.block x (by omega) hk).trans (hY.block x hx)
  have hb:W.heap[b]? = w.heap[b]?:=blk b hbl hA.lb
  refine ⟨by unfold rcode;simp [MSt.put,hd],s.at_+1,s.st,ka,kc,a',c',K,fun x=>(L x∨Y.heap.size≤x)∧x<W.heap.size,fun _=>⟨rfl,rfl⟩,⟨?_,?_,?_,?_,?_,hA.kb,?_⟩,fun x hx=>.inl hx,?_,?_⟩
  · show MacC _ b _ ia il ic most ka s.st.length kc a' (s.log ++ [_]).length c'
    rw [List.length_append,List.length_singleton]
    have h:=(hA.c.on hb).set5 a' (s.log.length+1) c'
    exact h.re rfl rfl rfl rfl rfl rfl rfl
  · exact hA.st.on (fun x hx=>(Below.heap_setCell _ _ _ _ (fun e=>hA.kb (by simp at e;exact e ▸ hx))).trans (blk x (hA.lt x (.inl hx)) (fun q=>hA.kl x hx q)))
  · show OwnC _ _ (.slice a' (s.log ++ [_]).length c') 3 (s.log ++ [_]).length (cellsE (s.log ++ [_]))
    rw [cellsE_snoc,List.length_append,List.length_singleton]
    rcases hO with ⟨e,_⟩ | ⟨g,cap,e,hq,h3,h4,h5,h6⟩
    · injection e with _ e2;exact absurd e2 (by omega)
    · have hlt:g<W.heap.size:=by
        obtain ⟨u,hu⟩:=Option.isSome_iff_exists.1 (h6 0 (by omega)).1
        exact lt_of_cell hu
      have hne:g≠b:=fun e=>by
        subst e
        rcases hq with q | q
        · exact hA.lb q
        · omega
      have hk:(W.setCell ⟨b,5,none⟩ (.slice a' (s.log.length+1) c')).heap[g]? = W.heap[g]?:=Below.heap_setCell _ _ _ _ hne
      exact .inr ⟨g,cap,e,⟨hq,hlt⟩,h3,h4,fun j hj=>(World.cell?_of_block (a:=⟨g,j,none⟩) hk).trans (h5 j hj),h6.later hk⟩
  · intro x hx
    rw [size_set]
    rcases hx with q | q
    · have:=hA.lt x (.inl q);omega
    · exact q.2
  · rintro x h ⟨q | q,_⟩
    · exact hA.kl x h q
    · have:=hA.lt x (.inl h);omega
  · rintro ⟨q | q,_⟩
    · exact hA.lb q
    · omega
  · rintro x ⟨q | q,h⟩
    · exact .inl q
    · exact .inr ⟨by omega,by rw [size_set];exact h⟩
  · refine ⟨hG.os.trans hY.os,hG.tape.trans hY.tape,hG.output.trans hY.output,by rw [size_set];omega,fun x hx hn=>(Below.heap_setCell _ _ _ _ (fun e=>hn (.inr (.inr e)))).trans (blk x hx (fun q=>hn (.inr (.inl q))))⟩
set_option maxRecDepth 100000 in
set_option maxHeartbeats 8000000 in
theorem logging_any (K L : Nat→Prop) (b kb : Nat) (kd : Int) (s : MSt) (x : InsD) (sa : Option Addr) (sc : Nat) (ia : Option Addr) (il ic : Nat) (most : Int) (ka : Option Addr) (kc : Nat) (la : Option Addr) (lc : Nat) (w : World) (hA : MacA K L w b s.nx ia il ic most ka kc la lc) (hp : AP most s) (hk : w.cell? ⟨kb,0,none⟩=some (.int .i64 kd)) (hkl : ¬ L kb) :
    Calls Tryz.prog 110 #[.pointer (some ⟨b,0,none⟩),insV x sa sc,.pointer (some ⟨kb,0,none⟩)] w (ActIs (s.put kd x.arg) K L b ia il ic most w):=by
  have HA:Hid (MacA K L w b s.nx ia il ic most ka kc la lc):=hA
  have HP:Hid (AP most s):=hp
  have hll:=hp.logl
  unfold insV
  clear hA hp
  go_enter Tryz.func110,Tryz.ntmps110
  go_wp2
  have hX:=bel1 w (.cells #[.int .i64 x.kind,.int .i64 x.arg,.int .i64 x.to,.slice sa x.sl sc] 52)
  have x1:(w.alloc (.cells #[.int .i64 x.kind,.int .i64 x.arg,.int .i64 x.to,.slice sa x.sl sc] 52)).cell? ⟨w.heap.size,1,none⟩=some (.int .i64 x.arg):=cN w.heap.size rfl rfl
  have hxs:(w.alloc (.cells #[.int .i64 x.kind,.int .i64 x.arg,.int .i64 x.to,.slice sa x.sl sc] 52)).heap.size=w.heap.size+1:=by simp
  generalize w.alloc (.cells #[.int .i64 x.kind,.int .i64 x.arg,.int .i64 x.to,.slice sa x.sl sc] 52)=X at *
  have HX:Hid (Below w.heap.size w X):=hX
  have HAX:Hid (MacA K L X b s.nx ia il ic most ka kc la lc):=HA.out.later hX
  have k0:=cell_on hk hX
  have c3:X.cell? ⟨b,3,none⟩=some (.int .i64 (s.pos:Int)):=HAX.out.c.c3
  have c5:X.cell? ⟨b,5,none⟩=some (.slice la s.log.length lc):=HAX.out.c.c5
  have lbX:=HAX.out.bl
  have lkX:kb<X.heap.size:=lt_of_cell k0
  have lwX:w.heap.size<X.heap.size:=by omega
  obtain ⟨ln,hln⟩:∃ ln,s.log.length=ln:=⟨_,rfl⟩
  have HLN:Hid (s.log.length=ln):=hln
  rw [hln] at c5 hll
  have HOL:Hid (OwnC L X.drew (.slice la ln lc) 3 ln (cellsE s.log)):=by
    have h:=HAX.out.log
    rw [show s.nx.log.length=ln from hln] at h
    exact h.on (fun y hy=>rfl)
  have HLT:Hid (∀ y,L y→y<X.drew.heap.size):=fun y hy=>HAX.out.lt y (.inr hy)
  have HBK:Hid (∀ W o,Grew (fun y=>L y) (X.drew.alloc o) W→W.cell? ⟨b,5,none⟩=some (.slice la ln lc)∧W.frozen? ⟨b,5,none⟩=false):=fun W o hG=>by
    have e:W.heap[b]? = X.heap[b]?:=(hG.block b (by simp;omega) HA.out.lb).trans (Below.heap_alloc X.drew _ _ lbX)
    exact ⟨(World.cell?_of_block (a:=⟨b,5,none⟩) e).trans (by have:=HAX.out.c.c5;rw [show s.nx.log.length=ln from hln] at this;exact this),(World.frozen?_of_block (a:=⟨b,5,none⟩) e).trans (HAX.out.c.fz 5)⟩
  clear hk hX hxs hln hkl
  go_region_law (first
    | (refine evT rfl (.tmp 10) (.tmp 19) rfl (w1:=X.drew) (L:=L) (v:=.slice la ln lc) (y:=.slice (some ⟨X.heap.size,0,none⟩) 1 1) (cs:=cellsE s.log) (d:=⟨kd,x.arg,s.pos⟩) (by simp [Act.eval,Act.put]) (by simp [Act.eval,Act.put]) rfl rfl HOL.out HLT.out (by omega) ?_
       intro W4 a4 c4 G1 G2
       obtain ⟨r5,v5⟩:=HBK.out W4 _ G2.out))
  all_goals go_goals
  all_goals go_wp2
  all_goals go_ret
  all_goals
    have hO:=G1.out
    rw [← HLN.out] at hO ⊢
    exact (act_put (Y:=X.drew.alloc (evO ⟨kd,x.arg,s.pos⟩)) HA.out HP.out.done (bel_tr HX.out (bel_tr (Below.refl _ X).drew (bel1 X.drew _))) G2.out hO)
end
section
open Go.RowKit
open M (OpD NodeD Gr InsD)
theorem tells_in{ι:Type}{F:ι→World}{w:World}{f:FuncId}{args:Array Value}{n:ι}{v:Bool}(hF:Below w.heap.size w (F n))(hF':∀W,Below w.heap.size w W→∃n,W=F n)
  (h:Calls Tryz.prog f args (F n) (TellsB v (F n))):Calls Tryz.prog f args (F n) fun e w''=>e=.returned (.bool v)∧∃m,w''=F m :=
 h.mono fun e W q=>⟨q.1,hF' W (bel_tr hF q.2)⟩
theorem inote_st(s:MSt)(n:Nat)(S:Nat→Int):(s.note n S).st=s.st:=by unfold MSt.note;split<;>(try split)<;>rfl
theorem inote_log(s:MSt)(n:Nat)(S:Nat→Int):(s.note n S).log=s.log:=by unfold MSt.note;split<;>(try split)<;>rfl
theorem note_done(s:MSt)(n:Nat)(S:Nat→Int):(s.note n S).done=s.done:=by unfold MSt.note;split<;>(try split)<;>rfl
theorem note_nx(s:MSt)(n:Nat)(S:Nat→Int):s.nx.note n S=(s.note n S).nx:=by
 unfold MSt.note;show (if s.far<s.pos then _ else if s.pos=s.far then _ else _)=_
 split
 ·rfl
 ·split<;>rfl
theorem MacA.kept{K L:Nat→Prop}{w w':World}{b:Nat}{s s':MSt}{ia:Option Addr}{il ic:Nat}{most:Int}{ka:Option Addr}{kc:Nat}{la:Option Addr}{lc:Nat}(h:MacA K L w b s ia il ic most ka kc la lc)(ho:Kept (fun x=>x=b) w w')(hst:s'.st=s.st)(hlog:s'.log=s.log)(hc:MacC w' b s' ia il ic most ka s.st.length kc la s.log.length lc):MacA K L w' b s' ia il ic most ka kc la lc:=by
 refine⟨by rw[hst,hlog];exact hc,?_,?_,fun x hx=>Nat.lt_of_lt_of_le (h.lt x hx) ho.size,h.kl,h.kb,h.lb⟩
 ·rw[hst];exact h.st.on (fun x hx=>ho.block x (h.lt x (.inl hx)) (fun e=>h.kb (e▸hx)))
 ·rw[hlog];exact h.log.on (fun x hx=>ho.block x (h.lt x (.inr hx)) (fun e=>h.lb (e▸hx)))
set_option maxRecDepth 100000 in
set_option maxHeartbeats 8000000 in
theorem test_any(K L Q Q':Nat→Prop)(b:Nat)(s:MSt)(x:InsD)(sa:Option Addr)(sc:Nat)(ia:Option Addr)(il ic:Nat)(I:Nat→Int)(most:Int)(ka:Option Addr)(kc:Nat)(la:Option Addr)(lc:Nat)(w:World)(hA:MacA K L w b s.nx ia il ic most ka kc la lc)(hp:AP most s)(hx:x.kind=0)
  (hS:Ints Q .i64 w sa x.sl x.set) (hsl:x.sl≤1048576) (hI:Ints Q' .u8 w ia il I) (hB:Byt il I) (hil:il≤1048576) (hq:¬Q b) (hqk:∀y,Q y→y<w.heap.size) :
  Calls Tryz.prog 81 #[.pointer (some ⟨b,0,none⟩),insV x sa sc] w (ActIs (s.act x il I most) K L b ia il ic most w):=by
 have HA:Hid (MacA K L w b s.nx ia il ic most ka kc la lc):=hA;have HP:Hid (AP most s):=hp;have HS:Hid (Ints Q .i64 w sa x.sl x.set):=hS;have HI:Hid (Ints Q' .u8 w ia il I):=hI;have HBY:Hid (Byt il I):=hB;have HQ:Hid (¬Q b):=hq;have HQK:Hid (∀y,Q y→y<w.heap.size):=hqk;unfold insV;have HE:Hid (s.act x il I most=s.test x.sl x.set il I):=by
  show _=_;unfold MSt.act;simp only[hx];simp
 obtain⟨T,hT⟩:∃T,s.act x il I most=T:=⟨_,rfl⟩;have HT:Hid (T=s.test x.sl x.set il I):=by show _=_;rw[←hT,HE.out]
 rw[hT];clear hA hp hx hS hI hB hq hqk hT HE;go_enter Tryz.func81,Tryz.ntmps81;go_wp2;have hX:=bel1 w (.cells #[.int .i64 x.kind,.int .i64 x.arg,.int .i64 x.to,.slice sa x.sl sc] 52);have x3:(w.alloc (.cells #[.int .i64 x.kind,.int .i64 x.arg,.int .i64 x.to,.slice sa x.sl sc] 52)).cell? ⟨w.heap.size,3,none⟩=some (.slice sa x.sl sc):=cN w.heap.size rfl rfl;generalize w.alloc (.cells #[.int .i64 x.kind,.int .i64 x.arg,.int .i64 x.to,.slice sa x.sl sc] 52)=X at *;have HX:Hid (Below w.heap.size w X):=hX;have HAX:Hid (MacA K L X b s.nx ia il ic most ka kc la lc):=HA.out.later hX;have lwX:w.heap.size<X.heap.size:=lt_of_cell x3;have HX3:Hid (X.cell? ⟨w.heap.size,3,none⟩=some (.slice sa x.sl sc)):=x3;obtain⟨ι,hne,F,hF,hF'⟩:=family X;have f3:∀n,(F n).cell? ⟨b,3,none⟩=some (.int .i64 (s.pos:Int)):=fun n=>cell_on HAX.out.c.c3 (hF n)
 have f0:∀n,(F n).cell? ⟨b,0,none⟩=some (.slice ia il ic):=fun n=>cell_on HAX.out.c.c0 (hF n)
 have g3:∀n,(F n).cell? ⟨w.heap.size,3,none⟩=some (.slice sa x.sl sc):=fun n=>cell_on x3 (hF n)
 have HC:Hid (∃n,X.drew=F n):=hF' _ (Below.refl _ X).drew;have HF:Hid (∀n,Below X.heap.size X (F n)):=hF;have HF':Hid (∀W,Below X.heap.size X W→∃n,W=F n):=hF';clear hF hF' hX x3;by_cases hlt:s.pos<il
 ·have hpos:s.pos≤1048576:=by omega
  obtain⟨ib,io,rfl,hiq,hIc⟩:=HI.out.resolve_left (by omega)
  have i0:∀n,(F n).cell? ⟨ib,io+s.pos,none⟩=some (.int .u8 (I s.pos)):=fun n=>cell_on (cell_on (hIc s.pos hlt) HX.out) (HF.out n)
  have hby:=HBY.out s.pos hlt;have hlt':(s.pos:Int)<(il:Int):=by omega
  obtain⟨u,hu⟩:∃u,I s.pos=u:=⟨_,rfl⟩;rw[hu]at hby i0;have HU:Hid (I s.pos=u):=hu;obtain⟨hh,hhv⟩:∃hh,hasN x.sl x.set u=hh:=⟨_,rfl⟩;have HH:Hid (hasN x.sl x.set u=hh):=hhv;clear hu hhv hIc;refine region_family F (by kernel_rfl) (by kernel_rfl) HC.out ?_
  repeat (go_big_quiet_step (first|(go_at_call 102;exact tells_in (HF.out _) HF'.out (holds_any Q sa x.sl sc x.set u _ hsl ((HS.out.later HX.out).later (HF.out _))))))
  refine wpQuiet_nil ?_;rintro _ ⟨nq,rfl⟩;have v3:=g3 nq;have hbv:=HF.out nq;have HV:Hid (MacA K L (F nq) b s.nx (some ⟨ib,io,none⟩) il ic most ka kc la lc):=HAX.out.later hbv;have HBV:Hid (Below w.heap.size w (F nq)):=bel_tr HX.out hbv;clear f3 f0 g3 hbv i0;generalize F nq=V at *;have lwV:w.heap.size<V.heap.size:=lt_of_cell v3;rw[HH.out];cases hh with
  |true =>
   have HT2:Hid (T={ s with pos:=s.pos+1,at_:=s.at_+1 }):=by
    show _=_;rw[HT.out];unfold MSt.test;rw[if_pos ⟨hlt,by rw[HU.out];exact HH.out⟩]
   have d3:V.cell? ⟨b,3,none⟩=some (.int .i64 (s.pos:Int)):=HV.out.c.c3;have e3:=HV.out.c.fz 3;have lbV:=HV.out.bl;clear HT HH v3;go_wp2;go_ret;rw[HT2.out];have h3:MacA K L (V.setCell ⟨b,3,none⟩ (.int .i64 ((s.pos:Int)+1))) b { s with pos:=s.pos+1,at_:=s.at_+1 } (some ⟨ib,io,none⟩) il ic most ka kc la lc:=by
    have h:=HV.out.put (s':={ s with pos:=s.pos+1,at_:=s.at_+1 }) ((Only.refl _ V).set b 3 (.int .i64 ((s.pos+1:Nat):Int)) rfl) rfl rfl (HV.out.c.set3 (s.pos+1))
    rw[Int.natCast_add,Int.natCast_one]at h;exact h
   exact act_on h3 (kept_wide (kept_set (Kept.of HBV.out) 3 _) (fun y h=>.inr (.inr h))) HP.out.done
  |false =>
   have HTF:Hid (T=(if s.inNot then s else s.note x.sl x.set).fail):=by
    show _=_;rw[HT.out];unfold MSt.test;rw[if_neg (fun q=>by have:=q.2;rw[HU.out,HH.out]at this;cases this)]
   clear HT HH;go_wp2_with fail;refine (inside_any K L b s.nx (some ⟨ib,io,none⟩) il ic most ka kc la lc _ HV.out HP.out.len').mono ?_;rintro e V2 ⟨rfl,hb⟩;rw[show s.nx.inNot=s.inNot from rfl]
   have HV2:Hid (MacA K L V2 b s.nx (some ⟨ib,io,none⟩) il ic most ka kc la lc):=HV.out.later hb;have HB2:Hid (Below w.heap.size w V2):=bel_tr HBV.out hb;have y3:=cell_on v3 hb;have lw2:w.heap.size<V2.heap.size:=lt_of_cell y3;clear hb v3;cases hin:s.inNot with
   |true =>
    have HT2:Hid (T=s.fail):=by show _=_;rw[HTF.out,hin,if_pos rfl]
    clear hin;go_wp2_with fail;refine (fail_any K L b s.nx (some ⟨ib,io,none⟩) il ic most ka kc la lc _ HV2.out HP.out.len' HP.out.done HP.out.last HP.out.kinds).mono ?_;rintro e W9 hact;obtain⟨he,hact⟩:=hact;subst he;have HACT:Hid (ActIs (MSt.fail s.nx) K L b (some ⟨ib,io,none⟩) il ic most _ _ W9):=⟨rfl,hact⟩;clear hact;go_wp2;go_ret;rw[HT2.out];exact (HACT.out.below HB2.out).fail
   |false =>
    have HT2:Hid (T=(s.note x.sl x.set).fail):=by show _=_;rw[HTF.out,hin,if_neg (by decide)]
    clear hin;go_wp2_with fail;refine (note_any Q b s.nx (some ⟨ib,io,none⟩) il ic most ka s.st.length kc la s.log.length lc sa x.sl sc x.set _ HV2.out.c (HS.out.later HB2.out) HQ.out (fun y hy=>Nat.lt_of_lt_of_le (HQK.out y hy) HB2.out.size) hsl).mono ?_
    rintro e W3 hno;obtain⟨v,rfl⟩:=hno.val;have HA3:Hid (MacA K L W3 b (MSt.nx (s.note x.sl x.set)) (some ⟨ib,io,none⟩) il ic most ka kc la lc):=by
     have hc:=hno.c;rw[note_nx]at hc;exact HV2.out.kept hno.kept (inote_st _ _ _) (inote_log _ _ _) hc
    have HK3:Hid (Kept (fun y=>K y∨L y∨y=b) w W3):=kept_wide (kept_trans (Kept.of HB2.out) hno.kept) (fun y h=>.inr (.inr h))
    clear hno;go_wp2_with fail;refine (fail_any K L b (MSt.nx (s.note x.sl x.set)) (some ⟨ib,io,none⟩) il ic most ka kc la lc _ HA3.out (by rw[show (MSt.nx (s.note x.sl x.set)).st=s.st from inote_st _ _ _];exact HP.out.len') (by rw[show (MSt.nx (s.note x.sl x.set)).done=s.done from note_done _ _ _];exact HP.out.done) (by rw[show (MSt.nx (s.note x.sl x.set)).st=s.st from inote_st _ _ _,show (MSt.nx (s.note x.sl x.set)).log=s.log from inote_log _ _ _];exact HP.out.last) (by rw[show (MSt.nx (s.note x.sl x.set)).st=s.st from inote_st _ _ _];exact HP.out.kinds)).mono ?_
    rintro e W9 hact;obtain⟨he,hact⟩:=hact;subst he;have HACT:Hid (ActIs (MSt.fail (MSt.nx (s.note x.sl x.set))) K L b (some ⟨ib,io,none⟩) il ic most _ _ W9):=⟨rfl,hact⟩;clear hact;go_wp2;go_ret;rw[HT2.out];exact (HACT.out.from_ HK3.out).fail
 ·have hlt':¬(s.pos:Int)<(il:Int):=by omega
  have HTF:Hid (T=(if s.inNot then s else s.note x.sl x.set).fail):=by
   show _=_;rw[HT.out];unfold MSt.test;rw[if_neg (fun q=>hlt q.1)]
  refine region_family F (by kernel_rfl) (by kernel_rfl) HC.out ?_
  repeat (go_big_quiet_step (fail))
  refine wpQuiet_nil ?_;rintro _ ⟨nq,rfl⟩;have v3:=g3 nq;have hbv:=HF.out nq;have HV:Hid (MacA K L (F nq) b s.nx ia il ic most ka kc la lc):=HAX.out.later hbv;have HBV:Hid (Below w.heap.size w (F nq)):=bel_tr HX.out hbv;clear f3 f0 g3 hbv;generalize F nq=V at *;have lwV:w.heap.size<V.heap.size:=lt_of_cell v3;go_wp2_with fail;refine (inside_any K L b s.nx ia il ic most ka kc la lc _ HV.out HP.out.len').mono ?_;rintro e V2 ⟨rfl,hb⟩;rw[show s.nx.inNot=s.inNot from rfl]
  have HV2:Hid (MacA K L V2 b s.nx ia il ic most ka kc la lc):=HV.out.later hb;have HB2:Hid (Below w.heap.size w V2):=bel_tr HBV.out hb;have y3:=cell_on v3 hb;have lw2:w.heap.size<V2.heap.size:=lt_of_cell y3;clear hb v3;cases hin:s.inNot with
  |true =>
   have HT2:Hid (T=s.fail):=by show _=_;rw[HTF.out,hin,if_pos rfl]
   clear hin;go_wp2_with fail;refine (fail_any K L b s.nx ia il ic most ka kc la lc _ HV2.out HP.out.len' HP.out.done HP.out.last HP.out.kinds).mono ?_;rintro e W9 hact;obtain⟨he,hact⟩:=hact;subst he;have HACT:Hid (ActIs (MSt.fail s.nx) K L b ia il ic most _ _ W9):=⟨rfl,hact⟩;clear hact;go_wp2;go_ret;rw[HT2.out];exact (HACT.out.below HB2.out).fail
  |false =>
   have HT2:Hid (T=(s.note x.sl x.set).fail):=by show _=_;rw[HTF.out,hin,if_neg (by decide)]
   clear hin;go_wp2_with fail;refine (note_any Q b s.nx ia il ic most ka s.st.length kc la s.log.length lc sa x.sl sc x.set _ HV2.out.c (HS.out.later HB2.out) HQ.out (fun y hy=>Nat.lt_of_lt_of_le (HQK.out y hy) HB2.out.size) hsl).mono ?_
   rintro e W3 hno;obtain⟨v,rfl⟩:=hno.val;have HA3:Hid (MacA K L W3 b (MSt.nx (s.note x.sl x.set)) ia il ic most ka kc la lc):=by
    have hc:=hno.c;rw[note_nx]at hc;exact HV2.out.kept hno.kept (inote_st _ _ _) (inote_log _ _ _) hc
   have HK3:Hid (Kept (fun y=>K y∨L y∨y=b) w W3):=kept_wide (kept_trans (Kept.of HB2.out) hno.kept) (fun y h=>.inr (.inr h))
   clear hno;go_wp2_with fail;refine (fail_any K L b (MSt.nx (s.note x.sl x.set)) ia il ic most ka kc la lc _ HA3.out (by rw[show (MSt.nx (s.note x.sl x.set)).st=s.st from inote_st _ _ _];exact HP.out.len') (by rw[show (MSt.nx (s.note x.sl x.set)).done=s.done from note_done _ _ _];exact HP.out.done) (by rw[show (MSt.nx (s.note x.sl x.set)).st=s.st from inote_st _ _ _,show (MSt.nx (s.note x.sl x.set)).log=s.log from inote_log _ _ _];exact HP.out.last) (by rw[show (MSt.nx (s.note x.sl x.set)).st=s.st from inote_st _ _ _];exact HP.out.kinds)).mono ?_
   rintro e W9 hact;obtain⟨he,hact⟩:=hact;subst he;have HACT:Hid (ActIs (MSt.fail (MSt.nx (s.note x.sl x.set))) K L b ia il ic most _ _ W9):=⟨rfl,hact⟩;clear hact;go_wp2;go_ret;rw[HT2.out];exact (HACT.out.from_ HK3.out).fail
end
end Go.Proofs.YtcbnnfnlilbjeaaGreat
