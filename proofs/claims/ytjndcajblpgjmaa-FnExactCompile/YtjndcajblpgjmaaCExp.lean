/-
  Walks: the program's instructions of a body and of a node.
-/
import Derived.Test.YtjndcajblpgjmaaCExB
import Derived.Test.YtjndcajblpgjmaaCExC
import Derived.Test.YtjndcajblpgjmaaCExD
import Derived.Test.YtjndcajblpgjmaaCExE
import Derived.Test.YtjndcajblpgjmaaCExF
namespace Go.Proofs.Ytjndcajblpgjmaa
open Go.RowKit
open M (OpD NodeD Gr InsD EX ins emit wsum)
set_option linter.unusedVariables false
set_option linter.unusedSimpArgs false

theorem pex_any (w0 : World) (cb : Nat) (Q : Nat → Prop) (ra la : Option Addr) (rc lc : Nat) (g : Gr) (h1 : g.nr ≤ 100) (h2 : g.nb ≤ 100) (b off N : Nat) (B : Nat → OpD) (hN : N ≤ 2000)
    (hok : ∀ i, i < N → M.ElemOK g.nr g.nb (B i)) (hB : ∀ i, i < N → OpC Q w0 b (off + i * 3) (B i)) (hi : Nat) :
    ∀ (lo o c l : Nat) (x : EX) (L : List IC) (fl : List Int) (w : World), hi ≤ N → M.Fed B hi → M.stk (M.nodeE g.nr) B hi = (lo, x) :: M.stk (M.nodeE g.nr) B lo → o = off + lo * 3 → l + lo = hi → l ≤ c →
      CS w0 cb (.slice ra g.nr rc) (.slice la g.nb lc) L [] fl w → L.length + x.len ≤ 100000 →
      Calls Try.prog 146 #[.pointer (some ⟨cb, 0, none⟩), .slice (some ⟨b, o, none⟩) l c] w (ExpIs w0 cb (.slice ra g.nr rc) (.slice la g.nb lc) L fl x) := by
  induction hi using Nat.strongRecOn with
  | _ hi ih =>
    intro lo o c l x L fl w hle hF hst
    obtain ⟨hlo, _, _⟩ := M.stk_cons _ B hi hF lo x _ hst
    obtain ⟨q, rfl⟩ : ∃ q, hi = q + 1 := ⟨hi - 1, by omega⟩
    have hE := hok q (by omega)
    have k0 := hE.1
    have k7 := hE.2.1
    rcases (show (B q).kind = 0 ∨ (B q).kind = 1 ∨ (B q).kind = 2 ∨ (B q).kind = 3 ∨ (B q).kind = 4 ∨ (B q).kind = 5 ∨ (B q).kind = 6 ∨ (B q).kind = 7 by omega) with e | e | e | e | e | e | e | e
    · exact pex_empty w0 cb Q ra la rc lc g h1 h2 b off N B hN hok hB q ih e lo o c l x L fl w hle hF hst
    · exact pex_set w0 cb Q ra la rc lc g h1 h2 b off N B hN hok hB q ih e lo o c l x L fl w hle hF hst
    · exact pex_ref w0 cb Q ra la rc lc g h1 h2 b off N B hN hok hB q ih e lo o c l x L fl w hle hF hst
    · exact pex_thr w0 cb Q ra la rc lc g h1 h2 b off N B hN hok hB q ih e lo o c l x L fl w hle hF hst
    · exact pex_seq w0 cb Q ra la rc lc g h1 h2 b off N B hN hok hB q ih e lo o c l x L fl w hle hF hst
    · exact pex_alt w0 cb Q ra la rc lc g h1 h2 b off N B hN hok hB q ih e lo o c l x L fl w hle hF hst
    · exact pex_star w0 cb Q ra la rc lc g h1 h2 b off N B hN hok hB q ih e lo o c l x L fl w hle hF hst
    · exact pex_not w0 cb Q ra la rc lc g h1 h2 b off N B hN hok hB q ih e lo o c l x L fl w hle hF hst

/-- A whole body. -/
theorem pex_body (w0 : World) (cb : Nat) (Q : Nat → Prop) (ra la a : Option Addr) (rc lc n c : Nat) (g : Gr) (h1 : g.nr ≤ 100) (h2 : g.nb ≤ 100) (B : Nat → OpD) (hn : n ≤ 2000) (hc : n ≤ c) (hok : M.BodyOK g.nr g.nb n B) (hB : OpsA Q w0 a n B) (L : List IC) (fl : List Int) (w : World)
    (hC : CS w0 cb (.slice ra g.nr rc) (.slice la g.nb lc) L [] fl w) (hL : L.length ≤ 50000) :
    Calls Try.prog 146 #[.pointer (some ⟨cb, 0, none⟩), .slice a n c] w (ExpIs w0 cb (.slice ra g.nr rc) (.slice la g.nb lc) L fl (M.treeE g.nr n B)) := by
  have h0 : ¬ n = 0 := fun q => by
    have := hok.2.2
    rw [q, M.dep] at this
    omega
  rcases hB with q | ⟨b, off, rfl, hq, hB⟩
  · exact absurd q h0
  have hl := tree_len hok
  have hw := M.wsum_bd B n
  exact pex_any w0 cb Q ra la rc lc g h1 h2 b off n B hn hok.1 hB n 0 off c n _ L fl w (Nat.le_refl _) hok.2.1 (stk_whole _ B n hok.2) (by omega) (by omega) hc hC (by show L.length + (M.treeE g.nr n B).len ≤ 100000; omega)

theorem src_int1 (w : World) (z : Int) : Src Try.prog 1 57 (.slice (some ⟨w.heap.size, 0, none⟩) 1 1) 1 [.int .i64 z] (w.alloc (.cells #[.int .i64 z] 3)) := by
  refine Src.ofSlice (P := Try.prog) _ Try.underlying57 ⟨w.heap.size, 0, none⟩ 1 1 [.int .i64 z] rfl (fun j u hu => ?_) (fun u hu => ?_)
  · match j, hu with
    | 0, hu => simp at hu; subst hu; simp [Addr.add]
    | j + 1, hu => simp at hu
  · simp at hu
    subst hu
    rfl

set_option maxRecDepth 100000 in
set_option maxHeartbeats 8000000 in
theorem putNode_any (w0 : World) (cb : Nat) (Q : Nat → Prop) (ra la a : Option Addr) (rc lc n c : Nat) (g : Gr) (h1 : g.nr ≤ 100) (h2 : g.nb ≤ 100) (B : Nat → OpD) (hn : n ≤ 2000) (hc : n ≤ c) (hok : M.BodyOK g.nr g.nb n B) (hB : OpsA Q w0 a n B) (L : List IC) (fl : List Int) (k z : Int) (w : World)
    (hC : CS w0 cb (.slice ra g.nr rc) (.slice la g.nb lc) L [] fl w) (hL : L.length ≤ 40000) (hfl : fl.length ≤ 40000) :
    Calls Try.prog 86 #[.pointer (some ⟨cb, 0, none⟩), .agg #[.int .i64 k, .int .i64 z, .int .i64 0, .slice none 0 0], .slice a n c] w fun e w' => (∃ v, e = .returned v) ∧ ∃ K : List IC, K.map IC.d = M.nodeC (fun n => (n : Int)) (ins k z 0) (M.treeE g.nr n B) L.length ∧ CS w0 cb (.slice ra g.nr rc) (.slice la g.nb lc) (L ++ K) [] (fl ++ [(L.length : Int)]) w' := by
  have HOK : Hid (M.BodyOK g.nr g.nb n B) := hok
  have HB : Hid (OpsA Q w0 a n B) := hB
  have HC : Hid (CS w0 cb (.slice ra g.nr rc) (.slice la g.nb lc) L [] fl w) := hC
  have HTL : Hid ((M.treeE g.nr n B).len ≤ 4000) := by
    show _ ≤ _
    have := M.wsum_bd B n
    rw [tree_len hok]
    omega
  have x0 : (w.alloc (.cells #[.int .i64 k, .int .i64 z, .int .i64 0, .slice none 0 0] 118)).cell? ⟨w.heap.size, 0, none⟩ = some (.int .i64 k) := cN w.heap.size rfl rfl
  have x1 : (w.alloc (.cells #[.int .i64 k, .int .i64 z, .int .i64 0, .slice none 0 0] 118)).cell? ⟨w.heap.size, 1, none⟩ = some (.int .i64 z) := cN w.heap.size rfl rfl
  have x2 : (w.alloc (.cells #[.int .i64 k, .int .i64 z, .int .i64 0, .slice none 0 0] 118)).cell? ⟨w.heap.size, 2, none⟩ = some (.int .i64 0) := cN w.heap.size rfl rfl
  have x3 : (w.alloc (.cells #[.int .i64 k, .int .i64 z, .int .i64 0, .slice none 0 0] 118)).cell? ⟨w.heap.size, 3, none⟩ = some (.slice none 0 0) := cN w.heap.size rfl rfl
  obtain ⟨P, F, S, vp, vf, hP⟩ := (hC.plain k z 0).later (bel1 w (.cells #[.int .i64 k, .int .i64 z, .int .i64 0, .slice none 0 0] 118))
  obtain ⟨fa, fc, rfl⟩ := own_shape hP.ownf
  have HX : Hid (CP w0 cb (.slice ra g.nr rc) (.slice la g.nb lc) L [ic k z 0] fl (w.alloc (.cells #[.int .i64 k, .int .i64 z, .int .i64 0, .slice none 0 0] 118)) P F S vp (.slice fa fl.length fc)) := hP
  clear hok hB hC hP
  go_enter Try.func86, Try.ntmps86
  go_wp2
  generalize w.alloc (.cells #[.int .i64 k, .int .i64 z, .int .i64 0, .slice none 0 0] 118) = X at *
  have f3 := HX.out.f
  have lcb := HX.out.cb0.2
  have lx := lt_of_cell x0
  go_region_law (first
    | (refine stepC2 enter85 rfl (.tmp 11) (.tmp 12) 189 118 rfl (y1 := .pointer (some ⟨cb, 0, none⟩)) (y2 := .agg #[.int .i64 k, .int .i64 z, .int .i64 0, .slice none 0 0]) (by simp [Act.eval, Act.put]) (by simp [Act.eval, Act.put]) ((put_cp w0 cb _ _ L (ic k z 0) fl X.drew P F S vp (.slice fa fl.length fc) (HX.out.later (Below.refl _ X).drew) (by omega)).mono ?_)
       rintro e W2 ⟨rfl, P2, vp2, h2⟩
       have HP2 : Hid (CP w0 cb (.slice ra g.nr rc) (.slice la g.nb lc) (L ++ [ic k z 0]) [] fl W2 P2 F S vp2 (.slice fa fl.length fc)) := h2
       have u3 := h2.f
       have lcb2 := h2.cb0.2
       clear h2
       refine ⟨_, rfl, ?_⟩)
    | (refine stepC rfl (.tmp 10) (.tmp 14) 57 57 rfl (v := .slice fa fl.length fc) (y := .slice (some ⟨W2.heap.size, 0, none⟩) 1 1) (by simp [Act.eval, Act.put]) (by simp [Act.eval, Act.put]) elem57 (HP2.out.later (bel1 W2 (.cells #[.int .i64 (L.length : Int)] 3))).ownf (src_int1 W2 (L.length : Int)) (by omega) (fun _ => Nat.one_pos) ?_
       intro v' W4 hown4 hgrew4 hsz4
       have hpf := (HP2.out.later (bel1 W2 (.cells #[.int .i64 (L.length : Int)] 3))).putF hown4 hgrew4
       have hcb4 : W4.heap[cb]? = (W2.alloc (.cells #[.int .i64 (L.length : Int)] 3)).heap[cb]? := hgrew4.block cb (HP2.out.later (bel1 W2 (.cells #[.int .i64 (L.length : Int)] 3))).cb0.2 (fun q => ((HP2.out.later (bel1 W2 (.cells #[.int .i64 (L.length : Int)] 3))).rf cb q).2.2.1 rfl)
       have r2 : W4.cell? ⟨cb, 3, none⟩ = some (.slice fa fl.length fc) := (World.cell?_of_block (a := ⟨cb, 3, none⟩) hcb4).trans (HP2.out.later (bel1 W2 (.cells #[.int .i64 (L.length : Int)] 3))).f
       have r3 : W4.frozen? ⟨cb, 3, none⟩ = false := (World.frozen?_of_block (a := ⟨cb, 3, none⟩) hcb4).trans ((HP2.out.later (bel1 W2 (.cells #[.int .i64 (L.length : Int)] 3))).soft 3)
       obtain ⟨a4, c4, rfl⟩ := own_shape hown4
       have C4 : Hid (CS w0 cb (.slice ra g.nr rc) (.slice la g.nb lc) (L ++ [ic k z 0]) [] (fl ++ [(L.length : Int)]) (W4.setCell ⟨cb, 3, none⟩ (.slice a4 (fl.length + 1) c4))) := hpf
       clear hown4 hgrew4 hsz4 hpf hcb4))
  all_goals go_goals
  all_goals (
    have HL4 : Hid ((L ++ [ic k z 0]).length = L.length + 1) := by show _ = _; simp
    go_wp2_with fail
    refine (pex_body w0 cb Q ra la a rc lc n c g h1 h2 B hn hc HOK.out HB.out (L ++ [ic k z 0]) (fl ++ [(L.length : Int)]) _ C4.out (by have := HL4.out; omega)).mono ?_
    rintro e W5 ⟨⟨v5, rfl⟩, K5, hm5, hc5⟩
    have HM5 : Hid (K5.map IC.d = emit (fun n => (n : Int)) (M.treeE g.nr n B) (L.length + 1)) := HL4.out ▸ hm5
    have HK5 : Hid (K5.length = (M.treeE g.nr n B).len) := by show _ = _; exact exp_len hm5
    have C5 : Hid (CS w0 cb (.slice ra g.nr rc) (.slice la g.nb lc) (L ++ [ic k z 0] ++ K5) [] (fl ++ [(L.length : Int)]) W5) := hc5
    clear hm5 hc5
    go_wp2_with fail
    refine (put_any w0 cb _ _ (L ++ [ic k z 0] ++ K5) _ W5 11 0 0 C5.out (by have h1 := HK5.out; have h2 := HTL.out; have h3 := HL4.out; rw [List.length_append]; omega)).mono ?_
    rintro e W6 ⟨rfl, C6⟩
    go_wp2_with fail
    refine (put_any w0 cb _ _ (L ++ [ic k z 0] ++ K5 ++ [ic 11 0 0]) _ W6 7 0 0 C6.out (by have h1 := HK5.out; have h2 := HTL.out; have h3 := HL4.out; rw [List.length_append, List.length_append]; show _ + _ + 1 ≤ _; omega)).mono ?_
    rintro e W7 ⟨rfl, C7⟩
    go_wp2
    go_end0
    refine ⟨⟨_, rfl⟩, ic k z 0 :: (K5 ++ [ic 11 0 0, ic 7 0 0]), ?_, ?_⟩
    · rw [List.map_cons, List.map_append, HM5.out]; rfl
    · have e : L ++ ic k z 0 :: (K5 ++ [ic 11 0 0, ic 7 0 0]) = L ++ [ic k z 0] ++ K5 ++ [ic 11 0 0] ++ [ic 7 0 0] := by simp
      rw [e]; exact C7.out)

end Go.Proofs.Ytjndcajblpgjmaa
