import Derived.Test.YteoddjobpmmgeaaGreatT24
import Derived.Test.YteoddjobpmmgeaaGreatT10
set_option linter.unusedVariables false
set_option linter.unusedSimpArgs false
namespace Go.Proofs.YteoddjobpmmgeaaGreat
section
open Go.RowKit
open M (OpD NodeD Gr)
theorem toksF_fuel (t : Tx) : ∀ f g i, t.n - i < f → t.n - i < g → toksF t f i = toksF t g i
  | 0, g, i, h, _ => absurd h (by omega)
  | f + 1, 0, i, _, h => absurd h (by omega)
  | f + 1, g + 1, i, h, k => by
    rw [toksF, toksF]
    by_cases hi : i < t.n
    · rw [if_pos hi, if_pos hi]
      by_cases h0 : (nxtT t i).1.kind = 0
      · rw [if_pos h0, if_pos h0]
      · rw [if_neg h0, if_neg h0]
        have hn := nxt_lt t hi h0
        have hs := skip_ge t (nxtT t i).2
        rw [toksF_fuel t f g _ (by omega) (by omega)]
    · rw [if_neg hi, if_neg hi]
def tokL (t : Tx) (i : Nat) : List Tok := toksF t (t.n + 1) (skip t i)
theorem tokL_end {t : Tx} {i : Nat} (h : ¬ skip t i < t.n) : tokL t i = [] := by
  unfold tokL
  rw [toksF, if_neg h]
theorem tokL_bad {t : Tx} {i : Nat} (h : skip t i < t.n) (h0 : (advT t i).1.kind = 0) : tokL t i = [(advT t i).1] := by
  unfold advT at h0 ⊢
  rw [if_pos h] at h0 ⊢
  unfold tokL
  rw [toksF, if_pos h, if_pos h0]
theorem tokL_cons {t : Tx} {i : Nat} (h : skip t i < t.n) (h0 : (advT t i).1.kind ≠ 0) : tokL t i = (advT t i).1 :: tokL t (advT t i).2 := by
  unfold advT at h0 ⊢
  rw [if_pos h] at h0 ⊢
  have hn := nxt_lt t h h0
  have hs := skip_ge t (nxtT t (skip t i)).2
  unfold tokL
  rw [toksF, if_pos h, if_neg h0, toksF_fuel t t.n (t.n + 1) _ (by omega) (by omega)]
theorem advT_le (t : Tx) {i : Nat} (hi : i ≤ t.n) (h0 : skip t i < t.n → (advT t i).1.kind ≠ 0) : (advT t i).2 ≤ t.n := by
  unfold advT at h0 ⊢
  by_cases h : skip t i < t.n
  · rw [if_pos h] at h0 ⊢
    exact (nxt_lt t h (h0 h)).2
  · rw [if_neg h]
    exact Nat.le_refl _
def Left (t : Tx) (k : Tok) (i : Nat) (l : List Tok) : Prop := (l = k :: tokL t i ∧ k.kind ≠ 0 ∧ i ≤ t.n) ∨ (l = [] ∧ k = ⟨0, t.n, [], []⟩ ∧ i = t.n)
theorem Left.le {t : Tx} {k : Tok} {i : Nat} {l : List Tok} (h : Left t k i l) : i ≤ t.n := by
  rcases h with h | h
  · exact h.2.2
  · omega
theorem Left.kind {t : Tx} {k : Tok} {i : Nat} {l : List Tok} (h : Left t k i l) : (l = [] ↔ k.kind = 0) := by
  rcases h with ⟨h1, h2, _⟩ | ⟨h1, h2, _⟩
  · subst h1
    exact ⟨(fun q => by cases q), fun q => absurd q h2⟩
  · subst h1 h2
    exact ⟨fun _ => rfl, fun _ => rfl⟩
theorem left_next {t : Tx} {k : Tok} {i : Nat} {l : List Tok} (h : Left t k i (k :: l)) (h0 : skip t i < t.n → (advT t i).1.kind ≠ 0) : Left t (advT t i).1 (advT t i).2 l := by
  rcases h with ⟨h1, h2, h3⟩ | ⟨h1, _⟩
  · injection h1 with _ h1
    subst h1
    by_cases hs : skip t i < t.n
    · exact .inl ⟨tokL_cons hs (h0 hs), h0 hs, advT_le t h3 h0⟩
    · refine .inr ⟨tokL_end hs, ?_, ?_⟩
      · unfold advT; rw [if_neg hs]
      · unfold advT; rw [if_neg hs]
  · cases h1
theorem left_bad {t : Tx} {k : Tok} {i : Nat} {l : List Tok} (h : Left t k i (k :: l)) (h1 : skip t i < t.n) (h0 : (advT t i).1.kind = 0) : ∃ x, l = [x] ∧ x.kind = 0 ∧ x.at_ = skip t i := by
  rcases h with ⟨e, h2, h3⟩ | ⟨e, _⟩
  · injection e with _ e
    subst e
    refine ⟨_, tokL_bad h1 h0, h0, ?_⟩
    unfold advT
    rw [if_pos h1]
    unfold nxtT
    split
    · rfl
    · split
      · cases strT t (skip t i) <;> rfl
      · split
        · cases clsT t (skip t i) <;> rfl
        · split <;> rfl
  · cases e
def AccIs (t : Tx) (k : Tok) (i : Nat) (c : Int) (rb : Nat) (r : Rv) (w : World) (e : Ending) (w' : World) : Prop :=
  (kk k.kind ≠ c ∧ e = .returned (.bool false) ∧ w' = w) ∨ (kk k.kind = c ∧ Keep (fun b => b = rb) w w' ∧ ((∃ sa sc, (skip t i < t.n → (advT t i).1.kind ≠ 0) ∧ e = .returned (.bool true) ∧ RB rb t (nextR r (advT t i).1 sa sc) (advT t i).2 w' ∧ OwnC (New w w') w' (.slice sa (advT t i).1.set.length sc) 1 (advT t i).1.set.length (intVs .i64 (lf (advT t i).1.set) (advT t i).1.set.length)) ∨ (skip t i < t.n ∧ (advT t i).1.kind = 0 ∧ e = .panicked (flt 5 (skip t i : Nat)))))
set_option maxHeartbeats 1000000 in
set_option maxRecDepth 100000 in
theorem accept_any (rb : Nat) (t : Tx) (r : Rv) (k : Tok) (sa : Option Addr) (sc i : Nat) (c : Int) (w : World) (hB : RB rb t (nextR r k sa sc) i w) (hT : TxQ rb w r.ta t) (hi : i ≤ t.n) (htc : t.n ≤ r.tc) :
    Calls Tryz.prog 64 #[.pointer (some ⟨rb, 0, none⟩), .int .u8 c] w (AccIs t k i c rb r w) := by
  have HAD : Hid (Calls Tryz.prog 40 #[.pointer (some ⟨rb, 0, none⟩)] w (AdvIs t i rb (nextR r k sa sc) w)) := advance_any rb t (nextR r k sa sc) i w hB hT hi htc
  have c2 : w.cell? ⟨rb, 2, none⟩ = some (.int .u8 (kk k.kind)) := blk_cell hB rfl
  clear hB hT
  have HK : Hid (∃ x, x = kk k.kind) := ⟨_, rfl⟩
  by_cases hk : kk k.kind = c
  · have HE : Hid (kk k.kind = c) := hk
    rw [hk] at c2
    clear hk
    go_enter Tryz.func64, Tryz.ntmps64
    go_wp2_with fail
    refine HAD.out.mono ?_
    clear HAD
    rintro e W ⟨hk2, ⟨v, sa2, sc2, h0, rfl, hB2, hO⟩ | ⟨h1, h0, rfl⟩⟩
    · have HFI : Hid (AccIs t k i c rb r w (.returned (.bool true)) W) := .inr ⟨HE.out, hk2, .inl ⟨sa2, sc2, h0, rfl, hB2, hO⟩⟩
      clear hk2 h0 hB2 hO
      go_wp2
      go_ret
      exact HFI.out
    · have HFI : Hid (AccIs t k i c rb r w (.panicked (flt 5 (skip t i : Nat))) W) := .inr ⟨HE.out, hk2, .inr ⟨h1, h0, rfl⟩⟩
      clear hk2 h0 h1
      go_wp2
      exact ⟨rfl, HFI.out⟩
  · have HFI : Hid (AccIs t k i c rb r w (.returned (.bool false)) w) := .inl ⟨hk, rfl, rfl⟩
    have hk' : (kk k.kind != c) = true := by simpa using hk
    obtain ⟨x, hx⟩ : ∃ x, x = kk k.kind := ⟨_, rfl⟩
    rw [← hx] at c2 hk'
    clear hk hx
    go_enter Tryz.func64, Tryz.ntmps64
    go_wp2
    go_ret
    exact HFI.out
def ExpIs (t : Tx) (k : Tok) (sa : Option Addr) (sc i : Nat) (c : Int) (rb : Nat) (r : Rv) (w : World) (e : Ending) (w' : World) : Prop :=
  Keep (fun b => b = rb) w w' ∧ ((kk k.kind ≠ c ∧ e = .panicked (flt 5 (k.at_ : Nat))) ∨ (kk k.kind = c ∧ ((∃ sa2 sc2, (skip t i < t.n → (advT t i).1.kind ≠ 0) ∧ e = .returned (.agg #[.int .u8 (kk k.kind), .int .i64 (k.at_ : Nat), .string (str k.nm.length (lf k.nm)), .slice sa k.set.length sc]) ∧ RB rb t (nextR r (advT t i).1 sa2 sc2) (advT t i).2 w' ∧ OwnC (New w w') w' (.slice sa2 (advT t i).1.set.length sc2) 1 (advT t i).1.set.length (intVs .i64 (lf (advT t i).1.set) (advT t i).1.set.length)) ∨ (skip t i < t.n ∧ (advT t i).1.kind = 0 ∧ e = .panicked (flt 5 (skip t i : Nat))))))
set_option maxHeartbeats 1000000 in
set_option maxRecDepth 100000 in
theorem expect_any (rb : Nat) (t : Tx) (r : Rv) (k : Tok) (sa : Option Addr) (sc i : Nat) (c : Int) (w : World) (hB : RB rb t (nextR r k sa sc) i w) (hT : TxQ rb w r.ta t) (hi : i ≤ t.n) (htc : t.n ≤ r.tc) :
    Calls Tryz.prog 65 #[.pointer (some ⟨rb, 0, none⟩), .int .u8 c] w (ExpIs t k sa sc i c rb r w) := by
  have hrb : rb < w.heap.size := hB.lt
  have HB : Hid (RB rb t (nextR r k sa sc) i w) := hB
  have HT : Hid (TxQ rb w r.ta t) := hT
  have c2 : w.cell? ⟨rb, 2, none⟩ = some (.int .u8 (kk k.kind)) := blk_cell hB rfl
  have c3 : w.cell? ⟨rb, 3, none⟩ = some (.int .i64 (k.at_ : Nat)) := blk_cell hB rfl
  have c4 : w.cell? ⟨rb, 4, none⟩ = some (.string (str k.nm.length (lf k.nm))) := blk_cell hB rfl
  have c5 : w.cell? ⟨rb, 5, none⟩ = some (.slice sa k.set.length sc) := blk_cell hB rfl
  clear hB hT
  generalize hsz : str k.nm.length (lf k.nm) = sz at *
  have HSZ : Hid (str k.nm.length (lf k.nm) = sz) := hsz
  clear hsz
  go_enter Tryz.func65, Tryz.ntmps65
  by_cases hk : kk k.kind = c
  · have HE : Hid (kk k.kind = c) := hk
    rw [hk] at c2
    clear hk
    go_wp2_with fail
    obtain ⟨W0, hW0⟩ : ∃ W0, W0 = (w.alloc (.cells tkZ 59)).alloc (.cells #[.int .u8 c, .int .i64 (k.at_ : Nat), .string sz, .slice sa k.set.length sc] 59) := ⟨_, rfl⟩
    have HK0 : Hid (Keep (fun b => b = rb) w W0) := by rw [hW0]; exact (Keep.alloc _ _ _).trans (Keep.alloc _ _ _)
    have HB0 : Hid (RB rb t (nextR r k sa sc) i W0) := by rw [hW0]; exact HB.out.keep ((Keep.alloc _ _ _).trans (Keep.alloc _ _ _))
    have HR0 : Hid (W0.heap[w.heap.size]? = some (.cells tkZ 59)) := by rw [hW0]; exact blk_old (blk_new w _ _ rfl) _
    have HC0 : Hid (W0.heap[w.heap.size + 1]? = some (.cells #[.int .u8 c, .int .i64 (k.at_ : Nat), .string sz, .slice sa k.set.length sc] 59)) := by rw [hW0]; exact blk_new _ _ _ (by simp)
    rw [← hW0]
    clear hW0 c2 c3 c4 c5
    refine (advance_any rb t (nextR r k sa sc) i W0 HB0.out (HT.out.keep HK0.out) hi htc).mono ?_
    rintro e W ⟨hk2, ⟨v, sa2, sc2, h0, rfl, hB2, hO⟩ | ⟨h1, h0, rfl⟩⟩
    · have cR : W.heap[w.heap.size]? = some (.cells tkZ 59) := (hk2.block w.heap.size (Array.getElem?_eq_some_iff.1 HR0.out).1 (by show ¬ w.heap.size = rb; omega)).trans HR0.out
      have cC : W.heap[w.heap.size + 1]? = some (.cells #[.int .u8 c, .int .i64 (k.at_ : Nat), .string sz, .slice sa k.set.length sc] 59) := (hk2.block (w.heap.size + 1) (Array.getElem?_eq_some_iff.1 HC0.out).1 (by show ¬ w.heap.size + 1 = rb; omega)).trans HC0.out
      have z0 : W.cell? ⟨w.heap.size, 0, none⟩ = some (.int .u8 0) := blk_cell cR rfl
      have z1 : W.cell? ⟨w.heap.size, 1, none⟩ = some (.int .i64 0) := blk_cell cR rfl
      have z2 : W.cell? ⟨w.heap.size, 2, none⟩ = some (.string ⟨#[]⟩) := blk_cell cR rfl
      have z3 : W.cell? ⟨w.heap.size, 3, none⟩ = some (.slice none 0 0) := blk_cell cR rfl
      have g0 : W.frozen? ⟨w.heap.size, 0, none⟩ = false := blk_frz cR
      have g1 : W.frozen? ⟨w.heap.size, 1, none⟩ = false := blk_frz cR
      have g2 : W.frozen? ⟨w.heap.size, 2, none⟩ = false := blk_frz cR
      have g3 : W.frozen? ⟨w.heap.size, 3, none⟩ = false := blk_frz cR
      have y0 : W.cell? ⟨w.heap.size + 1, 0, none⟩ = some (.int .u8 c) := blk_cell cC rfl
      have y1 : W.cell? ⟨w.heap.size + 1, 1, none⟩ = some (.int .i64 (k.at_ : Nat)) := blk_cell cC rfl
      have y2 : W.cell? ⟨w.heap.size + 1, 2, none⟩ = some (.string sz) := blk_cell cC rfl
      have y3 : W.cell? ⟨w.heap.size + 1, 3, none⟩ = some (.slice sa k.set.length sc) := blk_cell cC rfl
      have HFI : Hid (ExpIs t k sa sc i c rb r w (.returned (.agg #[.int .u8 c, .int .i64 (k.at_ : Nat), .string sz, .slice sa k.set.length sc])) ((((W.setCell ⟨w.heap.size, 0, none⟩ (.int .u8 c)).setCell ⟨w.heap.size, 1, none⟩ (.int .i64 (k.at_ : Nat))).setCell ⟨w.heap.size, 2, none⟩ (.string sz)).setCell ⟨w.heap.size, 3, none⟩ (.slice sa k.set.length sc))) := by
        refine ⟨keepX (keepX (keepX (keepX (HK0.out.trans hk2) (Nat.le_refl _)) (Nat.le_refl _)) (Nat.le_refl _)) (Nat.le_refl _), .inr ⟨HE.out, .inl ⟨sa2, sc2, h0, by rw [HE.out, HSZ.out], (((hB2.setX (by omega)).setX (by omega)).setX (by omega)).setX (by omega), ?_⟩⟩⟩
        have hn : ¬ New W0 W w.heap.size := fun q => by have := q.1; have := (Array.getElem?_eq_some_iff.1 HR0.out).1; omega
        exact ownC_wide (own_setX (own_setX (own_setX (own_setX hO hn) hn) hn) hn) (fun b hb => ⟨by have := hb.1; have := HK0.out.size; omega, by simp only [size_set]; exact hb.2⟩)
      clear hk2 h0 hB2 hO cR cC HB HT HB0 HR0 HC0
      go_wp2
      refine bodyPost_ret (v := .agg #[.int .u8 c, .int .i64 (k.at_ : Nat), .string sz, .slice sa k.set.length sc]) ?_ rfl ?_
      · simp [results, Tryz.f65, go_sem, *]
      · exact HFI.out
    · have HFI : Hid (ExpIs t k sa sc i c rb r w (.panicked (flt 5 (skip t i : Nat))) W) := ⟨HK0.out.trans hk2, .inr ⟨HE.out, .inr ⟨h1, h0, rfl⟩⟩⟩
      clear hk2 h0 h1
      go_wp2
      exact ⟨rfl, HFI.out⟩
  · have HE : Hid (kk k.kind ≠ c) := hk
    have hk' : (kk k.kind != c) = true := by simpa using hk
    have HFI : Hid (∀ W, Keep (fun b => b = rb) w W → ExpIs t k sa sc i c rb r w (.panicked (flt 5 (k.at_ : Nat))) W) := fun W k => ⟨k, .inl ⟨hk, rfl⟩⟩
    obtain ⟨x, hx⟩ : ∃ x, x = kk k.kind := ⟨_, rfl⟩
    rw [← hx] at c2 hk'
    clear hk hx HE
    go_wp2
    exact ⟨rfl, HFI.out _ ((Keep.alloc _ _ _).trans (Keep.alloc _ _ _))⟩
end
section
open Go.RowKit
open M (OpD NodeD Gr)
abbrev empV : Value := .iface 150 (.agg #[])
def SetA (w : World) (z : List Int) (v : Value) (P : Nat → Prop) : Prop := ∃ a c, v = .iface 115 (.agg #[.slice a z.length c]) ∧ OwnC P w (.slice a z.length c) 1 z.length (intVs .i64 (lf z) z.length)
def TwoA (A B : Value → (Nat → Prop) → Prop) (ty : TypeId) (v : Value) (P : Nat → Prop) : Prop :=
  ∃ u u' Pa Pb, v = .iface ty (.agg #[u, u']) ∧ (∀ b, Pa b → P b) ∧ (∀ b, Pb b → P b) ∧ (∀ b, Pa b → ¬ Pb b) ∧ A u Pa ∧ B u' Pb
def StrN (w : World) : List Int → Value → (Nat → Prop) → Prop
  | [], v, P => v = empV
  | [x], v, P => SetA w (oneD x) v P
  | y :: x :: r, v, P => TwoA (StrN w (x :: r)) (SetA w (oneD y)) 121 v P
def TrA (w : World) : PE → Value → (Nat → Prop) → Prop
  | .ref t, v, P => v = .iface 117 (.agg #[.string (str t.nm.length (lf t.nm))])
  | .thr _ t, v, P => v = .iface 119 (.agg #[.string (str t.nm.length (lf t.nm))])
  | .str t, v, P => StrN w t.nm.reverse v P
  | .cls t, v, P => SetA w t.set v P
  | .dot _, v, P => SetA w [0, 255] v P
  | .grp _ e _, v, P => TrA w e v P
  | .star e _, v, P => ∃ u, v = .iface 124 (.agg #[u]) ∧ TrA w e u P
  | .opt e _, v, P => ∃ u, v = .iface 122 (.agg #[u, empV]) ∧ TrA w e u P
  | .not _ e, v, P => ∃ u, v = .iface 125 (.agg #[u]) ∧ TrA w e u P
  | .amp _ e, v, P => ∃ u, v = .iface 125 (.agg #[.iface 125 (.agg #[u])]) ∧ TrA w e u P
  | .emp, v, P => v = empV
  | .seq a b, v, P => TwoA (TrA w a) (TrA w b) 121 v P
  | .alt a _ b, v, P => TwoA (TrA w a) (TrA w b) 122 v P
theorem SetA.on {w w' : World} {z : List Int} {v : Value} {P P' : Nat → Prop} (h : SetA w z v P) (k : Stay P w w') (t : ∀ b, P b → P' b) : SetA w' z v P' := by
  obtain ⟨a, c, e, h⟩ := h
  exact ⟨a, c, e, ownC_wide (h.on k) t⟩
theorem StrN.on {w w' : World} : ∀ (z : List Int) {v : Value} {P P' : Nat → Prop}, StrN w z v P → Stay P w w' → (∀ b, P b → P' b) → StrN w' z v P'
  | [], v, P, P', h, _, _ => h
  | [x], v, P, P', h, k, t => SetA.on h k t
  | y :: x :: r, v, P, P', h, k, t => by
    obtain ⟨u, u', Pa, Pb, e, h1, h2, h3, h4, h5⟩ := h
    exact ⟨u, u', Pa, Pb, e, fun b q => t b (h1 b q), fun b q => t b (h2 b q), h3, StrN.on (x :: r) h4 (fun b q => k b (h1 b q)) (fun b q => q), SetA.on h5 (fun b q => k b (h2 b q)) (fun b q => q)⟩
theorem TrA.on {w w' : World} : ∀ (e : PE) {v : Value} {P P' : Nat → Prop}, TrA w e v P → Stay P w w' → (∀ b, P b → P' b) → TrA w' e v P' := by
  intro e
  induction e with
  | ref t => exact fun h _ _ => h
  | thr c t => exact fun h _ _ => h
  | str t => exact fun h k q => StrN.on _ h k q
  | cls t => exact fun h k q => SetA.on h k q
  | dot t => exact fun h k q => SetA.on h k q
  | grp o e c ih => exact fun h k q => ih h k q
  | star e t ih => exact fun ⟨u, h1, h2⟩ k q => ⟨u, h1, ih h2 k q⟩
  | opt e t ih => exact fun ⟨u, h1, h2⟩ k q => ⟨u, h1, ih h2 k q⟩
  | not t e ih => exact fun ⟨u, h1, h2⟩ k q => ⟨u, h1, ih h2 k q⟩
  | amp t e ih => exact fun ⟨u, h1, h2⟩ k q => ⟨u, h1, ih h2 k q⟩
  | emp => exact fun h _ _ => h
  | seq a b iha ihb => exact fun ⟨u, u', Pa, Pb, e, h1, h2, h3, h4, h5⟩ k q => ⟨u, u', Pa, Pb, e, fun b x => q b (h1 b x), fun b x => q b (h2 b x), h3, iha h4 (fun b x => k b (h1 b x)) (fun b x => x), ihb h5 (fun b x => k b (h2 b x)) (fun b x => x)⟩
  | alt a t b iha ihb => exact fun ⟨u, u', Pa, Pb, e, h1, h2, h3, h4, h5⟩ k q => ⟨u, u', Pa, Pb, e, fun b x => q b (h1 b x), fun b x => q b (h2 b x), h3, iha h4 (fun b x => k b (h1 b x)) (fun b x => x), ihb h5 (fun b x => k b (h2 b x)) (fun b x => x)⟩
set_option maxHeartbeats 1000000 in
theorem byteExpr_any (x : Int) (w : World) (h0 : 0 ≤ x) (h1 : x ≤ 255) : Calls Tryz.prog 124 #[.int .u8 x] w fun e w' => (∃ v, e = .returned v ∧ SetA w' (oneD x) v (New w w')) ∧ Keep (fun _ => False) w w' := by
  have hcv : ∀ W, (convert 5 3 (.int .u8 x)).run Tryz.prog W = .ok (.int .i64 x) W := fun W => conv83 x W h0 h1
  go_enter Tryz.func124, Tryz.ntmps124
  go_wp2
  go_ret
  refine ⟨⟨_, rfl, some ⟨w.heap.size, 0, none⟩, 2, rfl, .inr ⟨w.heap.size, 2, rfl, ⟨Nat.le_refl _, by simp⟩, rfl, Nat.le_refl _, fun j hj => ?_, fun j hj => ⟨?_, ?_⟩⟩⟩, Keep.alloc _ _ _⟩
  · have hb := World.alloc_heap_new w (.cells #[.int .i64 x, .int .i64 x] 3)
    match j, hj with
    | 0, _ => simp only [World.cell?, hb]; rfl
    | 1, _ => simp only [World.cell?, hb]; rfl
  · have hb := World.alloc_heap_new w (.cells #[.int .i64 x, .int .i64 x] 3)
    match j, hj with
    | 0, _ => simp only [World.cell?, hb]; rfl
    | 1, _ => simp only [World.cell?, hb]; rfl
  · have hb := World.alloc_heap_new w (.cells #[.int .i64 x, .int .i64 x] 3)
    simp only [World.frozen?, hb]; rfl
def begI (c : Int) : Bool := decide (c = 33 ∨ c = 38 ∨ c = 94 ∨ c = 46 ∨ c = 40 ∨ c = 97 ∨ c = 34 ∨ c = 91)
set_option maxHeartbeats 1000000 in
theorem beginsPrefix_any (c : Int) (w : World) : Calls Tryz.prog 93 #[.int .u8 c] w fun e w' => e = .returned (.bool (begI c)) ∧ w' = w := by
  by_cases h : c = 33 ∨ c = 38 ∨ c = 94 ∨ c = 46 ∨ c = 40 ∨ c = 97 ∨ c = 34 ∨ c = 91
  · have hb : begI c = true := decide_eq_true h
    rw [hb]
    clear hb
    rcases h with rfl | rfl | rfl | rfl | rfl | rfl | rfl | rfl
    all_goals (
      go_enter Tryz.func93, Tryz.ntmps93
      go_wp2
      go_ret
      exact ⟨rfl, rfl⟩)
  · have hb : begI c = false := decide_eq_false h
    rw [hb]
    simp only [not_or] at h
    obtain ⟨h1, h2, h3, h4, h5, h6, h7, h8⟩ := h
    have e1 : (c == 33) = false := by simpa using h1
    have e2 : (c == 38) = false := by simpa using h2
    have e3 : (c == 94) = false := by simpa using h3
    have e4 : (c == 46) = false := by simpa using h4
    have e5 : (c == 40) = false := by simpa using h5
    have e6 : (c == 97) = false := by simpa using h6
    have e7 : (c == 34) = false := by simpa using h7
    have e8 : (c == 91) = false := by simpa using h8
    clear h1 h2 h3 h4 h5 h6 h7 h8 hb
    go_enter Tryz.func93, Tryz.ntmps93
    go_wp2
    go_ret
    exact ⟨rfl, rfl⟩
end
section
open Go.RowKit
open M (OpD NodeD Gr)
theorem SetA.iface {w : World} {z : List Int} {v : Value} {P : Nat → Prop} (h : SetA w z v P) : ∃ ty u, v = .iface ty u := by
  obtain ⟨a, c, e, _⟩ := h
  exact ⟨_, _, e⟩
theorem StrN.iface {w : World} : ∀ {z : List Int} {v : Value} {P : Nat → Prop}, StrN w z v P → ∃ ty u, v = .iface ty u
  | [], v, P, h => ⟨_, _, h⟩
  | [x], v, P, h => SetA.iface h
  | y :: x :: r, v, P, h => by
    obtain ⟨u, u', Pa, Pb, e, _⟩ := h
    exact ⟨_, _, e⟩
theorem TrA.iface {w : World} : ∀ (e : PE) {v : Value} {P : Nat → Prop}, TrA w e v P → ∃ ty u, v = .iface ty u := by
  intro e
  induction e with
  | ref t => exact fun h => ⟨_, _, h⟩
  | thr c t => exact fun h => ⟨_, _, h⟩
  | str t => exact fun h => StrN.iface h
  | cls t => exact fun h => SetA.iface h
  | dot t => exact fun h => SetA.iface h
  | grp o e c ih => exact fun h => ih h
  | star e t ih => exact fun ⟨u, h1, _⟩ => ⟨_, _, h1⟩
  | opt e t ih => exact fun ⟨u, h1, _⟩ => ⟨_, _, h1⟩
  | not t e ih => exact fun ⟨u, h1, _⟩ => ⟨_, _, h1⟩
  | amp t e ih => exact fun ⟨u, h1, _⟩ => ⟨_, _, h1⟩
  | emp => exact fun h => ⟨_, _, h⟩
  | seq a b iha ihb => exact fun ⟨u, u', Pa, Pb, e, _⟩ => ⟨_, _, e⟩
  | alt a t b iha ihb => exact fun ⟨u, u', Pa, Pb, e, _⟩ => ⟨_, _, e⟩
theorem StrN.snoc {w wr W : World} {l : List Int} {y : Int} {v u : Value} (hl : l ≠ []) (h : StrN wr l v (New w wr)) (k0 : Keep (fun _ => False) w wr) (k : Keep (fun _ => False) wr W) (hu : SetA W (oneD y) u (New wr W)) : StrN W (y :: l) (.iface 121 (.agg #[v, u])) (New w W) := by
  cases l with
  | nil => exact absurd rfl hl
  | cons x r =>
    refine ⟨v, u, New w wr, New wr W, rfl, fun b q => ⟨q.1, Nat.lt_of_lt_of_le q.2 k.size⟩, fun b q => ⟨Nat.le_trans k0.size q.1, q.2⟩, fun b q q' => by have := q.2; have := q'.1; omega, ?_, hu⟩
    exact StrN.on (x :: r) h (fun b q => k.block b q.2 (fun e => e)) (fun b q => q)
theorem str_at (z : List Int) (hb : BytL z) (i : Nat) (y : Int) (h : i < (str z.length (lf z)).size) (hy : z[i]? = some y) : (((str z.length (lf z))[i]'h).toNat : Int) = y := by
  have hi := (List.getElem?_eq_some_iff.1 hy).1
  have hby := hb y (List.mem_of_getElem? hy)
  have e1 : (str z.length (lf z)).data.toList[i]? = some ((str z.length (lf z))[i]'h) := by
    rw [Array.getElem?_toList]
    exact Array.getElem?_eq_getElem (by simpa using h)
  rw [str_data] at e1
  unfold u8s at e1
  rw [List.getElem?_map, List.getElem?_range hi] at e1
  injection e1 with e1
  rw [← e1]
  have e2 : lf z i = y := by unfold lf; rw [List.getD_eq_getElem?_getD, hy]; rfl
  show (((UInt8.ofNat (lf z i).toNat).toNat : Nat) : Int) = y
  rw [e2]
  simp
  omega
def sxI (z : List Int) (w : World) (v u : Value) (wr : World) : Prop := ∃ i : Nat, 1 ≤ i ∧ i ≤ z.length ∧ u = .int .i64 (i : Nat) ∧ StrN wr (z.take i).reverse v (New w wr) ∧ Keep (fun _ => False) w wr
set_option maxHeartbeats 1000000 in
set_option maxRecDepth 100000 in
theorem stringExpr_any (z : List Int) (w : World) (hb : BytL z) (hl : z.length ≤ 1000000) :
    Calls Tryz.prog 122 #[.string (str z.length (lf z))] w fun e w' => (∃ v, e = .returned v ∧ StrN w' z.reverse v (New w w')) ∧ Keep (fun _ => False) w w' := by
  cases hz : z with
  | nil =>
    show Calls Tryz.prog 122 #[.string ⟨#[]⟩] w _
    go_enter Tryz.func122, Tryz.ntmps122
    go_wp2
    go_ret
    exact ⟨⟨_, rfl, rfl⟩, Keep.refl _ _⟩
  | cons x r =>
    rw [← hz]
    have hpos : 0 < z.length := by rw [hz]; simp
    have HH : Hid (z = x :: r) := hz
    have HB : Hid (BytL z) := hb
    have HSI : Hid (∀ (i : Nat) (y : Int) (h : i < (str z.length (lf z)).size), z[i]? = some y → (((str z.length (lf z))[i]'h).toNat : Int) = y) := fun i y h hy => str_at z hb i y h hy
    have hsz := str_size z.length (lf z)
    have hne : ((str z.length (lf z)).toList == ([] : List UInt8)) = false := by
      rw [str_list]
      unfold u8s
      rw [beq_eq_false_iff_ne]
      intro q
      have := congrArg List.length q
      rw [List.length_map, List.length_range, List.length_nil] at this
      omega
    clear hz hb
    generalize str z.length (lf z) = sz at *
    go_enter Tryz.func122, Tryz.ntmps122
    go_wp2_with fail
    have h0 : ((sz[0]'(by omega)).toNat : Int) = x := HSI.out 0 x _ (by rw [HH.out]; rfl)
    rw [h0]
    clear h0
    have hbx := HB.out x (by rw [HH.out]; simp)
    refine (byteExpr_any x w hbx.1 hbx.2).mono ?_
    rintro e W1 ⟨⟨v1, rfl, hS1⟩, hK1⟩
    have HS0 : Hid (sxI z w v1 (.int .i64 1) W1) := ⟨1, Nat.le_refl _, hpos, rfl, by rw [HH.out]; exact hS1, hK1⟩
    clear hS1 hK1
    go_wp2
    go_loopw [3, 4] (sxI z w) (fun _ u _ => z.length - (intOf u).toNat)
    case atStart => exact HS0.out
    case round =>
      obtain ⟨i, hi1, hi2, rfl, hS, hK⟩ := hrel
      obtain ⟨ty3, x3, rfl⟩ := hS.iface
      have HS : Hid (StrN wr (z.take i).reverse (.iface ty3 x3) (New w wr)) := hS
      have HK : Hid (Keep (fun _ => False) w wr) := hK
      clear hS hK HS0
      by_cases hlt : i < z.length
      · have hlt' : (i : Int) < sz.size := by omega
        have hlt2 : i < sz.size := by omega
        obtain ⟨y, hy⟩ : ∃ y, z[i]? = some y := ⟨_, List.getElem?_eq_getElem hlt⟩
        have HY : Hid (((sz[i]'hlt2).toNat : Int) = y) := HSI.out i y hlt2 hy
        have hby := HB.out y (List.mem_of_getElem? hy)
        have HTK : Hid ((z.take (i + 1)).reverse = y :: (z.take i).reverse ∧ (z.take i).reverse ≠ []) := ⟨by rw [List.take_add_one, hy]; simp, fun q => by
          have := congrArg List.length q
          simp at this
          rcases this with h | h
          · omega
          · rw [h] at hlt; simp at hlt⟩
        clear hy
        go_wp2_with fail
        rw [HY.out]
        refine (byteExpr_any y wr hby.1 hby.2).mono ?_
        rintro e W2 ⟨⟨v2, rfl, hS2⟩, hK2⟩
        obtain ⟨ty2, x2, rfl⟩ := hS2.iface
        have HNX : Hid (sxI z w (.iface 121 (.agg #[.iface ty3 x3, .iface ty2 x2])) (.int .i64 ((i : Int) + 1)) W2) := ⟨i + 1, by omega, hlt, by simp, by rw [HTK.out.1]; exact StrN.snoc HTK.out.2 HS.out HK.out hK2 hS2, HK.out.trans hK2⟩
        clear hS2 hK2
        go_wp2
        go_roundw
        all_goals first
          | exact HNX.out
          | (simp [intOf]; omega)
      · have hlt' : ¬ (i : Int) < sz.size := by omega
        have HE : Hid (StrN wr z.reverse (.iface ty3 x3) (New w wr)) := by
          have h := HS.out
          rw [List.take_of_length_le (by omega)] at h
          exact h
        go_wp2
        go_ret
        exact ⟨⟨_, rfl, HE.out⟩, HK.out⟩
end
end Go.Proofs.YteoddjobpmmgeaaGreat
