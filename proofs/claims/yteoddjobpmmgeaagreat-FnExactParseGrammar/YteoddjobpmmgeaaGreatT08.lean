import Derived.Test.YteoddjobpmmgeaaGreatT07
import Derived.Laws.ResultCell
set_option linter.unusedVariables false
set_option linter.unusedSimpArgs false
namespace Go.Proofs.YteoddjobpmmgeaaGreat
section
open Go.RowKit
open M (OpD NodeD Gr)
theorem blk_cell {w : World} {b j : Nat} {c : Array Value} {t : TypeId} {v : Value} (h : w.heap[b]? = some (.cells c t)) (hv : c[j]? = some v) : w.cell? ⟨b, j, none⟩ = some v := by
  simp [World.cell?, h, hv]
theorem blk_frz {w : World} {b j : Nat} {c : Array Value} {t : TypeId} (h : w.heap[b]? = some (.cells c t)) : w.frozen? ⟨b, j, none⟩ = false := by
  simp [World.frozen?, h]
theorem blk_new (w : World) (o : Obj) (b : Nat) (hb : b = w.heap.size) : (w.alloc o).heap[b]? = some o := by subst hb; exact World.alloc_heap_new w o
theorem blk_old {w : World} {b : Nat} {c : Obj} (h : w.heap[b]? = some c) (o : Obj) : (w.alloc o).heap[b]? = some c := by
  rw [Below.heap_alloc w o b (Array.getElem?_eq_some_iff.1 h).1]; exact h
structure Tok where
  kind : Int
  at_ : Nat
  nm : List Int
  set : List Int
def nameC (c : Int) : Prop := M.Letter c ∨ M.Digit c
instance (c : Int) : Decidable (M.Letter c) := by unfold M.Letter; infer_instance
instance (c : Int) : Decidable (M.Digit c) := by unfold M.Digit; infer_instance
instance (c : Int) : Decidable (nameC c) := by unfold nameC; infer_instance
def nameF (t : Tx) : Nat → Nat → List Int → List Int × Nat
  | 0, j, z => (z, j)
  | f + 1, j, z => if j < t.n ∧ nameC (t.T j) then nameF t f (j + 1) (z ++ [t.T j]) else (z, j)
def oneS : List Int := [61, 59, 47, 33, 38, 42, 63, 40, 41, 46, 94]
def nxtT (t : Tx) (i : Nat) : Tok × Nat :=
  if M.Letter (t.T i) then (⟨110, i, (nameF t (t.n - i) i []).1, []⟩, (nameF t (t.n - i) i []).2)
  else if t.T i = 34 then (match strT t i with | none => (⟨0, i, [], []⟩, i) | some (z, j) => (⟨34, i, z, []⟩, j))
  else if t.T i = 91 then (match clsT t i with | none => (⟨0, i, [], []⟩, i) | some (z, j) => (⟨91, i, [], z⟩, j))
  else if t.T i ∈ oneS then (⟨t.T i, i, [], []⟩, i + 1)
  else (⟨0, i, [], []⟩, i + 1)
def tokV (k : Tok) (na : Option Addr) (nc : Nat) (sa : Option Addr) (sc : Nat) : Array Value := #[.int .u8 k.kind, .int .i64 k.at_, .slice na k.nm.length nc, .slice sa k.set.length sc]
def NextIs (r : Tok × Nat) (w : World) (e : Ending) (w' : World) : Prop :=
  ∃ na nc sa sc, e = .returned (.tuple #[.agg (tokV r.1 na nc sa sc), .int .i64 r.2]) ∧ Ints (New w w') .u8 w' na r.1.nm.length (lf r.1.nm) ∧ Ints (New w w') .i64 w' sa r.1.set.length (lf r.1.set) ∧ Keep (fun _ => False) w w'
abbrev tokZ : Array Value := #[.int .u8 0, .int .i64 0, .slice none 0 0, .slice none 0 0]
structure TkB (w wr : World) (k : Int) (i : Nat) (nv sv : Value) : Prop where
  r : wr.heap[w.heap.size]? = some (.cells tokZ 42)
  v : wr.heap[w.heap.size + 1]? = some (.cells #[.int .u8 k, .int .i64 i, nv, sv] 42)
  bel : Below w.heap.size w wr
theorem TkB.start (w : World) (i : Nat) : TkB w ((w.alloc (.cells tokZ 42)).alloc (.cells #[.int .u8 0, .int .i64 i, .slice none 0 0, .slice none 0 0] 42)) 0 i (.slice none 0 0) (.slice none 0 0) :=
  ⟨blk_old (blk_new w _ _ rfl) _, blk_new _ _ _ (by simp), bel2 w _ _⟩
theorem TkB.keep {w wr wr' : World} {k : Int} {i : Nat} {nv sv : Value} {C : Nat → Prop} (h : TkB w wr k i nv sv) (t : Keep C wr wr') (hC : ∀ b, C b → w.heap.size + 2 ≤ b) : TkB w wr' k i nv sv := by
  have l1 := (Array.getElem?_eq_some_iff.1 h.v).1
  refine ⟨(t.block _ (by omega) (fun q => by have := hC _ q; omega)).trans h.r, (t.block _ l1 (fun q => by have := hC _ q; omega)).trans h.v, ?_⟩
  exact h.bel.trans (t.below (by omega) (fun b hb q => by have := hC _ q; omega))
theorem blk_set {w : World} {b j : Nat} {c : Array Value} {t : TypeId} (v : Value) (h : w.heap[b]? = some (.cells c t)) : (w.setCell ⟨b, j, none⟩ v).heap[b]? = some (.cells (c.setIfInBounds j v) t) := by
  simp only [World.setCell, Array.getElem?_modify, h, if_true, Option.map_some]
  rfl
theorem TkB.name {w wr : World} {k : Int} {i : Nat} {nv sv : Value} (h : TkB w wr k i nv sv) (v : Value) : TkB w (wr.setCell ⟨w.heap.size + 1, 2, none⟩ v) k i v sv :=
  ⟨(Below.heap_setCell _ _ _ _ (by simp)).trans h.r, blk_set v h.v, h.bel.setCell (by simp) _⟩
theorem nm_app {w wr W4 : World} {i : Nat} {nv sv v4 : Value} {z : List Int} {x : Int} (hB : TkB w wr 0 i nv sv) (hown : OwnC (fun b => (w.heap.size + 2 ≤ b ∧ b < wr.heap.size) ∨ (wr.drew.alloc (.cells #[.int .u8 x] 5)).heap.size ≤ b) W4 v4 1 (z.length + 1) (intVs .u8 (lf z) z.length ++ [.int .u8 x]))
    (hg : Grew (fun b => w.heap.size + 2 ≤ b ∧ b < wr.heap.size) (wr.drew.alloc (.cells #[.int .u8 x] 5)) W4) : TkB w W4 0 i nv sv ∧ TkB w (W4.setCell ⟨w.heap.size + 1, 2, none⟩ v4) 0 i v4 sv ∧ OwnC (fun b => w.heap.size + 2 ≤ b ∧ b < (W4.setCell ⟨w.heap.size + 1, 2, none⟩ v4).heap.size) (W4.setCell ⟨w.heap.size + 1, 2, none⟩ v4) v4 1 (z ++ [x]).length (intVs .u8 (lf (z ++ [x])) (z ++ [x]).length) := by
  have l1 := (Array.getElem?_eq_some_iff.1 hB.v).1
  have h1 : TkB w (wr.drew.alloc (.cells #[.int .u8 x] 5)) 0 i nv sv := hB.keep ((Keep.drew (fun _ => False) wr).trans (Keep.alloc _ _ _)) (fun b q => q.elim)
  have h2 : TkB w W4 0 i nv sv := h1.keep hg.kept (fun b q => q.1)
  refine ⟨h2, h2.name v4, ?_⟩
  rw [intVs_snoc] at hown
  rw [show (z ++ [x]).length = z.length + 1 by simp]
  have hsz : (wr.drew.alloc (.cells #[.int .u8 x] 5)).heap.size = wr.heap.size + 1 := by simp
  rcases hown with ⟨_, q, _⟩ | ⟨b, cap, e, hq, h3, h4, h5, h6⟩
  · omega
  have hb2 : w.heap.size + 2 ≤ b := by
    rcases hq with q | q
    · exact q.1
    · omega
  have hl : 0 < (intVs .u8 (lf (z ++ [x])) (z.length + 1)).length := by rw [intVs_len]; omega
  have hlt : b < W4.heap.size := by
    have h := h5 0 hl
    rw [List.getElem?_eq_getElem hl] at h
    exact lt_of_cell h
  have hst : (W4.setCell ⟨w.heap.size + 1, 2, none⟩ v4).heap[b]? = W4.heap[b]? := Below.heap_setCell _ _ _ _ (by show b ≠ w.heap.size + 1; omega)
  exact .inr ⟨b, cap, e, ⟨hb2, by rw [size_set]; exact hlt⟩, h3, h4, fun j hj => (World.cell?_of_block (a := ⟨b, j, none⟩) hst).trans (h5 j hj), h6.later hst⟩
abbrev Two (w : World) : Nat → Prop := fun b => w.heap.size ≤ b ∧ b < w.heap.size + 2
theorem TkB.fin {w wr W' : World} {k : Int} {i : Nat} {nv sv : Value} (h : TkB w wr k i nv sv) (hk : Keep (Two w) wr W') : Keep (fun _ => False) w W' := by
  have l1 := (Array.getElem?_eq_some_iff.1 h.v).1
  exact Below.kept (h.bel.trans (hk.below (by omega) (fun b hb q => by have := q.1; omega)))
theorem ints_fin {w wr W' : World} {k : IntKind} {a : Option Addr} {n : Nat} {S : Nat → Int} (hk : Keep (Two w) wr W') (h : Ints (fun b => w.heap.size + 2 ≤ b ∧ b < wr.heap.size) k wr a n S) : Ints (New w W') k W' a n S :=
  (h.on (fun b hb => hk.block b hb.2 (fun q => by have := q.2; omega))).wide (fun b hb => ⟨by omega, by have := hk.size; omega⟩)
theorem set_two {w W W' : World} (h : Keep (Two w) W W') (o : Nat) (v : Value) : Keep (Two w) W (W'.setCell ⟨w.heap.size, o, none⟩ v) := h.trans (Keep.setCell _ _ _ ⟨Nat.le_refl _, by simp⟩)
theorem set_two' {w W W' : World} (h : Keep (Two w) W W') (o : Nat) (v : Value) : Keep (Two w) W (W'.setCell ⟨w.heap.size + 1, o, none⟩ v) := h.trans (Keep.setCell _ _ _ ⟨by simp, by simp⟩)
def NmI (t : Tx) (i : Nat) (r : List Int × Nat) (w : World) (u : Value) (wr : World) : Prop :=
  ∃ (f j : Nat) (z : List Int) (v : Value), j ≤ t.n ∧ t.n - j ≤ f ∧ z.length ≤ j ∧ u = .int .i64 j ∧ nameF t f j z = r ∧ TkB w wr 0 i v (.slice none 0 0) ∧ OwnC (fun b => w.heap.size + 2 ≤ b ∧ b < wr.heap.size) wr v 1 z.length (intVs .u8 (lf z) z.length)
theorem name_step (t : Tx) {f j : Nat} {z : List Int} (hf : t.n - j ≤ f) : nameF t f j z = if j < t.n ∧ nameC (t.T j) then nameF t (f - 1) (j + 1) (z ++ [t.T j]) else (z, j) := by
  cases f with
  | zero => rw [nameF, if_neg (fun q => by omega)]
  | succ f => rw [nameF]; rfl
theorem strF_lt (t : Tx) : ∀ (f j : Nat) (z : List Int) (r : List Int × Nat), j ≤ t.n → strF t f j z = some r → j < r.2 ∧ r.2 ≤ t.n
  | 0, j, z, r, hj, h => by cases h
  | f + 1, j, z, r, hj, h => by
    rw [strF] at h
    split at h
    · rename_i q
      injection h with h
      subst h
      exact ⟨Nat.lt_succ_self _, q.1⟩
    · split at h
      · cases h
      · have := chr_rng t j false hj
        have := strF_lt t f _ _ r (by omega) h
        omega
theorem strT_lt {t : Tx} {i : Nat} {r : List Int × Nat} (hi : i < t.n) (h : strT t i = some r) : i + 1 < r.2 ∧ r.2 ≤ t.n := strF_lt t _ _ _ r hi h
theorem clsF_lt (t : Tx) : ∀ (f j : Nat) (m : Nat → Bool) (r : (Nat → Bool) × Nat), j ≤ t.n → clsF t f j m = some r → j ≤ r.2 ∧ r.2 < t.n
  | 0, j, m, r, hj, h => by cases h
  | f + 1, j, m, r, hj, h => by
    have h1 := chr_rng t j true hj
    rw [clsF] at h
    split at h
    · rename_i q
      injection h with h
      subst h
      exact ⟨Nat.le_refl _, q.1⟩
    · split at h
      · cases h
      · split at h
        · rename_i q
          have h2 := chr_rng t (j + (chr t j true).2 + 1) true (by omega)
          split at h
          · cases h
          · have := clsF_lt t f _ _ r (by omega) h
            omega
        · have := clsF_lt t f _ _ r (by omega) h
          omega
theorem clsT_lt {t : Tx} {i : Nat} {r : List Int × Nat} (hi : i < t.n) (h : clsT t i = some r) : i + 1 < r.2 ∧ r.2 ≤ t.n := by
  unfold clsT at h
  have hb : i + 1 ≤ begC t i ∧ begC t i ≤ t.n := by
    unfold begC
    split
    · rename_i q
      have := of_decide_eq_true q
      omega
    · omega
  cases hc : clsF t (t.n + 2 - i) (begC t i) (fun _ => false) with
  | none => rw [hc] at h; cases h
  | some q =>
    obtain ⟨m, j⟩ := q
    rw [hc, clsR] at h
    injection h with h
    subst h
    have := clsF_lt t _ _ _ _ hb.2 hc
    simp only at this ⊢
    omega
theorem TkB.kind {w wr : World} {k : Int} {i : Nat} {nv sv : Value} (h : TkB w wr k i nv sv) (k' : Int) : TkB w (wr.setCell ⟨w.heap.size + 1, 0, none⟩ (.int .u8 k')) k' i nv sv :=
  ⟨(Below.heap_setCell _ _ _ _ (by simp)).trans h.r, blk_set _ h.v, h.bel.setCell (by simp) _⟩
theorem TkB.cset {w wr : World} {k : Int} {i : Nat} {nv sv : Value} (h : TkB w wr k i nv sv) (v : Value) : TkB w (wr.setCell ⟨w.heap.size + 1, 3, none⟩ v) k i nv v :=
  ⟨(Below.heap_setCell _ _ _ _ (by simp)).trans h.r, blk_set _ h.v, h.bel.setCell (by simp) _⟩
theorem set_two2 {w W : World} {b o o' : Nat} {v v' : Value} (h : w.heap.size + 2 ≤ b) : ((W.setCell ⟨w.heap.size + 1, o, none⟩ v).setCell ⟨w.heap.size + 1, o', none⟩ v').heap[b]? = W.heap[b]? :=
  (Below.heap_setCell _ _ _ _ (by show b ≠ w.heap.size + 1; omega)).trans (Below.heap_setCell _ _ _ _ (by show b ≠ w.heap.size + 1; omega))
def kd (x : Int) (k : Nat) : Int := if x ∈ oneS.take k then x else 0
theorem kd_hit {x c : Int} {k : Nat} (h : oneS.take (k + 1) = oneS.take k ++ [c]) (e : c = x) : kd x (k + 1) = x := by
  unfold kd
  rw [h, if_pos (by simp [e])]
theorem kd_miss {x c : Int} {k : Nat} (h : oneS.take (k + 1) = oneS.take k ++ [c]) (e : ¬ c = x) : kd x (k + 1) = kd x k := by
  unfold kd
  rw [h]
  have : (x ∈ oneS.take k ++ [c]) ↔ x ∈ oneS.take k := by
    rw [List.mem_append, List.mem_singleton]
    exact ⟨fun q => q.elim id (fun q => absurd q.symm e), .inl⟩
  simp only [this]
theorem kd_all (x : Int) : kd x 11 = if x ∈ oneS then x else 0 := rfl
theorem next_fin {w wr : World} {k : Tok} {j : Nat} {na sa : Option Addr} {nc sc : Nat} (h : TkB w wr k.kind k.at_ (.slice na k.nm.length nc) (.slice sa k.set.length sc)) (h1 : Ints (fun b => w.heap.size + 2 ≤ b ∧ b < wr.heap.size) .u8 wr na k.nm.length (lf k.nm)) (h2 : Ints (fun b => w.heap.size + 2 ≤ b ∧ b < wr.heap.size) .i64 wr sa k.set.length (lf k.set)) :
    NextIs (k, j) w (.returned (.tuple #[.agg (tokV k na nc sa sc), .int .i64 j])) ((((wr.setCell ⟨w.heap.size, 0, none⟩ (.int .u8 k.kind)).setCell ⟨w.heap.size, 1, none⟩ (.int .i64 k.at_)).setCell ⟨w.heap.size, 2, none⟩ (.slice na k.nm.length nc)).setCell ⟨w.heap.size, 3, none⟩ (.slice sa k.set.length sc)) := by
  have hk := set_two (set_two (set_two (set_two (Keep.refl (Two w) wr) 0 (.int .u8 k.kind)) 1 (.int .i64 k.at_)) 2 (.slice na k.nm.length nc)) 3 (.slice sa k.set.length sc)
  exact ⟨na, nc, sa, sc, rfl, ints_fin hk h1, ints_fin hk h2, h.fin hk⟩
set_option maxHeartbeats 400000 in
set_option maxRecDepth 100000 in
theorem l2next_any (Q : Nat → Prop) (t : Tx) (a : Option Addr) (c i : Nat) (w : World) (hT : TxA Q w a t) (hi : i < t.n) :
    Calls Tryz.prog 31 #[.slice a t.n c, .int .i64 i] w (NextIs (nxtT t i) w) := by
  have hle := t.le
  have hi' : (i : Int) < t.n := by omega
  obtain ⟨b, off, rfl, hq, hcell⟩ := hT.at hi
  have k0 := hcell i hi
  have lb : b < w.heap.size := lt_of_cell k0
  have b0 := t.byt i
  have HT : Hid (TxA Q w (some ⟨b, off, none⟩) t) := hT
  clear hcell hT
  unfold nxtT
  by_cases hl : M.Letter (t.T i)
  · obtain ⟨nr, hnr⟩ : ∃ r, nameF t (t.n - i) i [] = r := ⟨_, rfl⟩
    rw [if_pos hl, hnr]
    have HL : Hid (M.Letter (t.T i)) := hl
    clear hl
    go_enter Tryz.func31, Tryz.ntmps31
    go_wp2_with fail
    refine (l2letter_any (t.T i) _ b0.1 b0.2).mono ?_
    rintro e W ⟨⟨r, rfl, hr⟩, hw⟩
    subst W
    obtain rfl : r = true := hr.2 HL.out
    clear hr
    go_wp2_with fail
    have HS := TkB.start w i
    have HS : Hid (TkB w ((w.alloc (.cells tokZ 42)).alloc (.cells #[.int .u8 0, .int .i64 i, .slice none 0 0, .slice none 0 0] 42)) 0 i (.slice none 0 0) (.slice none 0 0)) := HS
    go_loopw [8] (fun u wr => NmI t i nr w u wr) (fun u _ => t.n - (intOf u).toNat)
    case atStart => exact ⟨t.n - i, i, [], _, by omega, Nat.le_refl _, by simp, rfl, hnr, HS.out, .inl ⟨rfl, rfl, rfl⟩⟩
    case round =>
      obtain ⟨f, j, z, v, hj, hf, hz, rfl, hn, hB, hO⟩ := hrel
      clear HS hnr k0
      obtain ⟨va, vc, rfl⟩ := own_shape hO
      have HB : Hid (TkB w wr 0 i (.slice va z.length vc) (.slice none 0 0)) := hB
      have HO : Hid (OwnC (fun b => w.heap.size + 2 ≤ b ∧ b < wr.heap.size) wr (.slice va z.length vc) 1 z.length (intVs .u8 (lf z) z.length)) := hO
      have HTR : Hid (TxA Q wr (some ⟨b, off, none⟩) t) := HT.out.later hB.bel
      obtain ⟨d, hd⟩ : ∃ d, decide (j < t.n ∧ nameC (t.T j)) = d := ⟨_, rfl⟩
      have HD : Hid (decide (j < t.n ∧ nameC (t.T j)) = d) := hd
      have HN : Hid (nameF t f j z = nr) := hn
      clear hB hO hd hn
      go_upto_region 5 with fail
      go_cut [41] from 24 to 52 (fun v wc => v = .bool d ∧ wr = wc)
      case first =>
        by_cases h1 : j < t.n
        · have h1' : (j : Int) < t.n := by omega
          obtain ⟨b', off', e, _, hcell⟩ := HTR.out.at h1
          cases e
          have k1 := hcell j h1
          have b1 := t.byt j
          clear hcell
          by_cases h2 : M.Letter (t.T j)
          · have HL2 : Hid (M.Letter (t.T j)) := h2
            have HD2 : Hid (d = true) := by show d = true; rw [← HD.out]; simp [h1, nameC, h2]
            clear h2
            go_wp2_with (go_at_call 51; refine (l2letter_any (t.T j) _ b1.1 b1.2).mono ?_; rintro e W ⟨⟨r, rfl, hr⟩, hw⟩; subst W; obtain rfl : r = true := hr.2 HL2.out; clear hr)
            go_meet
            case rel => exact ⟨by rw [HD2.out], rfl⟩
          · have HL2 : Hid (¬ M.Letter (t.T j)) := h2
            by_cases h3 : M.Digit (t.T j)
            · have HL3 : Hid (M.Digit (t.T j)) := h3
              have HD2 : Hid (d = true) := by show d = true; rw [← HD.out]; simp [h1, nameC, h3]
              clear h2 h3
              go_wp2_with (first | (go_at_call 51; refine (l2letter_any (t.T j) _ b1.1 b1.2).mono ?_; rintro e W ⟨⟨r, rfl, hr⟩, hw⟩; subst W; obtain rfl : r = false := by { cases r; rfl; exact absurd (hr.1 rfl) HL2.out }; clear hr) | (go_at_call 52; refine (l2digit_any (t.T j) _ b1.1 b1.2).mono ?_; rintro e W ⟨⟨r, rfl, hr⟩, hw⟩; subst W; obtain rfl : r = true := hr.2 HL3.out; clear hr))
              go_meet
              case rel => exact ⟨by rw [HD2.out], rfl⟩
            · have HL3 : Hid (¬ M.Digit (t.T j)) := h3
              have HD2 : Hid (d = false) := by show d = false; rw [← HD.out]; simp [h1, nameC, h2, h3]
              clear h2 h3
              go_wp2_with (first | (go_at_call 51; refine (l2letter_any (t.T j) _ b1.1 b1.2).mono ?_; rintro e W ⟨⟨r, rfl, hr⟩, hw⟩; subst W; obtain rfl : r = false := by { cases r; rfl; exact absurd (hr.1 rfl) HL2.out }; clear hr) | (go_at_call 52; refine (l2digit_any (t.T j) _ b1.1 b1.2).mono ?_; rintro e W ⟨⟨r, rfl, hr⟩, hw⟩; subst W; obtain rfl : r = false := by { cases r; rfl; exact absurd (hr.1 rfl) HL3.out }; clear hr))
              go_meet
              case rel => exact ⟨by rw [HD2.out], rfl⟩
        · have h1' : ¬ (j : Int) < t.n := by omega
          have HD2 : Hid (d = false) := by show d = false; rw [← HD.out]; simp [h1]
          go_wp2
          go_meet
          case rel => exact ⟨by rw [HD2.out], rfl⟩
      case rest =>
        obtain ⟨rfl, rfl⟩ := hcut
        have c2 : wr.cell? ⟨w.heap.size + 1, 2, none⟩ = some (.slice va z.length vc) := blk_cell HB.out.v rfl
        have f2 : wr.frozen? ⟨w.heap.size + 1, 2, none⟩ = false := blk_frz HB.out.v
        have lt1 := lt_of_cell c2
        cases d with
        | true =>
          obtain ⟨h1, h2⟩ := of_decide_eq_true HD.out
          have h1' : (j : Int) < t.n := by omega
          obtain ⟨b', off', e, _, hcell⟩ := HTR.out.at h1
          cases e
          have k1 := hcell j h1
          have b1 := t.byt j
          have HN2 : Hid (nameF t (f - 1) (j + 1) (z ++ [t.T j]) = nr) := by
            have := HN.out
            rw [name_step t hf, if_pos ⟨h1, h2⟩] at this
            exact this
          clear hcell HD h2 HN
          have HOW : Hid (OwnC (fun b => w.heap.size + 2 ≤ b ∧ b < wr.heap.size) (wr.drew.alloc (.cells #[.int .u8 (t.T j)] 5)) (.slice va z.length vc) 1 z.length (intVs .u8 (lf z) z.length)) := HO.out.on (fun b hb => ((Keep.drew (fun _ => False) wr).trans (Keep.alloc _ _ _)).block b hb.2 (fun q => q))
          have HSR : Hid (Src Tryz.prog 1 22 (.slice (some ⟨wr.drew.heap.size, 0, none⟩) 1 1) 1 [.int .u8 (t.T j)] (wr.drew.alloc (.cells #[.int .u8 (t.T j)] 5))) := src_u8 _ _
          have HAP := fun v4 W4 => nm_app (z := z) (x := t.T j) (W4 := W4) (v4 := v4) HB.out
          have HAP : Hid (∀ v4 W4, OwnC (fun b => (w.heap.size + 2 ≤ b ∧ b < wr.heap.size) ∨ (wr.drew.alloc (.cells #[.int .u8 (t.T j)] 5)).heap.size ≤ b) W4 v4 1 (z.length + 1) (intVs .u8 (lf z) z.length ++ [.int .u8 (t.T j)]) → Grew (fun b => w.heap.size + 2 ≤ b ∧ b < wr.heap.size) (wr.drew.alloc (.cells #[.int .u8 (t.T j)] 5)) W4 → TkB w W4 0 i (.slice va z.length vc) (.slice none 0 0) ∧ TkB w (W4.setCell ⟨w.heap.size + 1, 2, none⟩ v4) 0 i v4 (.slice none 0 0) ∧ OwnC (fun b => w.heap.size + 2 ≤ b ∧ b < (W4.setCell ⟨w.heap.size + 1, 2, none⟩ v4).heap.size) (W4.setCell ⟨w.heap.size + 1, 2, none⟩ v4) v4 1 (z ++ [t.T j]).length (intVs .u8 (lf (z ++ [t.T j])) (z ++ [t.T j]).length)) := HAP
          clear HO HB HTR
          generalize t.T j = x at *
          go_upto_region 6 with fail
          go_region_law
            (refine stepE rfl (.tmp 43) (.tmp 48) 22 22 rfl (v := .slice va z.length vc) (y := .slice (some ⟨wr.drew.heap.size, 0, none⟩) 1 1) (by simp [Act.eval, Act.put]) (by simp [Act.eval, Act.put]) elem22 (Q := fun b => w.heap.size + 2 ≤ b ∧ b < wr.heap.size) (n := z.length) (cs := intVs .u8 (lf z) z.length) (m := 1) (news := [.int .u8 x]) HOW.out HSR.out (by omega) ?_
             intro v4 W4 hown4 hgrew4 hsz4
             obtain ⟨a4, c4, rfl⟩ := own_shape hown4
             obtain ⟨q1, q2, q3⟩ := HAP.out _ _ hown4 hgrew4
             have r2 : W4.cell? ⟨w.heap.size + 1, 2, none⟩ = some (.slice va z.length vc) := blk_cell q1.v rfl
             have r3 : W4.frozen? ⟨w.heap.size + 1, 2, none⟩ = false := blk_frz q1.v
             have HE : Hid (NmI t i nr w (.int .i64 ((j + 1 : Nat) : Int)) (W4.setCell ⟨w.heap.size + 1, 2, none⟩ (.slice a4 (z.length + 1) c4))) := ⟨f - 1, j + 1, _, _, h1, by omega, by simp; omega, rfl, HN2.out, q2, q3⟩
             clear hown4 hgrew4 hsz4 q1 q2 q3)
          all_goals go_goals
          all_goals (
            go_wp2
            go_roundw
            all_goals first
              | exact HE.out
              | (simp [intOf]; omega)
              | omega)
        | false =>
          have hno := of_decide_eq_false HD.out
          have HN2 : Hid ((z, j) = nr) := by
            have := HN.out
            rw [name_step t hf, if_neg hno] at this
            exact this
          clear HD hno HN HTR
          have c0 : wr.cell? ⟨w.heap.size + 1, 0, none⟩ = some (.int .u8 0) := blk_cell HB.out.v rfl
          have c1 : wr.cell? ⟨w.heap.size + 1, 1, none⟩ = some (.int .i64 (i : Int)) := blk_cell HB.out.v rfl
          have c3 : wr.cell? ⟨w.heap.size + 1, 3, none⟩ = some (.slice none 0 0) := blk_cell HB.out.v rfl
          have f0 : wr.frozen? ⟨w.heap.size + 1, 0, none⟩ = false := blk_frz HB.out.v
          have d0 : wr.cell? ⟨w.heap.size, 0, none⟩ = some (.int .u8 0) := blk_cell HB.out.r rfl
          have d1 : wr.cell? ⟨w.heap.size, 1, none⟩ = some (.int .i64 0) := blk_cell HB.out.r rfl
          have d2 : wr.cell? ⟨w.heap.size, 2, none⟩ = some (.slice none 0 0) := blk_cell HB.out.r rfl
          have d3 : wr.cell? ⟨w.heap.size, 3, none⟩ = some (.slice none 0 0) := blk_cell HB.out.r rfl
          have e0 : wr.frozen? ⟨w.heap.size, 0, none⟩ = false := blk_frz HB.out.r
          have e1 : wr.frozen? ⟨w.heap.size, 1, none⟩ = false := blk_frz HB.out.r
          have e2 : wr.frozen? ⟨w.heap.size, 2, none⟩ = false := blk_frz HB.out.r
          have e3 : wr.frozen? ⟨w.heap.size, 3, none⟩ = false := blk_frz HB.out.r
          go_wp2
          (try simp only [Exit.inBlock, Exit.then])
          refine bodyPost_ret (v := .tuple #[.agg #[.int .u8 110, .int .i64 i, .slice va z.length vc, .slice none 0 0], .int .i64 j]) ?_ rfl ?_
          · rw [results_cell_tmp rfl]
            go_simp
          · obtain rfl := HN2.out
            have hk := set_two (set_two (set_two (set_two (set_two' (Keep.refl (Two w) wr) 0 (.int .u8 110)) 0 (.int .u8 110)) 1 (.int .i64 i)) 2 (.slice va z.length vc)) 3 (.slice none 0 0)
            exact ⟨va, vc, none, 0, rfl, ints_fin hk (own_lists HO.out), .inl rfl, HB.out.fin hk⟩
  · rw [if_neg hl]
    have HL : Hid (¬ M.Letter (t.T i)) := hl
    clear hl
    have HS : Hid (TkB w ((w.alloc (.cells tokZ 42)).alloc (.cells #[.int .u8 0, .int .i64 i, .slice none 0 0, .slice none 0 0] 42)) 0 i (.slice none 0 0) (.slice none 0 0)) := TkB.start w i
    obtain ⟨R, hR⟩ : ∃ R, (if t.T i = 34 then (match strT t i with | none => ((⟨0, i, [], []⟩ : Tok), i) | some (z, j) => (⟨34, i, z, []⟩, j))
      else if t.T i = 91 then (match clsT t i with | none => (⟨0, i, [], []⟩, i) | some (z, j) => (⟨91, i, [], z⟩, j))
      else if t.T i ∈ oneS then (⟨t.T i, i, [], []⟩, i + 1)
      else (⟨0, i, [], []⟩, i + 1)) = R := ⟨_, rfl⟩
    rw [hR]
    have HR : Hid (_ = R) := hR
    clear hR
    go_enter Tryz.func31, Tryz.ntmps31
    go_wp2_with fail
    refine (l2letter_any (t.T i) _ b0.1 b0.2).mono ?_
    rintro e W ⟨⟨r, rfl, hr⟩, hw⟩
    subst W
    obtain rfl : r = false := by { cases r; rfl; exact absurd (hr.1 rfl) HL.out }
    clear hr k0
    generalize t.T i = x at *
    by_cases x1 : x = 34
    · subst x1
      go_wp2_with fail
      generalize (w.alloc (.cells tokZ 42)).alloc (.cells #[.int .u8 0, .int .i64 i, .slice none 0 0, .slice none 0 0] 42) = W0 at *
      refine (l2string_any Q t (some ⟨b, off, none⟩) c i W0 (HT.out.later HS.out.bel) hi).mono ?_
      intro e W hsc
      obtain ⟨hkp, hsc⟩ := hsc
      have HW : Hid (TkB w W 0 i (.slice none 0 0) (.slice none 0 0)) := HS.out.keep hkp (fun b q => q.elim)
      have HSZ : Hid (w.heap.size + 2 ≤ W0.heap.size) := (Array.getElem?_eq_some_iff.1 HS.out.v).1
      clear hkp HT
      have c0 : W.cell? ⟨w.heap.size + 1, 0, none⟩ = some (.int .u8 0) := blk_cell HW.out.v rfl
      have c1 : W.cell? ⟨w.heap.size + 1, 1, none⟩ = some (.int .i64 (i : Int)) := blk_cell HW.out.v rfl
      have c2 : W.cell? ⟨w.heap.size + 1, 2, none⟩ = some (.slice none 0 0) := blk_cell HW.out.v rfl
      have c3 : W.cell? ⟨w.heap.size + 1, 3, none⟩ = some (.slice none 0 0) := blk_cell HW.out.v rfl
      have f0 : W.frozen? ⟨w.heap.size + 1, 0, none⟩ = false := blk_frz HW.out.v
      have f2 : W.frozen? ⟨w.heap.size + 1, 2, none⟩ = false := blk_frz HW.out.v
      have f3 : W.frozen? ⟨w.heap.size + 1, 3, none⟩ = false := blk_frz HW.out.v
      have d0 : W.cell? ⟨w.heap.size, 0, none⟩ = some (.int .u8 0) := blk_cell HW.out.r rfl
      have d1 : W.cell? ⟨w.heap.size, 1, none⟩ = some (.int .i64 0) := blk_cell HW.out.r rfl
      have d2 : W.cell? ⟨w.heap.size, 2, none⟩ = some (.slice none 0 0) := blk_cell HW.out.r rfl
      have d3 : W.cell? ⟨w.heap.size, 3, none⟩ = some (.slice none 0 0) := blk_cell HW.out.r rfl
      have e0 : W.frozen? ⟨w.heap.size, 0, none⟩ = false := blk_frz HW.out.r
      have e1 : W.frozen? ⟨w.heap.size, 1, none⟩ = false := blk_frz HW.out.r
      have e2 : W.frozen? ⟨w.heap.size, 2, none⟩ = false := blk_frz HW.out.r
      have e3 : W.frozen? ⟨w.heap.size, 3, none⟩ = false := blk_frz HW.out.r
      obtain ⟨sr, hsr⟩ : ∃ r, strT t i = r := ⟨_, rfl⟩
      rw [hsr] at hsc
      have HR2 := HR.out
      rw [if_pos trivial] at HR2
      rw [hsr] at HR2
      cases sr with
      | none =>
        simp only at hsc HR2
        subst hsc
        subst HR2
        clear HR hsr
        go_wp2
        (try simp only [Exit.inBlock, Exit.then])
        refine bodyPost_ret (v := .tuple #[.agg (tokV ⟨0, i, [], []⟩ none 0 none 0), .int .i64 (i : Int)]) ?_ rfl ?_
        · rw [results_cell_tmp rfl]
          unfold tokV
          go_simp
        · exact next_fin (k := ⟨0, i, [], []⟩) (j := i) HW.out (.inl rfl) (.inl rfl)
      | some q =>
        obtain ⟨z, j⟩ := q
        simp only at hsc HR2
        obtain ⟨sa, sc, rfl, hI⟩ := hsc
        subst HR2
        have hlt := strT_lt hi hsr
        simp only at hlt
        have hlt' : (0 : Int) < (j : Int) - i := by omega
        have HI : Hid (Ints (fun b => w.heap.size + 2 ≤ b ∧ b < W.heap.size) .u8 W sa z.length (lf z)) := hI.wide (fun b hb => ⟨by have := hb.1; have := HSZ.out; omega, hb.2⟩)
        clear HR hsr hI
        go_wp2
        (try simp only [Exit.inBlock, Exit.then])
        refine bodyPost_ret (v := .tuple #[.agg (tokV ⟨34, i, z, []⟩ sa sc none 0), .int .i64 (j : Int)]) ?_ rfl ?_
        · rw [results_cell_tmp rfl]
          unfold tokV
          go_simp
          omega
        · have hB := (HW.out.kind 34).name (.slice sa z.length sc)
          exact next_fin (k := ⟨34, i, z, []⟩) (j := j) hB (HI.out.on (fun b hb => (set_two2 hb.1)) |>.wide (fun b hb => ⟨hb.1, by rw [size_set, size_set]; exact hb.2⟩)) (.inl rfl)
    have x1' : (x == 34) = false := by simpa using x1
    by_cases x2 : x = 91
    · subst x2
      go_wp2_with fail
      generalize (w.alloc (.cells tokZ 42)).alloc (.cells #[.int .u8 0, .int .i64 i, .slice none 0 0, .slice none 0 0] 42) = W0 at *
      refine (l2class_any Q t (some ⟨b, off, none⟩) c i W0 (HT.out.later HS.out.bel) hi).mono ?_
      intro e W hsc
      obtain ⟨hkp, hsc⟩ := hsc
      have HW : Hid (TkB w W 0 i (.slice none 0 0) (.slice none 0 0)) := HS.out.keep hkp (fun b q => q.elim)
      have HSZ : Hid (w.heap.size + 2 ≤ W0.heap.size) := (Array.getElem?_eq_some_iff.1 HS.out.v).1
      clear hkp HT
      have c0 : W.cell? ⟨w.heap.size + 1, 0, none⟩ = some (.int .u8 0) := blk_cell HW.out.v rfl
      have c1 : W.cell? ⟨w.heap.size + 1, 1, none⟩ = some (.int .i64 (i : Int)) := blk_cell HW.out.v rfl
      have c2 : W.cell? ⟨w.heap.size + 1, 2, none⟩ = some (.slice none 0 0) := blk_cell HW.out.v rfl
      have c3 : W.cell? ⟨w.heap.size + 1, 3, none⟩ = some (.slice none 0 0) := blk_cell HW.out.v rfl
      have f0 : W.frozen? ⟨w.heap.size + 1, 0, none⟩ = false := blk_frz HW.out.v
      have f2 : W.frozen? ⟨w.heap.size + 1, 2, none⟩ = false := blk_frz HW.out.v
      have f3 : W.frozen? ⟨w.heap.size + 1, 3, none⟩ = false := blk_frz HW.out.v
      have d0 : W.cell? ⟨w.heap.size, 0, none⟩ = some (.int .u8 0) := blk_cell HW.out.r rfl
      have d1 : W.cell? ⟨w.heap.size, 1, none⟩ = some (.int .i64 0) := blk_cell HW.out.r rfl
      have d2 : W.cell? ⟨w.heap.size, 2, none⟩ = some (.slice none 0 0) := blk_cell HW.out.r rfl
      have d3 : W.cell? ⟨w.heap.size, 3, none⟩ = some (.slice none 0 0) := blk_cell HW.out.r rfl
      have e0 : W.frozen? ⟨w.heap.size, 0, none⟩ = false := blk_frz HW.out.r
      have e1 : W.frozen? ⟨w.heap.size, 1, none⟩ = false := blk_frz HW.out.r
      have e2 : W.frozen? ⟨w.heap.size, 2, none⟩ = false := blk_frz HW.out.r
      have e3 : W.frozen? ⟨w.heap.size, 3, none⟩ = false := blk_frz HW.out.r
      obtain ⟨sr, hsr⟩ : ∃ r, clsT t i = r := ⟨_, rfl⟩
      rw [hsr] at hsc
      have HR2 := HR.out
      rw [if_neg (by decide), if_pos trivial] at HR2
      rw [hsr] at HR2
      cases sr with
      | none =>
        simp only at hsc HR2
        subst hsc
        subst HR2
        clear HR hsr
        go_wp2
        (try simp only [Exit.inBlock, Exit.then])
        refine bodyPost_ret (v := .tuple #[.agg (tokV ⟨0, i, [], []⟩ none 0 none 0), .int .i64 (i : Int)]) ?_ rfl ?_
        · rw [results_cell_tmp rfl]
          unfold tokV
          go_simp
        · exact next_fin (k := ⟨0, i, [], []⟩) (j := i) HW.out (.inl rfl) (.inl rfl)
      | some q =>
        obtain ⟨z, j⟩ := q
        simp only at hsc HR2
        obtain ⟨sa, sc, rfl, hI⟩ := hsc
        subst HR2
        have hlt := clsT_lt hi hsr
        simp only at hlt
        have hlt' : (0 : Int) < (j : Int) - i := by omega
        have HI : Hid (Ints (fun b => w.heap.size + 2 ≤ b ∧ b < W.heap.size) .i64 W sa z.length (lf z)) := hI.wide (fun b hb => ⟨by have := hb.1; have := HSZ.out; omega, hb.2⟩)
        clear HR hsr hI
        go_wp2
        (try simp only [Exit.inBlock, Exit.then])
        refine bodyPost_ret (v := .tuple #[.agg (tokV ⟨91, i, [], z⟩ none 0 sa sc), .int .i64 (j : Int)]) ?_ rfl ?_
        · rw [results_cell_tmp rfl]
          unfold tokV
          go_simp
          omega
        · have hB := (HW.out.kind 91).cset (.slice sa z.length sc)
          exact next_fin (k := ⟨91, i, [], z⟩) (j := j) hB (.inl rfl) (HI.out.on (fun b hb => (set_two2 hb.1)) |>.wide (fun b hb => ⟨hb.1, by rw [size_set, size_set]; exact hb.2⟩))
    have x2' : (x == 91) = false := by simpa using x2
    have HR2 : Hid ((⟨kd x 11, i, [], []⟩, i + 1) = R) := by
      have := HR.out
      rw [if_neg x1, if_neg x2] at this
      show _ = R
      rw [← this, kd_all]
      split <;> rfl
    clear HR
    go_wp2_with fail
    go_loopw [14] (fun u wr => ∃ k : Nat, k ≤ 11 ∧ u = .int .i64 k ∧ TkB w wr (kd x k) i (.slice none 0 0) (.slice none 0 0)) (fun u _ => 11 - (intOf u).toNat)
    case atStart => exact ⟨0, by omega, rfl, HS.out⟩
    case round =>
      obtain ⟨k, hk, rfl, hW⟩ := hrel
      have HW : Hid (TkB w wr (kd x k) i (.slice none 0 0) (.slice none 0 0)) := hW
      clear hW HS HT
      have c0 : wr.cell? ⟨w.heap.size + 1, 0, none⟩ = some (.int .u8 (kd x k)) := blk_cell HW.out.v rfl
      have f0 : wr.frozen? ⟨w.heap.size + 1, 0, none⟩ = false := blk_frz HW.out.v
      by_cases hlt : k < 11
      · have htk : oneS.take (k + 1) = oneS.take k ++ [lf oneS k] := by
          rcases (show k = 0 ∨ k = 1 ∨ k = 2 ∨ k = 3 ∨ k = 4 ∨ k = 5 ∨ k = 6 ∨ k = 7 ∨ k = 8 ∨ k = 9 ∨ k = 10 by omega) with rfl | rfl | rfl | rfl | rfl | rfl | rfl | rfl | rfl | rfl | rfl
          all_goals rfl
        have HK : Hid (lf oneS k = x → TkB w (wr.setCell ⟨w.heap.size + 1, 0, none⟩ (.int .u8 x)) (kd x (k + 1)) i (.slice none 0 0) (.slice none 0 0)) := fun q => by
          rw [kd_hit htk q]; exact HW.out.kind x
        have HK' : Hid (¬ lf oneS k = x → TkB w wr (kd x (k + 1)) i (.slice none 0 0) (.slice none 0 0)) := fun q => by
          rw [kd_miss htk q]; exact HW.out
        clear HW htk
        generalize kd x k = kx at c0
        rcases (show k = 0 ∨ k = 1 ∨ k = 2 ∨ k = 3 ∨ k = 4 ∨ k = 5 ∨ k = 6 ∨ k = 7 ∨ k = 8 ∨ k = 9 ∨ k = 10 by omega) with rfl | rfl | rfl | rfl | rfl | rfl | rfl | rfl | rfl | rfl | rfl
        all_goals (
          go_wp2
          all_goals (
            rename_i h
            first
            | exact ⟨⟨_, by decide, rfl, HK.out (eq_of_beq h)⟩, by simp [intOf]⟩
            | exact ⟨⟨_, by decide, rfl, HK'.out (fun q => by subst q; exact absurd h (by decide))⟩, by simp [intOf]⟩))
      · obtain rfl : k = 11 := by omega
        have c1 : wr.cell? ⟨w.heap.size + 1, 1, none⟩ = some (.int .i64 (i : Int)) := blk_cell HW.out.v rfl
        have c2 : wr.cell? ⟨w.heap.size + 1, 2, none⟩ = some (.slice none 0 0) := blk_cell HW.out.v rfl
        have c3 : wr.cell? ⟨w.heap.size + 1, 3, none⟩ = some (.slice none 0 0) := blk_cell HW.out.v rfl
        have d0 : wr.cell? ⟨w.heap.size, 0, none⟩ = some (.int .u8 0) := blk_cell HW.out.r rfl
        have d1 : wr.cell? ⟨w.heap.size, 1, none⟩ = some (.int .i64 0) := blk_cell HW.out.r rfl
        have d2 : wr.cell? ⟨w.heap.size, 2, none⟩ = some (.slice none 0 0) := blk_cell HW.out.r rfl
        have d3 : wr.cell? ⟨w.heap.size, 3, none⟩ = some (.slice none 0 0) := blk_cell HW.out.r rfl
        have e0 : wr.frozen? ⟨w.heap.size, 0, none⟩ = false := blk_frz HW.out.r
        have e1 : wr.frozen? ⟨w.heap.size, 1, none⟩ = false := blk_frz HW.out.r
        have e2 : wr.frozen? ⟨w.heap.size, 2, none⟩ = false := blk_frz HW.out.r
        have e3 : wr.frozen? ⟨w.heap.size, 3, none⟩ = false := blk_frz HW.out.r
        generalize kd x 11 = kx at *
        go_wp2
        (try simp only [Exit.inBlock, Exit.then])
        refine bodyPost_ret (v := .tuple #[.agg (tokV ⟨kx, i, [], []⟩ none 0 none 0), .int .i64 ((i + 1 : Nat) : Int)]) ?_ rfl ?_
        · rw [results_cell_tmp rfl]
          unfold tokV
          go_simp
        · rw [← HR2.out]
          exact next_fin (k := ⟨kx, i, [], []⟩) (j := i + 1) HW.out (.inl rfl) (.inl rfl)
end
end Go.Proofs.YteoddjobpmmgeaaGreat
