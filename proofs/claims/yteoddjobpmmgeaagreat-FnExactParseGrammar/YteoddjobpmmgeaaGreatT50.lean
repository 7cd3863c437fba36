import Derived.Test.YteoddjobpmmgeaaGreatT34
set_option linter.unusedVariables false
set_option linter.unusedSimpArgs false
namespace Go.Proofs.YteoddjobpmmgeaaGreat
section
open Go.RowKit
open M (OpD NodeD Gr)
theorem intVs_set {κ : IntKind} {S : Nat → Int} {n m : Nat} {x : Int} (hm : m < n) : (intVs κ S n).set m (.int κ x) = intVs κ (fun i => if i = m then x else S i) n := by
  refine List.ext_getElem? (fun i => ?_)
  by_cases e : i = m
  · subst e
    rw [List.getElem?_set_self (by rw [intVs_len]; exact hm), intVs_get hm, if_pos rfl]
  · rw [List.getElem?_set_ne (by omega)]
    by_cases hi : i < n
    · rw [intVs_get hi, intVs_get hi, if_neg e]
    · rw [List.getElem?_eq_none (by rw [intVs_len]; omega), List.getElem?_eq_none (by rw [intVs_len]; omega)]
theorem intVs_congr {κ : IntKind} {S T : Nat → Int} {n : Nat} (h : ∀ i, i < n → S i = T i) : intVs κ S n = intVs κ T n := by
  unfold intVs
  exact List.map_congr_left (fun i hi => by rw [h i (List.mem_range.1 hi)])
def mixI (f S : Nat → Int) (m : Nat) : Nat → Int := fun i => if i < m then f i else S i
theorem mix_step {κ : IntKind} {f S : Nat → Int} {n m : Nat} (hm : m < n) : (intVs κ (mixI f S m) n).set m (.int κ (f m)) = intVs κ (mixI f S (m + 1)) n := by
  rw [intVs_set hm]
  refine intVs_congr (fun i hi => ?_)
  unfold mixI
  by_cases e : i = m
  · rw [if_pos e, if_pos (by omega), e]
  · rw [if_neg e]
    by_cases h : i < m
    · rw [if_pos h, if_pos (by omega)]
    · rw [if_neg h, if_neg (by omega)]
def MkIs (κ : IntKind) (f : Nat → Int) (Q : Nat → Prop) (a : Option Addr) (n c : Nat) (k' : Int) (w : World) (e : Ending) (w' : World) : Prop :=
  e = .returned (.int .i64 k') ∧ OwnC Q w' (.slice a n c) 1 n (intVs κ f n) ∧ Keep Q w w'
def mkiI (κ : IntKind) (f S : Nat → Int) (Q : Nat → Prop) (a : Option Addr) (n c : Nat) (k : Int) (w : World) (kv i : Value) (wr : World) : Prop :=
  ∃ m : Nat, m ≤ n ∧ kv = .int .i64 (k + m) ∧ i = .int .i64 (m : Int) ∧ OwnC Q wr (.slice a n c) 1 n (intVs κ (mixI f S m) n) ∧ Keep Q w wr
theorem mki_step {κ : IntKind} {f S : Nat → Int} {Q : Nat → Prop} {a : Option Addr} {n c m : Nat} {w wr : World} (hm : m < n) (h : OwnC Q wr (.slice a n c) 1 n (intVs κ (mixI f S m) n)) (hk : Keep Q w wr) :
    ∃ g, a = some ⟨g, 0, none⟩ ∧ wr.cell? ⟨g, m, none⟩ = some (.int κ (S m)) ∧ wr.frozen? ⟨g, m, none⟩ = false ∧ OwnC Q (wr.setCell ⟨g, m, none⟩ (.int κ (f m))) (.slice (some ⟨g, 0, none⟩) n c) 1 n (intVs κ (mixI f S (m + 1)) n) ∧ Keep Q w (wr.setCell ⟨g, m, none⟩ (.int κ (f m))) := by
  obtain ⟨g, c', e, hq, _, hcell⟩ := h.at_ (by omega)
  injection e with e1 _ e2
  subst e1 e2
  have h1 := hcell m (by rw [intVs_len]; exact hm)
  refine ⟨g, rfl, ?_, h1.2, ?_, hk.trans (Keep.setCell _ _ _ hq)⟩
  · rw [h1.1, intVs_get hm]
    unfold mixI
    rw [if_neg (Nat.lt_irrefl _)]
  · have := OwnC.put h (j := m) (by rw [intVs_len]; exact hm) (.int κ (f m))
    rw [mix_step hm] at this
    exact this
theorem mix_zero {κ : IntKind} {f S : Nat → Int} {n : Nat} : intVs κ (mixI f S 0) n = intVs κ S n := intVs_congr (fun i hi => if_neg (by omega))
theorem mix_all {κ : IntKind} {f S : Nat → Int} {n : Nat} : intVs κ (mixI f S n) n = intVs κ f n := intVs_congr (fun i hi => if_pos hi)
set_option maxHeartbeats 1000000 in
theorem markIntS_own (Q : Nat → Prop) (a : Option Addr) (n c : Nat) (S : Nat → Int) (k : Int) (w : World) (hS : OwnC Q w (.slice a n c) 1 n (intVs .i64 S n)) (hn : n ≤ 1048576) (h0 : 0 ≤ k) (h1 : k ≤ 4611686018427387904 + 1099513724928) :
    Calls Tryz.prog 72 #[.slice a n c, .int .i64 k] w (MkIs .i64 (fun i => k + i) Q a n c (k + n) w) := by
  have HI : Hid (mkiI .i64 (fun i => k + i) S Q a n c k w (.int .i64 k) (.int .i64 0) w) := ⟨0, Nat.zero_le _, by simp, rfl, by rw [mix_zero]; exact hS, Keep.refl _ _⟩
  clear hS
  go_enter Tryz.func72, Tryz.ntmps72
  go_wp2
  go_loopw [1, 5] (mkiI .i64 (fun i => k + i) S Q a n c k w) (fun kv i _ => n - (intOf i).toNat)
  case atStart => exact HI.out
  case round =>
    clear HI
    obtain ⟨m, hm, rfl, rfl, hO, hK⟩ := hrel
    by_cases hlt : m < n
    · obtain ⟨g, rfl, hc, hfz, hO2, hK2⟩ := mki_step hlt hO hK
      have HN : Hid (mkiI .i64 (fun i => k + i) S Q (some ⟨g, 0, none⟩) n c k w (.int .i64 (k + m + 1)) (.int .i64 ((m : Int) + 1)) (wr.setCell ⟨g, m, none⟩ (.int .i64 (k + m)))) := ⟨m + 1, hlt, by congr 1; omega, by congr 1, hO2, hK2⟩
      have hlt' : (m : Int) < (n : Int) := by omega
      clear hO hK hO2 hK2
      go_wp2
      go_roundw
      all_goals first
        | exact HN.out
        | (simp [intOf]; omega)
    · obtain rfl : m = n := by omega
      rw [mix_all] at hO
      have HFI : Hid (MkIs .i64 (fun i => k + i) Q a m c (k + m) w (.returned (.int .i64 (k + m))) wr) := ⟨rfl, hO, hK⟩
      clear hO hK
      go_wp2
      go_ret
      exact HFI.out
set_option maxHeartbeats 1000000 in
theorem markByteS_own (Q : Nat → Prop) (a : Option Addr) (n c : Nat) (S : Nat → Int) (k : Int) (w : World) (hS : OwnC Q w (.slice a n c) 1 n (intVs .u8 S n)) (hn : n ≤ 1048576) (h0 : 0 ≤ k) (h1 : k ≤ 4611686018427387904) :
    Calls Tryz.prog 9 #[.slice a n c, .int .i64 k] w (MkIs .u8 (fun i => IntKind.u8.wrap (k + i)) Q a n c (k + n) w) := by
  have HI : Hid (mkiI .u8 (fun i => IntKind.u8.wrap (k + i)) S Q a n c k w (.int .i64 k) (.int .i64 0) w) := ⟨0, Nat.zero_le _, by simp, rfl, by rw [mix_zero]; exact hS, Keep.refl _ _⟩
  clear hS
  go_enter Tryz.func9, Tryz.ntmps9
  go_wp2
  go_loopw [1, 5] (mkiI .u8 (fun i => IntKind.u8.wrap (k + i)) S Q a n c k w) (fun kv i _ => n - (intOf i).toNat)
  case atStart => exact HI.out
  case round =>
    clear HI
    obtain ⟨m, hm, rfl, rfl, hO, hK⟩ := hrel
    by_cases hlt : m < n
    · obtain ⟨g, rfl, hc, hfz, hO2, hK2⟩ := mki_step hlt hO hK
      have HN : Hid (mkiI .u8 (fun i => IntKind.u8.wrap (k + i)) S Q (some ⟨g, 0, none⟩) n c k w (.int .i64 (k + m + 1)) (.int .i64 ((m : Int) + 1)) (wr.setCell ⟨g, m, none⟩ (.int .u8 (IntKind.u8.wrap (k + m))))) := ⟨m + 1, hlt, by congr 1; omega, by congr 1, hO2, hK2⟩
      obtain ⟨v8, e8⟩ : ∃ v8, IntKind.u8.wrap (k + m) = v8 := ⟨_, rfl⟩
      rw [e8] at HN
      have hlt' : (m : Int) < (n : Int) := by omega
      clear hO hK hO2 hK2
      go_wp2
      go_roundw
      all_goals first
        | exact HN.out
        | (simp [intOf]; omega)
    · obtain rfl : m = n := by omega
      rw [mix_all] at hO
      have HFI : Hid (MkIs .u8 (fun i => IntKind.u8.wrap (k + i)) Q a m c (k + m) w (.returned (.int .i64 (k + m))) wr) := ⟨rfl, hO, hK⟩
      clear hO hK
      go_wp2
      go_ret
      exact HFI.out
end
section
open Go.RowKit
open M (OpD NodeD Gr)
def cntO (d : OpD) : Nat := d.sl + 2
def mkdO (k : Int) (d : OpD) : OpD := ⟨k, d.sl, fun i => k + 1 + i, k + 1 + d.sl⟩
def mkX (k : Int) (x : OC) : OC := ⟨mkdO k x.d, x.a, x.c⟩
def cntL : List OC → Nat
  | [] => 0
  | x :: r => cntO x.d + cntL r
def mkL : Int → List OC → List OC
  | _, [] => []
  | k, x :: r => mkX k x :: mkL (k + cntO x.d) r
theorem mkL_len : ∀ (k : Int) (l : List OC), (mkL k l).length = l.length
  | _, [] => rfl
  | k, x :: r => by rw [mkL, List.length_cons, List.length_cons, mkL_len]
theorem cntL_snoc : ∀ (l : List OC) (x : OC), cntL (l ++ [x]) = cntL l + cntO x.d
  | [], x => by simp [cntL]
  | y :: r, x => by rw [List.cons_append, cntL, cntL, cntL_snoc r x]; omega
theorem mkL_snoc : ∀ (l : List OC) (k : Int) (x : OC), mkL k (l ++ [x]) = mkL k l ++ [mkX (k + cntL l) x]
  | [], k, x => by simp [mkL, cntL]
  | y :: r, k, x => by
    rw [List.cons_append, mkL, mkL, mkL_snoc r _ x, List.cons_append, cntL]
    have e : k + ((cntO y.d + cntL r : Nat) : Int) = k + (cntO y.d : Int) + (cntL r : Int) := by omega
    rw [e]
def mixL (k : Int) (l : List OC) (m : Nat) : List OC := mkL k (l.take m) ++ l.drop m
theorem mixL_at {k : Int} {l : List OC} {m : Nat} {x : OC} (h : l[m]? = some x) : (mixL k l m)[m]? = some x ∧ (mixL k l m).set m (mkX (k + cntL (l.take m)) x) = mixL k l (m + 1) := by
  obtain ⟨hm, e⟩ := List.getElem?_eq_some_iff.1 h
  have hl : (mkL k (l.take m)).length = m := by rw [mkL_len, List.length_take]; omega
  have hd : l.drop m = x :: l.drop (m + 1) := by rw [List.drop_eq_getElem_cons hm, e]
  have ht : l.take (m + 1) = l.take m ++ [x] := by rw [List.take_add_one, h]; rfl
  unfold mixL
  refine ⟨?_, ?_⟩
  · rw [List.getElem?_append_right (by omega), hl, Nat.sub_self, hd]
    rfl
  · rw [List.set_append_right _ _ (by omega), hl, Nat.sub_self, hd, ht, mkL_snoc, List.append_assoc]
    rfl
theorem mixL_len (k : Int) (l : List OC) {m : Nat} (hm : m ≤ l.length) : (mixL k l m).length = l.length := by
  unfold mixL
  rw [List.length_append, mkL_len, List.length_take, List.length_drop]
  omega
theorem cntL_take (l : List OC) (N : Nat) (hN : ∀ x ∈ l, x.d.sl ≤ N) : ∀ m, cntL (l.take m) ≤ m * (N + 2) := by
  intro m
  induction m with
  | zero => simp [cntL]
  | succ m ih =>
    cases h : l[m]? with
    | none =>
      have : l.take (m + 1) = l.take m := by rw [List.take_add_one, h]; simp
      rw [this, Nat.succ_mul]
      omega
    | some x =>
      have ht : l.take (m + 1) = l.take m ++ [x] := by rw [List.take_add_one, h]; rfl
      have := hN x (List.mem_of_getElem? h)
      rw [ht, cntL_snoc, Nat.succ_mul]
      unfold cntO
      omega
theorem flat_cells {l : List OC} {i : Nat} {x y : OC} (hx : l[i]? = some x) (hy : y.a = x.a ∧ y.c = x.c ∧ y.d.sl = x.d.sl) : ((cellsO l).set (i * 3) (.int .i64 y.d.kind)).set (i * 3 + 2) (.int .i64 y.d.arg) = cellsO (l.set i y) := by
  have h1 := flat_set ocv 3 ocv_len l i 0 x ⟨⟨y.d.kind, x.d.sl, y.d.set, x.d.arg⟩, x.a, x.c⟩ (.int .i64 y.d.kind) hx (by omega) rfl
  have hi := (List.getElem?_eq_some_iff.1 hx).1
  have h2 := flat_set ocv 3 ocv_len (l.set i ⟨⟨y.d.kind, x.d.sl, y.d.set, x.d.arg⟩, x.a, x.c⟩) i 2 ⟨⟨y.d.kind, x.d.sl, y.d.set, x.d.arg⟩, x.a, x.c⟩ y (.int .i64 y.d.arg) (List.getElem?_set_self hi) (by omega) (by
    unfold ocv
    rw [hy.1, hy.2.1, hy.2.2]
    rfl)
  unfold cellsO
  rw [Nat.add_zero] at h1
  rw [h1, h2, List.set_set]
theorem Bod.mark {P : Nat → Prop} {L : Nat → Nat} {w W2 : World} {a : Option Addr} {n c : Nat} {l : List OC} {i : Nat} {x : OC} {k : Int} (h : Bod P L w (.slice a n c) l) (hP : ∀ b, P b → b < w.heap.size) (hx : l[i]? = some x) :
    ∃ g, a = some ⟨g, 0, none⟩ ∧ n = l.length ∧ P g ∧ L g = 0 ∧ w.cell? ⟨g, i * 3, none⟩ = some (.int .i64 x.d.kind) ∧ w.cell? ⟨g, i * 3 + 1, none⟩ = some (.slice x.a x.d.sl x.c) ∧ w.cell? ⟨g, i * 3 + 2, none⟩ = some (.int .i64 x.d.arg) ∧ w.frozen? ⟨g, i * 3, none⟩ = false ∧ w.frozen? ⟨g, i * 3 + 2, none⟩ = false ∧
      OwnC (fun b => P b ∧ L b = i + 1) (w.setCell ⟨g, i * 3, none⟩ (.int .i64 k)) (.slice x.a x.d.sl x.c) 1 x.d.sl (intVs .i64 x.d.set x.d.sl) ∧
      (MkIs .i64 (fun j => k + 1 + j) (fun b => P b ∧ L b = i + 1) x.a x.d.sl x.c (k + 1 + x.d.sl) (w.setCell ⟨g, i * 3, none⟩ (.int .i64 k)) (.returned (.int .i64 (k + 1 + x.d.sl))) W2 →
        W2.cell? ⟨g, i * 3 + 2, none⟩ = some (.int .i64 x.d.arg) ∧ W2.frozen? ⟨g, i * 3 + 2, none⟩ = false ∧ Bod P L (W2.setCell ⟨g, i * 3 + 2, none⟩ (.int .i64 (k + 1 + x.d.sl))) (.slice a n c) (l.set i (mkX k x)) ∧ Keep P w (W2.setCell ⟨g, i * 3 + 2, none⟩ (.int .i64 (k + 1 + x.d.sl)))) := by
  have hi := (List.getElem?_eq_some_iff.1 hx).1
  obtain ⟨g, c', e, hq, _, hcell⟩ := h.own.at_ (by omega)
  injection e with e1 e2 e3
  subst e1 e2 e3
  have f0 := flat_get ocv 3 ocv_len l i 0 x hx (by omega)
  have f1 := flat_get ocv 3 ocv_len l i 1 x hx (by omega)
  have f2 := flat_get ocv 3 ocv_len l i 2 x hx (by omega)
  have hlen := cellsO_len l
  have h0 := hcell (i * 3) (by omega)
  have h1 := hcell (i * 3 + 1) (by omega)
  have h2 := hcell (i * 3 + 2) (by omega)
  have st : ∀ (W : World) (o : Nat) (u : Value) (b : Nat), L b ≠ 0 → (W.setCell ⟨g, o, none⟩ u).heap[b]? = W.heap[b]? := fun W o u b hb => Below.heap_setCell _ _ _ _ (fun e => hb (by have e' : b = g := e; rw [e']; exact hq.2))
  refine ⟨g, rfl, rfl, hq.1, hq.2, h0.1.trans f0, h1.1.trans f1, h2.1.trans f2, h0.2, h2.2, (h.sets i x hx).on (fun b hb => st _ _ _ b (by have := hb.2; omega)), fun hM => ?_⟩
  obtain ⟨_, hO, hK⟩ := hM
  have hg2 : W2.heap[g]? = (w.setCell ⟨g, i * 3, none⟩ (.int .i64 k)).heap[g]? := hK.block g (by rw [size_set]; exact lt_of_cell (h0.1.trans f0)) (fun q => by have := q.2; rw [hq.2] at this; omega)
  have own1 := OwnC.put h.own (j := i * 3) (by omega) (.int .i64 k)
  have own2 : OwnC (fun b => P b ∧ L b = 0) W2 (.slice (some ⟨g, 0, none⟩) l.length c) 3 l.length ((cellsO l).set (i * 3) (.int .i64 k)) := by
    refine own1.on (fun b hb => hK.block b ?_ (fun q => by have := q.2; rw [hb.2] at this; omega))
    rw [size_set]
    exact hP b hb.1
  have own3 := OwnC.put own2 (j := i * 3 + 2) (by rw [List.length_set]; omega) (.int .i64 (k + 1 + x.d.sl))
  have hfc := flat_cells (y := mkX k x) hx ⟨rfl, rfl, rfl⟩
  have hfc : ((cellsO l).set (i * 3) (.int .i64 k)).set (i * 3 + 2) (.int .i64 (k + 1 + x.d.sl)) = cellsO (l.set i (mkX k x)) := hfc
  rw [hfc] at own3
  have hc2 : W2.cell? ⟨g, i * 3 + 2, none⟩ = some (.int .i64 x.d.arg) := by
    rw [World.cell?_of_block (a := ⟨g, i * 3 + 2, none⟩) hg2, cell_set_other (by omega)]
    exact h2.1.trans f2
  have hf2 : W2.frozen? ⟨g, i * 3 + 2, none⟩ = false := by
    rw [World.frozen?_of_block (a := ⟨g, i * 3 + 2, none⟩) hg2, World.frozen?_setCell]
    exact h2.2
  refine ⟨hc2, hf2, ⟨by rw [List.length_set]; exact own3, fun j y hy => ?_⟩, ?_⟩
  · rcases getElem?_set' hx hy with ⟨rfl, rfl⟩ | ⟨hne, q⟩
    · exact hO.on (fun b hb => st _ _ _ b (by have := hb.2; omega))
    · refine (((h.sets j y q).on (w' := w.setCell ⟨g, i * 3, none⟩ (.int .i64 k)) (fun b hb => st _ _ _ b (by have := hb.2; omega))).on (w' := W2) (fun b hb => hK.block b ?_ (fun z => by have := z.2; rw [hb.2] at this; omega))).on (fun b hb => st _ _ _ b (by have := hb.2; omega))
      rw [size_set]
      exact hP b hb.1
  · refine ((Keep.setCell (C := P) _ _ _ hq.1).trans (hK.mono (fun b q => q.1))).trans (Keep.setCell _ _ _ hq.1)
def MoIs (P : Nat → Prop) (L : Nat → Nat) (a : Option Addr) (n c : Nat) (l : List OC) (k : Int) (w : World) (e : Ending) (w' : World) : Prop :=
  e = .returned (.int .i64 (k + cntL l)) ∧ Bod P L w' (.slice a n c) (mkL k l) ∧ Keep P w w'
def moI (P : Nat → Prop) (L : Nat → Nat) (a : Option Addr) (n c : Nat) (l : List OC) (k : Int) (w : World) (kv i : Value) (wr : World) : Prop :=
  ∃ m : Nat, m ≤ l.length ∧ kv = .int .i64 (k + cntL (l.take m)) ∧ i = .int .i64 (m : Int) ∧ Bod P L wr (.slice a n c) (mixL k l m) ∧ Keep P w wr ∧ w.heap.size ≤ wr.heap.size
set_option maxHeartbeats 1000000 in
theorem markOpS_own (P : Nat → Prop) (L : Nat → Nat) (a : Option Addr) (n c : Nat) (l : List OC) (k : Int) (w : World) (h : Bod P L w (.slice a n c) l) (hP : ∀ b, P b → b < w.heap.size) (hn : n = l.length) (hl : l.length ≤ 1048576) (hs : ∀ x ∈ l, x.d.sl ≤ 1048576) (h0 : 0 ≤ k) (h1 : k ≤ 4611686018427387904) :
    Calls Tryz.prog 48 #[.slice a n c, .int .i64 k] w (MoIs P L a n c l k w) := by
  have HI : Hid (moI P L a n c l k w (.int .i64 k) (.int .i64 0) w) := ⟨0, Nat.zero_le _, by simp [cntL], rfl, h, Keep.refl _ _, Nat.le_refl _⟩
  have HP : Hid (∀ b, P b → b < w.heap.size) := hP
  have HN : Hid (n = l.length) := hn
  have HS : Hid (∀ x ∈ l, x.d.sl ≤ 1048576) := hs
  have HC : Hid (∀ m, cntL (l.take m) ≤ m * 1048578) := cntL_take l 1048576 hs
  have hnl : n ≤ 1048576 := by omega
  clear h hP hn hs
  go_enter Tryz.func48, Tryz.ntmps48
  go_wp2
  go_loopw [1, 5] (moI P L a n c l k w) (fun kv i _ => n - (intOf i).toNat)
  case atStart => exact HI.out
  case round =>
    clear HI
    obtain ⟨m, hm, rfl, rfl, hB, hK, hz⟩ := hrel
    by_cases hlt : m < n
    · obtain ⟨x, hx⟩ : ∃ x, l[m]? = some x := ⟨_, List.getElem?_eq_getElem (by have := HN.out; omega)⟩
      obtain ⟨hxm, hset⟩ := mixL_at (k := k) hx
      have HML : Hid ((mixL k l m).length = l.length) := mixL_len k l hm
      have HMM : Hid (m + 1 ≤ l.length) := by
        have := HN.out
        have h : m + 1 ≤ l.length := by omega
        exact h
      have hsl : x.d.sl ≤ 1048576 := HS.out x (List.mem_of_getElem? hx)
      have hcm := HC.out m
      have hP' : ∀ b, P b → b < wr.heap.size := fun b q => Nat.lt_of_lt_of_le (HP.out b q) hz
      have HMK := fun W2 => hB.mark (W2 := W2) (k := k + cntL (l.take m)) hP' hxm
      obtain ⟨g, rfl, hnm, hPg, hLg, c0, c1, c2, f0, f2, hO, hlast⟩ := HMK w
      have HMK2 : Hid (∀ W2, MkIs .i64 (fun j => k + cntL (l.take m) + 1 + j) (fun b => P b ∧ L b = m + 1) x.a x.d.sl x.c (k + cntL (l.take m) + 1 + x.d.sl) (wr.setCell ⟨g, m * 3, none⟩ (.int .i64 (k + cntL (l.take m)))) (.returned (.int .i64 (k + cntL (l.take m) + 1 + x.d.sl))) W2 →
          W2.cell? ⟨g, m * 3 + 2, none⟩ = some (.int .i64 x.d.arg) ∧ W2.frozen? ⟨g, m * 3 + 2, none⟩ = false ∧ Bod P L (W2.setCell ⟨g, m * 3 + 2, none⟩ (.int .i64 (k + cntL (l.take m) + 1 + x.d.sl))) (.slice (some ⟨g, 0, none⟩) n c) (mixL k l (m + 1)) ∧ Keep P wr (W2.setCell ⟨g, m * 3 + 2, none⟩ (.int .i64 (k + cntL (l.take m) + 1 + x.d.sl)))) := fun W2 hM => by
        obtain ⟨g', e, _, _, _, _, _, _, _, _, _, h2⟩ := HMK W2
        injection e with e
        injection e with e
        subst e
        rw [← hset]
        exact h2 hM
      have HCT : Hid (k + (cntL (l.take m) : Int) + 1 + (x.d.sl : Int) + 1 = k + (cntL (l.take (m + 1)) : Int)) := by
        have ht : l.take (m + 1) = l.take m ++ [x] := by rw [List.take_add_one, hx]; rfl
        show _ = _
        rw [ht, cntL_snoc]
        unfold cntO
        omega
      have HK : Hid (Keep P w wr) := hK
      have HO : Hid (OwnC (fun b => P b ∧ L b = m + 1) (wr.setCell ⟨g, m * 3, none⟩ (.int .i64 (k + cntL (l.take m)))) (.slice x.a x.d.sl x.c) 1 x.d.sl (intVs .i64 x.d.set x.d.sl)) := hO
      have hlt' : (m : Int) < (n : Int) := by omega
      have lg := lt_of_cell c0
      have HZ : Hid (w.heap.size ≤ wr.heap.size) := hz
      have hb0 : 0 ≤ k + (cntL (l.take m) : Int) + 1 := by omega
      have hb1 : k + (cntL (l.take m) : Int) + 1 ≤ 4611686018427387904 + 1099513724928 := by omega
      generalize hq : (cntL (l.take m) : Int) = q at *
      generalize hs3 : x.d.sl = sl at *
      clear hB HMK hO hK hxm hset hPg hLg hP' hcm hnm hlast hq hs3 hx
      go_wp2_with (go_at_call 72; refine (markIntS_own _ x.a sl x.c x.d.set (k + q + 1) _ HO.out hsl hb0 hb1).mono ?_; intro e W2 hM; obtain ⟨hE, _, hK2⟩ := id hM; subst hE; obtain ⟨y2, yf, hB2, hK3⟩ := HMK2.out W2 hM; have ly := lt_of_cell y2; have HB2 : Hid (Bod P L (W2.setCell ⟨g, m * 3 + 2, none⟩ (.int .i64 (k + q + 1 + sl))) (.slice (some ⟨g, 0, none⟩) n c) (mixL k l (m + 1))) := hB2; have HK3 : Hid (Keep P wr (W2.setCell ⟨g, m * 3 + 2, none⟩ (.int .i64 (k + q + 1 + sl)))) := hK3; clear hM hK2 hB2 hK3)
      go_roundw
      case rel => exact ⟨m + 1, HMM.out, by rw [← HCT.out], by congr 1, HB2.out, HK.out.trans HK3.out, Nat.le_trans HZ.out HK3.out.size⟩
      case measure => simp [intOf]; omega
    · have hmn : m = l.length := by have := HN.out; omega
      rw [hmn, List.take_of_length_le (Nat.le_refl _)]
      have HFI : Hid (MoIs P L a n c l k w (.returned (.int .i64 (k + cntL l))) wr) := by
        unfold mixL at hB
        rw [hmn, List.take_of_length_le (Nat.le_refl _), List.drop_of_length_le (Nat.le_refl _), List.append_nil] at hB
        exact ⟨rfl, hB, hK⟩
      have hge : ¬ ((m : Int) < (n : Int)) := by omega
      clear hB hK
      go_wp2
      go_ret
      exact HFI.out
end
section
open Go.RowKit
open M (OpD NodeD Gr)
section
variable {α : Type}
def cntK (c : α → Nat) : List α → Nat
  | [] => 0
  | x :: r => c x + cntK c r
def mapK (c : α → Nat) (f : Int → α → α) : Int → List α → List α
  | _, [] => []
  | k, x :: r => f k x :: mapK c f (k + c x) r
theorem mapK_len (c : α → Nat) (f : Int → α → α) : ∀ (k : Int) (l : List α), (mapK c f k l).length = l.length
  | _, [] => rfl
  | k, x :: r => by rw [mapK, List.length_cons, List.length_cons, mapK_len]
theorem cntK_snoc (c : α → Nat) : ∀ (l : List α) (x : α), cntK c (l ++ [x]) = cntK c l + c x
  | [], x => by simp [cntK]
  | y :: r, x => by rw [List.cons_append, cntK, cntK, cntK_snoc c r x]; omega
theorem mapK_snoc (c : α → Nat) (f : Int → α → α) : ∀ (l : List α) (k : Int) (x : α), mapK c f k (l ++ [x]) = mapK c f k l ++ [f (k + cntK c l) x]
  | [], k, x => by simp [mapK, cntK]
  | y :: r, k, x => by
    rw [List.cons_append, mapK, mapK, mapK_snoc c f r _ x, List.cons_append, cntK]
    have e : k + ((c y + cntK c r : Nat) : Int) = k + (c y : Int) + (cntK c r : Int) := by omega
    rw [e]
def mixK (c : α → Nat) (f : Int → α → α) (k : Int) (l : List α) (m : Nat) : List α := mapK c f k (l.take m) ++ l.drop m
theorem mixK_at {c : α → Nat} {f : Int → α → α} {k : Int} {l : List α} {m : Nat} {x : α} (h : l[m]? = some x) : (mixK c f k l m)[m]? = some x ∧ (mixK c f k l m).set m (f (k + cntK c (l.take m)) x) = mixK c f k l (m + 1) := by
  obtain ⟨hm, e⟩ := List.getElem?_eq_some_iff.1 h
  have hl : (mapK c f k (l.take m)).length = m := by rw [mapK_len, List.length_take]; omega
  have hd : l.drop m = x :: l.drop (m + 1) := by rw [List.drop_eq_getElem_cons hm, e]
  have ht : l.take (m + 1) = l.take m ++ [x] := by rw [List.take_add_one, h]; rfl
  unfold mixK
  refine ⟨?_, ?_⟩
  · rw [List.getElem?_append_right (by omega), hl, Nat.sub_self, hd]
    rfl
  · rw [List.set_append_right _ _ (by omega), hl, Nat.sub_self, hd, ht, mapK_snoc, List.append_assoc]
    rfl
theorem mixK_all (c : α → Nat) (f : Int → α → α) (k : Int) (l : List α) : mixK c f k l l.length = mapK c f k l := by
  unfold mixK
  rw [List.take_of_length_le (Nat.le_refl _), List.drop_of_length_le (Nat.le_refl _), List.append_nil]
theorem mapK_get {c : α → Nat} {f : Int → α → α} {k : Int} {l : List α} {m : Nat} {x : α} (h : l[m]? = some x) : (mapK c f k l)[m]? = some (f (k + cntK c (l.take m)) x) := by
  obtain ⟨hm, e⟩ := List.getElem?_eq_some_iff.1 h
  have ht : l = l.take m ++ x :: l.drop (m + 1) := by
    conv => lhs; rw [← List.take_append_drop m l, List.drop_eq_getElem_cons hm, e]
  have key : ∀ (a b : List α) (k : Int), mapK c f k (a ++ b) = mapK c f k a ++ mapK c f (k + cntK c a) b := by
    intro a
    induction a with
    | nil => intro b k; simp [mapK, cntK]
    | cons y r ih =>
      intro b k
      rw [List.cons_append, mapK, mapK, ih, List.cons_append, cntK]
      have e : k + ((c y + cntK c r : Nat) : Int) = k + (c y : Int) + (cntK c r : Int) := by omega
      rw [e]
  have hl : (mapK c f k (l.take m)).length = m := by rw [mapK_len, List.length_take]; omega
  conv => lhs; rw [ht, key]
  rw [List.getElem?_append_right (by omega), hl, Nat.sub_self]
  rfl
theorem cntK_step {c : α → Nat} {l : List α} {m : Nat} {x : α} (h : l[m]? = some x) : cntK c (l.take (m + 1)) = cntK c (l.take m) + c x := by
  have ht : l.take (m + 1) = l.take m ++ [x] := by rw [List.take_add_one, h]; rfl
  rw [ht, cntK_snoc]
theorem cntK_take (c : α → Nat) (l : List α) (N : Nat) (hN : ∀ x ∈ l, c x ≤ N) : ∀ m, cntK c (l.take m) ≤ m * N := by
  intro m
  induction m with
  | zero => simp [cntK]
  | succ m ih =>
    cases h : l[m]? with
    | none =>
      have : l.take (m + 1) = l.take m := by rw [List.take_add_one, h]; simp
      rw [this, Nat.succ_mul]
      omega
    | some x =>
      have := hN x (List.mem_of_getElem? h)
      rw [cntK_step h, Nat.succ_mul]
      omega
theorem cntK_all (c : α → Nat) (l : List α) (N : Nat) (hN : ∀ x ∈ l, c x ≤ N) : cntK c l ≤ l.length * N := by
  have := cntK_take c l N hN l.length
  rw [List.take_of_length_le (Nat.le_refl _)] at this
  exact this
end
theorem mkL_map : ∀ (l : List OC) (k : Int), (mkL k l).map (·.d) = mapK cntO mkdO k (l.map (·.d))
  | [], k => rfl
  | x :: r, k => by rw [mkL, List.map_cons, List.map_cons, mapK, mkL_map r]; rfl
theorem cntL_map : ∀ (l : List OC), cntL l = cntK cntO (l.map (·.d))
  | [] => rfl
  | x :: r => by rw [cntL, List.map_cons, cntK, cntL_map r]
theorem SmD.cnt {D : List OpD} (h : SmD D) : cntK cntO D ≤ 1048578000000 := by
  have h1 := cntK_all cntO D 1048578 (fun x hx => by have := h.2 x hx; unfold cntO; omega)
  have h2 := h.1
  have h3 : D.length * 1048578 ≤ 1000000 * 1048578 := Nat.mul_le_mul_right _ h2
  omega
def MbIs (P : Nat → Prop) (a : Option Addr) (n c : Nat) (D : List OpD) (k : Int) (w : World) (e : Ending) (w' : World) : Prop :=
  e = .returned (.int .i64 (k + cntK cntO D)) ∧ BodP P w' (.slice a n c) (mapK cntO mkdO k D) ∧ Keep P w w'
theorem markBod (P : Nat → Prop) (a : Option Addr) (n c : Nat) (D : List OpD) (k : Int) (w : World) (h : BodP P w (.slice a n c) D) (hP : ∀ b, P b → b < w.heap.size) (hn : n = D.length) (hs : SmD D) (h0 : 0 ≤ k) (h1 : k ≤ 4611686018427387904) :
    Calls Tryz.prog 48 #[.slice a n c, .int .i64 k] w (MbIs P a n c D k w) := by
  obtain ⟨L, l, hb, rfl⟩ := h
  have h2 := hs.1
  rw [List.length_map] at h2 hn
  refine (markOpS_own P L a n c l k w hb hP hn (by omega) (fun x hx => hs.2 x.d (List.mem_map.2 ⟨x, hx, rfl⟩)) h0 h1).mono ?_
  rintro e w' ⟨rfl, hB, hK⟩
  exact ⟨by rw [cntL_map], ⟨L, _, hB, mkL_map l k⟩, hK⟩
def bytK (k : Int) (n : Nat) : List Int := (List.range n).map (fun (i : Nat) => IntKind.u8.wrap (k + i))
theorem bytK_len (k : Int) (n : Nat) : (bytK k n).length = n := by unfold bytK; simp
theorem bytK_vs (k : Int) (n : Nat) : intVs .u8 (fun (i : Nat) => IntKind.u8.wrap (k + i)) n = intVs .u8 (lf (bytK k n)) n := intVs_congr (fun i hi => by
  unfold bytK lf
  rw [List.getD_eq_getElem?_getD, List.getElem?_map, List.getElem?_range hi]
  rfl)
def cntR (x : NL) : Nat := x.nm.length + cntK cntO x.bd
def mkR (k : Int) (x : NL) : NL := ⟨bytK k x.nm.length, x.has, mapK cntO mkdO (k + x.nm.length) x.bd⟩
def cntB (x : NL) : Nat := x.nm.length + 1 + cntK cntO x.bd
def mkB (k : Int) (x : NL) : NL := ⟨bytK k x.nm.length, ((k + (x.nm.length : Int)) % 3 == 0), mapK cntO mkdO (k + x.nm.length + 1) x.bd⟩
def gcR (k : Int) (x : GC) : GC := ⟨mkR k x.d, x.na, x.nc, x.ba, x.bc⟩
def gcB (k : Int) (x : GC) : GC := ⟨mkB k x.d, x.na, x.nc, x.ba, x.bc⟩
theorem gcR_nc (k : Int) (x : GC) : ncR (gcR k x) = ncR x := by
  unfold ncR gcR mkR
  simp only [bytK_len, mapK_len]
theorem gcR_map : ∀ (l : List GC) (k : Int), (mapK (fun x : GC => cntR x.d) gcR k l).map (·.d) = mapK cntR mkR k (l.map (·.d))
  | [], k => rfl
  | x :: r, k => by rw [mapK, List.map_cons, List.map_cons, mapK, gcR_map r]; rfl
theorem gcB_map : ∀ (l : List GC) (k : Int), (mapK (fun x : GC => cntB x.d) gcB k l).map (·.d) = mapK cntB mkB k (l.map (·.d))
  | [], k => rfl
  | x :: r, k => by rw [mapK, List.map_cons, List.map_cons, mapK, gcB_map r]; rfl
theorem cntK_map {α β : Type} (g : α → β) (c : β → Nat) : ∀ (l : List α), cntK (fun x => c (g x)) l = cntK c (l.map g)
  | [] => rfl
  | x :: r => by rw [cntK, List.map_cons, cntK, cntK_map g c r]
theorem flat_same {l : List GC} {f : GC → List Value} {i : Nat} {x y : GC} (hx : l[i]? = some x) (h : f y = f x) : (l.set i y).flatMap f = l.flatMap f := by
  have key : ∀ (l : List GC) (i : Nat), l[i]? = some x → (l.set i y).map f = l.map f := by
    intro l
    induction l with
    | nil => intro i h; simp at h
    | cons z r ih =>
      intro i hx
      cases i with
      | zero =>
        simp at hx
        subst hx
        simp [h]
      | succ i =>
        simp at hx
        simp [ih i hx]
  rw [List.flatMap_def, List.flatMap_def, key l i hx]
theorem BG.reR {w0 w W : World} {G : Nat → Nat} {rv lv : Value} {rs cs : List GC} {i : Nat} {x y : GC} {C : Nat → Prop} (h : BG w0 G w rv lv rs cs) (hx : rs[i]? = some x) (hy : ncR y = ncR x) (k : Keep C w W) (hC : ∀ b, C b → G b = 4 + 4 * i ∨ G b = 6 + 4 * i)
    (hn : OwnC (Tg G W (4 + 4 * i)) W (.slice y.na y.d.nm.length y.nc) 1 y.d.nm.length (intVs .u8 (lf y.d.nm) y.d.nm.length)) (hb : BodP (Tg G W (6 + 4 * i)) W (.slice y.ba y.d.bd.length y.bc) y.d.bd) : BG w0 G W rv lv (rs.set i y) cs := by
  have st : ∀ {t : Nat}, t ≠ 4 + 4 * i → t ≠ 6 + 4 * i → Stay (Tg G w t) w W := fun {t} h1 h2 b hb => k.block b hb.1 (fun q => by rcases hC b q with z | z <;> (rw [hb.2] at z; omega))
  have wd : ∀ t b, Tg G w t b → Tg G W t b := fun t b q => ⟨Nat.lt_of_lt_of_le q.1 k.size, q.2⟩
  refine ⟨?_, ownC_wide (h.labs.on (st (by omega) (by omega))) (wd 1), fun j z hz => ?_, fun j z hz => ownC_wide ((h.ln j z hz).on (st (by omega) (by omega))) (wd _), fun j z hz => ?_, fun j z hz => ((h.lb j z hz).on (st (by omega) (by omega))).wide (wd _), h.new⟩
  · rw [List.length_set, flat_same hx hy]
    exact ownC_wide (h.rules.on (st (by omega) (by omega))) (wd 0)
  · rcases getElem?_set' hx hz with ⟨rfl, rfl⟩ | ⟨hne, q⟩
    · exact hn
    · exact ownC_wide ((h.rn j z q).on (st (by omega) (by omega))) (wd _)
  · rcases getElem?_set' hx hz with ⟨rfl, rfl⟩ | ⟨hne, q⟩
    · exact hb
    · exact ((h.rb j z q).on (st (by omega) (by omega))).wide (wd _)
theorem BG.reL {w0 w W : World} {G : Nat → Nat} {rv lv : Value} {rs cs : List GC} {i : Nat} {x y : GC} {C : Nat → Prop} (h : BG w0 G w rv lv rs cs) (hx : cs[i]? = some x) (hy : ncL y = ncL x) (k : Keep C w W) (hC : ∀ b, C b → G b = 5 + 4 * i ∨ G b = 7 + 4 * i)
    (hn : OwnC (Tg G W (5 + 4 * i)) W (.slice y.na y.d.nm.length y.nc) 1 y.d.nm.length (intVs .u8 (lf y.d.nm) y.d.nm.length)) (hb : BodP (Tg G W (7 + 4 * i)) W (.slice y.ba y.d.bd.length y.bc) y.d.bd) : BG w0 G W rv lv rs (cs.set i y) := by
  have st : ∀ {t : Nat}, t ≠ 5 + 4 * i → t ≠ 7 + 4 * i → Stay (Tg G w t) w W := fun {t} h1 h2 b hb => k.block b hb.1 (fun q => by rcases hC b q with z | z <;> (rw [hb.2] at z; omega))
  have wd : ∀ t b, Tg G w t b → Tg G W t b := fun t b q => ⟨Nat.lt_of_lt_of_le q.1 k.size, q.2⟩
  refine ⟨ownC_wide (h.rules.on (st (by omega) (by omega))) (wd 0), ?_, fun j z hz => ownC_wide ((h.rn j z hz).on (st (by omega) (by omega))) (wd _), fun j z hz => ?_, fun j z hz => ((h.rb j z hz).on (st (by omega) (by omega))).wide (wd _), fun j z hz => ?_, h.new⟩
  · rw [List.length_set, flat_same hx hy]
    exact ownC_wide (h.labs.on (st (by omega) (by omega))) (wd 1)
  · rcases getElem?_set' hx hz with ⟨rfl, rfl⟩ | ⟨hne, q⟩
    · exact hn
    · exact ownC_wide ((h.ln j z q).on (st (by omega) (by omega))) (wd _)
  · rcases getElem?_set' hx hz with ⟨rfl, rfl⟩ | ⟨hne, q⟩
    · exact hb
    · exact ((h.lb j z q).on (st (by omega) (by omega))).wide (wd _)
end
end Go.Proofs.YteoddjobpmmgeaaGreat
