/-
  append onto a row of bytes that the call owns, in plain numbers: whatever is appended, whatever mark the row bears behind its end.
-/
import Derived.Test.YtkgopipejgcbiaaDoorCopy
import Derived.Test.YtkgopipejgcbiaaDoorIter
import Derived.Deep.AppendSrc
import Derived.Lib.ConvBytes
import Derived.OwnWalk
namespace Go.Proofs.YtkgopipejgcbiaaDoor
open Go.RowKit
set_option linter.unusedVariables false

/-- The numbers of a list, by place. -/
def zf (zs : List Int) (i : Nat) : Int := zs.getD i 0
/-- The first m numbers of a text. -/
def lst (M : Nat → Int) (m : Nat) : List Int := (List.range m).map M
theorem lst_len (M : Nat → Int) (m : Nat) : (lst M m).length = m := by simp [lst]
theorem lst_zero (M : Nat → Int) : lst M 0 = [] := rfl
theorem lst_succ (M : Nat → Int) (m : Nat) : lst M (m + 1) = lst M m ++ [M m] := by simp [lst, List.range_succ]

/-- The cells of a row are there and may be written. -/
def Wr (w : World) (g cap : Nat) : Prop := ∀ j, j < cap → (w.cell? ⟨g, j, none⟩).isSome = true ∧ w.frozen? ⟨g, j, none⟩ = false

/-- The value v is a slice that owns the numbers zs, in a block from B on; below B all is as it was in w0. -/
def OwnM (B : Nat) (w0 w : World) (v : Value) (zs : List Int) : Prop :=
  ∃ g cap, v = .slice (some ⟨g, 0, none⟩) zs.length cap ∧ B ≤ g ∧ zs.length ≤ cap ∧ Tx w g 0 zs.length (zf zs) ∧ Wr w g cap ∧ Below B w0 w ∧ B ≤ w.heap.size

theorem OwnM.below {B : Nat} {w0 w : World} {v : Value} {zs : List Int} (h : OwnM B w0 w v zs) : Below B w0 w := by
  obtain ⟨g, cap, _, _, _, _, _, h, _⟩ := h; exact h
theorem OwnM.size {B : Nat} {w0 w : World} {v : Value} {zs : List Int} (h : OwnM B w0 w v zs) : B ≤ w.heap.size := by
  obtain ⟨g, cap, _, _, _, _, _, _, h⟩ := h; exact h

theorem Wr.later {w w' : World} {g cap : Nat} (h : Wr w g cap) (k : Below w.heap.size w w') : Wr w' g cap := fun j hj => by
  obtain ⟨h1, h2⟩ := h j hj
  obtain ⟨u, hu⟩ := Option.isSome_iff_exists.1 h1
  have hl := lt_of_cell hu
  rw [k.cell (p := ⟨g, j, none⟩) hl, k.frozen (p := ⟨g, j, none⟩) hl]
  exact ⟨h1, h2⟩

theorem OwnM.on {B : Nat} {w0 w w' : World} {v : Value} {zs : List Int} (h : OwnM B w0 w v zs) (k : Below w.heap.size w w') : OwnM B w0 w' v zs := by
  obtain ⟨g, cap, h1, h2, h3, h4, h5, h6, h7⟩ := h
  exact ⟨g, cap, h1, h2, h3, h4.later k, h5.later k, h6.trans (k.mono h7), Nat.le_trans h7 k.size⟩
theorem OwnM.alloc {B : Nat} {w0 w : World} {v : Value} {zs : List Int} (h : OwnM B w0 w v zs) (o : Obj) : OwnM B w0 (w.alloc o) v zs :=
  h.on ((Below.refl _ w).alloc (Nat.le_refl _) _)

theorem below_setCells {B g : Nat} {w0 : World} (hg : B ≤ g) : ∀ (vs : List Value) (o : Nat) (w : World), Below B w0 w → Below B w0 (w.setCells g o vs)
  | [], _, _, h => h
  | v :: r, o, w, h => below_setCells hg r (o + 1) _ (h.setCell (p := ⟨g, o, none⟩) hg v)

theorem ownM_of_block {B g cap : Nat} {w0 w' : World} {arr : Array Value} {fz : Nat × Nat} {zs : List Int} (hg : w'.heap[g]? = some (.cells arr 5 fz)) (hfz : fz.2 = 0 ∨ arr.size ≤ fz.1) (hBg : B ≤ g) (hb : Below B w0 w') (hBw : B ≤ w'.heap.size)
    (hcap : cap ≤ arr.size) (hn : zs.length ≤ cap) (hz : ∀ j, j < zs.length → arr[j]? = some (.int .u8 (zf zs j))) : OwnM B w0 w' (.slice (some ⟨g, 0, none⟩) zs.length cap) zs := by
  refine ⟨g, cap, rfl, hBg, hn, fun j hj => ?_, fun j hj => ⟨?_, ?_⟩, hb, hBw⟩
  · simp only [World.cell?, hg, Nat.zero_add]
    exact hz j hj
  · have : j < arr.size := by omega
    simp [World.cell?, hg, this]
  · obtain ⟨lo, hi⟩ := fz
    simp only [World.frozen?, hg, Bool.and_eq_false_iff, decide_eq_false_iff_not]
    simp only at hfz
    omega

theorem zf_app_left {zs ys : List Int} {j : Nat} (h : j < zs.length) : zf (zs ++ ys) j = zf zs j := by
  simp [zf, List.getD, List.getElem?_append_left h]
theorem zf_app_right {zs ys : List Int} {j : Nat} (h : zs.length ≤ j) : zf (zs ++ ys) j = zf ys (j - zs.length) := by
  simp [zf, List.getD, List.getElem?_append_right h]
theorem map_get {ys : List Int} {j : Nat} (h : j < ys.length) : (ys.map (Value.int .u8))[j]? = some (.int .u8 (zf ys j)) := by
  simp [zf, List.getD, h]

theorem app_run {B : Nat} {w0 w : World} {v x : Value} {zs ys : List Int} {tx : TypeId} (ty : TypeId) (hown : OwnM B w0 w v zs) (hs : Src Tryd.prog 1 tx x ys.length (ys.map (Value.int .u8)) w) (hlen : zs.length + ys.length ≤ 16777216) :
    ∃ v' w', (Builtin.append_ #[22, tx] ty #[v, x]).run Tryd.prog w = .ok v' w' ∧ OwnM B w0 w' v' (zs ++ ys) := by
  obtain ⟨i, hi, hz0, hz1, hz2⟩ := info_parts Tryd.info5
  obtain ⟨g, cap, rfl, hBg, hnc, htx, hwr, hbel, hBw⟩ := hown
  have hs' : Src Tryd.prog i.size tx x ys.length (ys.map (Value.int .u8)) w := by rw [hz1]; exact hs
  have hL : (zs ++ ys).length = zs.length + ys.length := by simp
  by_cases hroom : zs.length + ys.length ≤ cap
  · have hr := run_append_room_src (P := Tryd.prog) w 22 tx ty 5 i Tryd.underlying22 hi g 0 zs.length cap x ys.length (ys.map (Value.int .u8)) hs' hroom
      (fun j hj => by rw [hz1]; simp at hj ⊢; exact (hwr _ (by omega)).1) (fun j hj => by rw [hz1]; simp at hj ⊢; exact (hwr _ (by omega)).2)
    rw [hz1, Nat.mul_one, Nat.zero_add] at hr
    refine ⟨_, _, hr, g, cap, by rw [hL], hBg, by omega, fun j hj => ?_, fun j hj => ⟨?_, ?_⟩, below_setCells hBg _ _ _ hbel, Nat.le_trans hBw (below_setCells (w0 := w) hBg _ _ w (Below.refl _ _)).size⟩
    · rw [Nat.zero_add]
      by_cases hlt : j < zs.length
      · rw [World.cell?_setCells_out g _ _ w _ (fun _ _ => Or.inl hlt), zf_app_left hlt]
        have := htx j hlt
        rwa [Nat.zero_add] at this
      · have h2 := World.cell?_setCells_in g (ys.map (Value.int .u8)) zs.length w (fun k hk => (hwr _ (by simp at hk; omega)).1) (j - zs.length) (by simp; omega)
        rw [show zs.length + (j - zs.length) = j by omega] at h2
        rw [h2, zf_app_right (by omega)]
        have h3 := map_get (ys := ys) (j := j - zs.length) (by omega)
        rw [List.getElem?_eq_getElem (by simp; omega)] at h3
        exact h3
    · by_cases hin : zs.length ≤ j ∧ j < zs.length + ys.length
      · have h2 := World.cell?_setCells_in g (ys.map (Value.int .u8)) zs.length w (fun k hk => (hwr _ (by simp at hk; omega)).1) (j - zs.length) (by simp; omega)
        rw [show zs.length + (j - zs.length) = j by omega] at h2
        rw [h2]; rfl
      · rw [World.cell?_setCells_out g _ _ w _ (fun _ _ => by simp; omega)]
        exact (hwr j hj).1
    · rw [World.frozen?_setCells]
      exact (hwr j hj).2
  · have holds : ∀ j u, (zs.map (Value.int .u8))[j]? = some u → w.drew.cell? ((⟨g, 0, none⟩ : Addr).add j) = some u := fun j u hu => by
      have hj : j < zs.length := by
        have := (List.getElem?_eq_some_iff.1 hu).1
        simpa using this
      rw [map_get hj] at hu
      cases hu
      have e : (⟨g, 0, none⟩ : Addr).add j = ⟨g, j, none⟩ := by
        by_cases h0 : j = 0
        · subst h0; simp [Addr.add]
        · simp [Addr.add, h0]
      rw [e]
      have := htx j hj
      rwa [Nat.zero_add] at this
    have hf := run_firstCells_some (P := Tryd.prog) w.drew 1 zs.length ⟨g, 0, none⟩ zs.length cap (zs.map (Value.int .u8)) (by simp) holds
    have hr := run_append_grow_src (P := Tryd.prog) w 22 tx ty 5 i (.int .u8 0) Tryd.underlying22 hi hz0 (some ⟨g, 0, none⟩) zs.length cap (zs.map (Value.int .u8)) (by rw [hz1]; exact hf) x ys.length (ys.map (Value.int .u8)) hs' (by omega) (by omega) (by rw [hz2]; exact growslice_fits (by omega) (by omega))
    have hge := grownCap_ge w (zs.length + ys.length) cap 5
    refine ⟨_, _, hr, ?_⟩
    rw [← hL]
    rw [← hL] at hge
    refine ownM_of_block (World.alloc_heap_new w.drew _) (.inl rfl) hBw ((hbel.drew).alloc hBw _) (by simp; omega) ?_ hge fun j hj => ?_
    · simp [size_zeroCells, Value.cells]
      simp at hge
      omega
    · rw [Array.getElem?_append_left (by simp at hj ⊢; omega)]
      rw [← List.map_append]
      simpa using map_get (ys := zs ++ ys) hj

/-- At the operation. -/
theorem app {ops : Array Oper} {rest : List Oper} {o : Oper} {a : Act} {Q : Exit → Act → World → Prop} {w : World} (hgd : o.guard = none) (s x : Operand) (tx : TypeId) (ho : o.op = .call { callee := .builtin .append, args := #[s, x], argTypes := #[22, tx] })
    {B : Nat} {w0 : World} {v y : Value} {zs ys : List Int} (hs : a.eval s = v) (hx : a.eval x = y) (hown : OwnM B w0 w v zs) (hsrc : Src Tryd.prog 1 tx y ys.length (ys.map (Value.int .u8)) w) (k m : Nat) (hk : zs.length ≤ k) (hm : ys.length ≤ m) (hlen : k + m ≤ 16777216)
    (h : ∀ v' w' zs', Hid (zs' = zs ++ ys) → Hid (zs'.length ≤ k + m) → OwnM B w0 w' v' zs' → wpList Tryd.prog ops Q rest (a.put o.dst v') w') : wpList Tryd.prog ops Q (o :: rest) a w := by
  refine wpList_plain hgd fun K hK => ?_
  obtain ⟨v', w', hr, h2⟩ := app_run o.type hown hsrc (by omega)
  unfold Oper.wp execOp
  simp only [ho, resolve, invoke, builtin, Sem.run_bind, Sem.run_pure, Result.andThen_ok, List.map_toArray, List.map_cons, List.map_nil, hs, hx, hr]
  exact hK _ _ (h v' w' _ rfl (show _ ≤ _ by rw [List.length_append]; omega) h2)

/-! ### What is appended -/

theorem src_text {w : World} {a : Option Addr} {b off m c : Nat} {M : Nat → Int} (hA : 0 < m → a = some ⟨b, off, none⟩) (h : Tx w b off m M) : Src Tryd.prog 1 22 (.slice a m c) (lst M m).length ((lst M m).map (Value.int .u8)) w := by
  rw [lst_len]
  by_cases h0 : m = 0
  · subst h0
    cases a with
    | none => exact Src.ofNil w Tryd.underlying22 c
    | some x => exact Src.ofSlice w Tryd.underlying22 x 0 c [] rfl (fun j u hu => by simp at hu) (fun u hu => by cases hu)
  · rw [hA (by omega)]
    refine Src.ofSlice w Tryd.underlying22 ⟨b, off, none⟩ m c _ (by simp [lst]) (fun j u hu => ?_) (fun u hu => ?_)
    · have hj : j < m := by
        have := (List.getElem?_eq_some_iff.1 hu).1
        simpa [lst] using this
      have e : (⟨b, off, none⟩ : Addr).add j = ⟨b, off + j, none⟩ := by
        by_cases h0 : j = 0
        · subst h0; simp [Addr.add]
        · simp [Addr.add, h0]
      rw [e, h j hj]
      simpa [lst, hj] using hu
    · obtain ⟨z, _, rfl⟩ := List.mem_map.1 hu
      rfl

theorem src_one (w : World) (z : Int) (c : Nat) : Src Tryd.prog 1 22 (.slice (some ⟨w.heap.size, 0, none⟩) 1 c) [z].length ([z].map (Value.int .u8)) (w.alloc (.cells #[.int .u8 z] 5)) := by
  refine Src.ofSlice _ Tryd.underlying22 ⟨w.heap.size, 0, none⟩ 1 c _ rfl (fun j u hu => ?_) (fun u hu => ?_)
  · match j, hu with
    | 0, hu =>
      simp at hu; subst hu
      exact cellNew w (.int .u8 z) 5
    | j + 1, hu => simp at hu
  · simp at hu; subst hu; rfl

theorem src_str (w : World) (s : ByteArray) (ys : List Int) (h : ys = s.data.toList.map fun b => (b.toNat : Int)) : Src Tryd.prog 1 9 (.string s) ys.length (ys.map (Value.int .u8)) w := by
  have e : ys.map (Value.int .u8) = Go.byteCells s := by rw [h]; simp [Go.byteCells]
  have l : ys.length = s.size := by rw [h, List.length_map, Array.length_toList]; rfl
  rw [e, l]
  exact Src.ofString w Tryd.underlying9 s

/-- A string as bytes. -/
theorem own_bytes (B : Nat) (w0 w : World) (hb : Below B w0 w) (hB : B ≤ w.heap.size) (s : ByteArray) (zs : List Int) (h : zs = s.data.toList.map fun b => (b.toNat : Int)) :
    ∃ v' w', (convert 9 22 (.string s)).run Tryd.prog w = .ok v' w' ∧ OwnM B w0 w' v' zs := by
  have hr := Lib.run_convert_string_bytes (P := Tryd.prog) w 9 22 5 s Tryd.underlying9 Tryd.underlying22 Tryd.underlying5
  have hl : zs.length = s.size := by rw [h, List.length_map, Array.length_toList]; rfl
  rw [← hl] at hr
  refine ⟨_, _, hr, ?_⟩
  have hge := grownCap_ge w zs.length 0 5
  refine ownM_of_block (Lib.bytesWorld_at_new w 5 s) (.inr (Nat.le_refl _)) hB ?_ (by rw [Lib.bytesWorld_size]; omega) ?_ hge fun j hj => ?_
  · refine hb.trans ⟨?_, ?_, ?_, by rw [Lib.bytesWorld_size]; omega, fun k hk => Lib.bytesWorld_at_old w 5 s k (by omega)⟩
    all_goals rfl
  · simp only [Lib.bytesCells, Array.size_append, Array.size_map, Array.size_replicate]
    have : s.data.size = s.size := rfl
    rw [hl] at hge ⊢
    omega
  · have hc := Lib.bytesWorld_cell w 5 s j (by omega)
    rw [World.cell?, Lib.bytesWorld_at_new] at hc
    have hz : zf zs j = ((s.data.toList.getD j 0).toNat : Int) := by
      have hj' : j < s.data.toList.length := by rw [Array.length_toList]; show j < s.size; omega
      rw [h]
      simp only [zf, List.getD, List.getElem?_map]
      rw [List.getElem?_eq_getElem hj']
      rfl
    rw [hz]
    exact hc

end Go.Proofs.YtkgopipejgcbiaaDoor
