/-
  Walks: the work list.
-/
import Derived.Test.YtjpcojabdjldbaaAppC
import Derived.Test.YtjpcojabdjldbaaFold
namespace Go.Proofs.Ytjpcojabdjldbaa
open Go.RowKit
set_option linter.unusedVariables false
set_option linter.unusedSimpArgs false

def ints (L : List Nat) : List Value := L.map (fun (x : Nat) => Value.int .i64 (x : Int))
theorem own_shape {Q : Nat → Prop} {w : World} {v : Value} {sz n : Nat} {cs : List Value} (h : OwnC Q w v sz n cs) : ∃ a c, v = .slice a n c := by
  rcases h with ⟨rfl, rfl, _⟩ | ⟨g, cap, rfl, _⟩
  · exact ⟨_, _, rfl⟩
  · exact ⟨_, _, rfl⟩
theorem ints_len (L : List Nat) : (ints L).length = L.length := by simp [ints]
theorem ints_app (L : List Nat) (x : Nat) : ints (L ++ [x]) = ints L ++ [.int .i64 (x : Int)] := by simp [ints]

/-- The list lies in blocks of Q, its box in the block wb. -/
structure WL (Q : Nat → Prop) (w : World) (wb : Nat) (L : List Nat) : Prop where
  val : ∃ v, w.cell? ⟨wb, 0, none⟩ = some v ∧ OwnC Q w v 1 L.length (ints L)
  soft : w.frozen? ⟨wb, 0, none⟩ = false
theorem WL.lt {Q : Nat → Prop} {w : World} {wb : Nat} {L : List Nat} (h : WL Q w wb L) : wb < w.heap.size := by
  obtain ⟨v, h, _⟩ := h.val
  exact lt_of_cell h
theorem WL.on {Q : Nat → Prop} {w w' : World} {wb : Nat} {L : List Nat} (h : WL Q w wb L) (k : Stay (fun b => Q b ∨ b = wb) w w') : WL Q w' wb L := by
  obtain ⟨v, h1, h2⟩ := h.val
  refine ⟨⟨v, (k.cell (.inr rfl)).trans h1, h2.on (fun b hb => k b (.inl hb))⟩, ?_⟩
  rw [World.frozen?_of_block (a := ⟨wb, 0, none⟩) (k wb (.inr rfl))]
  exact h.soft

theorem src_one {w : World} {g : Nat} {u : Value} (h0 : w.cell? ⟨g, 0, none⟩ = some u) (o0 : u.oneCell' = true) : Src Try.prog 1 78 (.slice (some ⟨g, 0, none⟩) 1 1) 1 [u] w := by
  refine Src.ofSlice (P := Try.prog) w Try.underlying78 ⟨g, 0, none⟩ 1 1 [u] rfl (fun j u' hu => ?_) (fun u' hu => ?_)
  · match j, hu with
    | 0, hu => simp at hu; subst hu; simpa [Addr.add] using h0
    | j + 1, hu => simp at hu
  · simp at hu
    subst hu
    exact o0

theorem wrap_len (m : Nat) (h : m ≤ 1048576) : IntKind.i64.wrap (m : Int) = (m : Int) := by
  simp [IntKind.wrap, IntKind.bits, IntKind.signed]
  omega

/-- What add leaves. -/
structure Added (Q : Nat → Prop) (wb x : Nat) (L : List Nat) (w : World) (e : Ending) (w' : World) : Prop where
  ret : ∃ v, e = .returned v
  list : WL (fun b => Q b ∨ w.heap.size ≤ b) w' wb (L ++ [x])
  grew : Grew (fun b => Q b ∨ b = wb) w w'

set_option maxHeartbeats 2000000 in
theorem add_any (Q : Nat → Prop) (wb x : Nat) (L : List Nat) (w : World) (hL : WL Q w wb L) (hq : ¬ Q wb) (hn : L.length ≤ 1048576) :
    Calls Try.prog 131 #[.pointer (some ⟨wb, 0, none⟩), .int .i64 (x : Int)] w (Added Q wb x L w) := by
  obtain ⟨v, hv, hown⟩ := hL.val
  have hs := hL.soft
  have lwb : wb < w.heap.size := lt_of_cell hv
  have HO : Hid (OwnC Q w v 1 L.length (ints L)) := hown
  clear hown hL
  have hX : Hid (OwnC Q (w.alloc (.cells #[.int .i64 (x : Int)] 3)) v 1 L.length (ints L)) := by
    rcases HO.out with h | ⟨g, cap, h1, h2, h3, h4, h5, h6⟩
    · exact .inl h
    · by_cases hc : cap = 0
      · subst hc
        refine .inr ⟨g, 0, h1, h2, h3, h4, fun j hj => absurd hj (by rw [h3]; omega), fun j hj => by omega⟩
      · have hg : g < w.heap.size := by
          have := (h6 0 (by omega)).1
          obtain ⟨u, hu⟩ := Option.isSome_iff_exists.1 this
          exact lt_of_cell hu
        have e := Below.heap_alloc w (.cells #[.int .i64 (x : Int)] 3) g hg
        exact .inr ⟨g, cap, h1, h2, h3, h4, fun j hj => by rw [World.cell?_of_block (a := ⟨g, j, none⟩) e]; exact h5 j hj, h6.later e⟩
  have h9 : Hid (wb < (w.alloc (.cells #[.int .i64 (x : Int)] 3)).heap.size) := by show _ < _; simp; omega
  go_enter Try.func131, Try.ntmps131
  go_wp2_with (at_builtin; refine appC rfl _ _ 78 78 rfl rfl rfl elem78 hX.out (src_one (u := .int .i64 (x : Int)) (cN w.heap.size rfl rfl) rfl) (by omega) (fun _ => Nat.one_pos) ?_; intro v' W hown' hgrew hsz; obtain ⟨a', c', rfl⟩ := own_shape hown'; have hk := (hgrew.block wb h9.out hq).trans (Below.heap_alloc w (.cells #[.int .i64 (x : Int)] 3) wb lwb); have hv' : W.cell? ⟨wb, 0, none⟩ = some v := (World.cell?_of_block (a := ⟨wb, 0, none⟩) hk).trans hv; have hs' : W.frozen? ⟨wb, 0, none⟩ = false := (World.frozen?_of_block (a := ⟨wb, 0, none⟩) hk).trans hs; have HO' : Hid (OwnC (fun b => Q b ∨ (w.alloc (.cells #[.int .i64 (x : Int)] 3)).heap.size ≤ b) W (.slice a' (L.length + 1) c') 1 (L.length + 1) (ints L ++ [.int .i64 (x : Int)])) := hown'; have HG : Hid (Grew (fun b => Q b) (w.alloc (.cells #[.int .i64 (x : Int)] 3)) W) := hgrew; clear hown' hgrew hsz hk)
  go_end0
  have hsW := HG.out.size
  rw [World.size_alloc] at hsW
  refine ⟨⟨_, rfl⟩, ⟨⟨.slice a' (L.length + 1) c', cell_set_same hv', ?_⟩, ?_⟩, ?_⟩
  · rw [ints_app, List.length_append]
    have : OwnC (fun b => Q b ∨ w.heap.size ≤ b) W (.slice a' (L.length + 1) c') 1 (L.length + 1) (ints L ++ [.int .i64 (x : Int)]) := by
      rcases HO'.out with h | ⟨g, cap, h1, h2, h3⟩
      · exact .inl h
      · refine .inr ⟨g, cap, h1, ?_, h3⟩
        rcases h2 with h2 | h2
        · exact .inl h2
        · rw [World.size_alloc] at h2; exact .inr (by omega)
    exact this.on (fun b hb => Below.heap_setCell _ _ _ b (fun e => by
      simp only at e
      subst e
      rcases hb with hb | hb
      · exact hq hb
      · omega))
  · rw [World.frozen?_setCell]; exact hs'
  · refine ⟨HG.out.os, HG.out.tape, HG.out.output, by simp [World.setCell]; omega, fun b h1 h2 => ?_, fun b o h1 => ?_, fun b o h1 h2 => ?_⟩
    · rw [Below.heap_setCell _ _ _ b (fun e => h2 (.inr e)), HG.out.block b (by rw [World.size_alloc]; omega) (fun q => h2 (.inl q)), Below.heap_alloc _ _ _ h1]
    · rw [World.frozen?_setCell, HG.out.frozen b o (by rw [World.size_alloc]; omega)]
      exact World.frozen?_of_block (a := ⟨b, o, none⟩) (Below.heap_alloc _ _ _ h1)
    · rw [World.frozen?_setCell]
      rw [size_set] at h2
      by_cases e : b = w.heap.size
      · subst e
        rw [HG.out.frozen _ o (by rw [World.size_alloc]; omega)]
        exact soft1 w _ 3 w.heap.size o (Nat.le_refl _) (by simp)
      · exact HG.out.fresh b o (by rw [World.size_alloc]; omega) h2

theorem snoc_cases (L : List Nat) : L = [] ∨ ∃ L' x, L = L' ++ [x] := by
  rcases List.eq_nil_or_concat L with h | ⟨L', x, h⟩
  · exact .inl h
  · exact .inr ⟨L', x, by simpa using h⟩

set_option maxHeartbeats 2000000 in
theorem take_none (Q : Nat → Prop) (wb : Nat) (w : World) (hL : WL Q w wb []) :
    Calls Try.prog 132 #[.pointer (some ⟨wb, 0, none⟩)] w fun e w' => e = .returned (.tuple #[.int .i64 0, .bool false]) ∧ w' = w := by
  obtain ⟨v, hv, hown⟩ := hL.val
  obtain ⟨a, c, rfl⟩ := own_shape hown
  clear hown hL
  go_enter Try.func132, Try.ntmps132
  go_wp2
  refine bodyPost_ret (by simp [results, Try.f132, go_sem]; rfl) rfl ?_
  exact ⟨rfl, rfl⟩

/-- What take leaves. -/
structure Took (Q : Nat → Prop) (wb x : Nat) (L : List Nat) (w : World) (e : Ending) (w' : World) : Prop where
  ret : e = .returned (.tuple #[.int .i64 (x : Int), .bool true])
  list : WL Q w' wb L
  grew : Grew (fun b => b = wb) w w'

set_option maxHeartbeats 2000000 in
theorem take_some (Q : Nat → Prop) (wb x : Nat) (L : List Nat) (w : World) (hL : WL Q w wb (L ++ [x])) (hq : ¬ Q wb) (hn : L.length ≤ 1048576) :
    Calls Try.prog 132 #[.pointer (some ⟨wb, 0, none⟩)] w (Took Q wb x L w) := by
  obtain ⟨v, hv, hown⟩ := hL.val
  have hs := hL.soft
  rcases hown with ⟨_, h, _⟩ | ⟨g, cap, rfl, h2, h3, h4, h5, h6⟩
  · simp at h
  rw [List.length_append] at hv h3 h4
  simp only [List.length_cons, List.length_nil, Nat.zero_add] at hv h3 h4
  have hc : w.cell? ⟨g, L.length, none⟩ = some (.int .i64 (x : Int)) := by
    rw [h5 L.length (by rw [h3]; omega), ints_app, List.getElem?_append_right (by rw [ints_len]; exact Nat.le_refl _), ints_len]
    simp
  have H5 : Hid (∀ j, j < (ints (L ++ [x])).length → w.cell? ⟨g, j, none⟩ = (ints (L ++ [x]))[j]?) := h5
  have H6 : Hid (Wr w g (cap * 1)) := h6
  have x1 : ((L.length + 1 : Nat) : Int) - 1 = (L.length : Int) := by omega
  have x2 : ¬ cap = 0 := by omega
  have x3 : L.length ≤ cap := by omega
  have x4 : ¬ ((L.length : Int) < 0) := by omega
  have x5 := wrap_len L.length hn
  clear hL h5 h6 h3
  go_enter Try.func132, Try.ntmps132
  go_wp2
  refine bodyPost_ret (by simp [results, Try.f132, go_sem]; rfl) rfl ?_
  refine ⟨rfl, ⟨⟨_, cell_set_same hv, .inr ⟨g, cap, rfl, h2, by rw [ints_len, Nat.mul_one], by omega, fun j hj => ?_, fun j hj => ?_⟩⟩, ?_⟩, ?_⟩
  · have hne : g ≠ wb := fun e => hq (e ▸ h2)
    rw [cell_set_far (Ne.symm hne), H5.out j (by rw [ints_len] at *; simp; omega), ints_app, List.getElem?_append_left hj]
  · have hne : g ≠ wb := fun e => hq (e ▸ h2)
    rw [cell_set_far (Ne.symm hne), World.frozen?_setCell]
    exact H6.out j hj
  · rw [World.frozen?_setCell]; exact hs
  · refine ⟨rfl, rfl, rfl, by rw [size_set]; exact Nat.le_refl _, fun b h1 h2 => Below.heap_setCell _ _ _ b (fun e => h2 e), fun b o h1 => by rw [World.frozen?_setCell], fun b o h1 h2 => ?_⟩
    rw [size_set] at h2
    omega

end Go.Proofs.Ytjpcojabdjldbaa
