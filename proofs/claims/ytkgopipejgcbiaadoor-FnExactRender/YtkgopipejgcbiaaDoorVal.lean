/-
  What Render answers, at an offset of the text or outside it, in one form; answers held against each other, marked, found marked.
-/
import Derived.Test.YtkgopipejgcbiaaDoorRender
import Derived.Test.YtkgopipejgcbiaaDoorMarks
namespace Go.Proofs.YtkgopipejgcbiaaDoor
open Go.RowKit
set_option linter.unusedVariables false

/-- A slice of the numbers zs; where there are any, in a block from B on and before U, and they may be written. -/
def Val (B U : Nat) (w : World) (v : Value) (zs : List Int) : Prop :=
  ∃ a cap, v = .slice a zs.length cap ∧ (0 < zs.length → ∃ g, a = some ⟨g, 0, none⟩ ∧ B ≤ g ∧ g < U ∧ Tx w g 0 zs.length (zf zs) ∧ Wr w g zs.length)

theorem Val.nil (B U : Nat) (w : World) : Val B U w (.slice none 0 0) [] := ⟨none, 0, rfl, fun h => by simp at h⟩
theorem Val.of_own {B : Nat} {w0 w : World} {v : Value} {zs : List Int} (h : OwnM B w0 w v zs) : Val B w.heap.size w v zs := by
  obtain ⟨g, cap, h1, h2, h3, h4, h5, _, _⟩ := h
  refine ⟨_, cap, h1, fun h0 => ⟨g, rfl, h2, h4.lt h0, h4, fun j hj => h5 j (by omega)⟩⟩

theorem Tx.keep {C : Nat → Prop} {w w' : World} {b off n : Nat} {T : Nat → Int} (h : Tx w b off n T) (k : Keep C w w') (hc : ¬ C b) : Tx w' b off n T :=
  fun i hi => (k.cell (p := ⟨b, off + i, none⟩) (lt_of_cell (h i hi)) hc).trans (h i hi)
theorem Wr.keep {C : Nat → Prop} {w w' : World} {g n : Nat} (h : Wr w g n) (k : Keep C w w') (hc : ¬ C g) : Wr w' g n := fun j hj => by
  obtain ⟨h1, h2⟩ := h j hj
  obtain ⟨u, hu⟩ := Option.isSome_iff_exists.1 h1
  have hl := lt_of_cell hu
  rw [k.cell (p := ⟨g, j, none⟩) hl hc, k.frozen (p := ⟨g, j, none⟩) hl hc]
  exact ⟨h1, h2⟩

theorem Val.keep {C : Nat → Prop} {B U : Nat} {w w' : World} {v : Value} {zs : List Int} (h : Val B U w v zs) (k : Keep C w w') (hc : ∀ g, B ≤ g → g < U → ¬ C g) : Val B U w' v zs := by
  obtain ⟨a, cap, rfl, h2⟩ := h
  refine ⟨a, cap, rfl, fun h0 => ?_⟩
  obtain ⟨g, rfl, b1, b2, b3, b4⟩ := h2 h0
  have hn := hc g b1 b2
  exact ⟨g, rfl, b1, b2, b3.keep k hn, b4.keep k hn⟩
theorem Val.later {B U : Nat} {w w' : World} {v : Value} {zs : List Int} (h : Val B U w v zs) (k : Below w.heap.size w w') : Val B U w' v zs :=
  h.keep (C := fun _ => False) (Keep.of_below k (fun _ hk _ => hk)) (fun _ _ _ => id)

theorem eqV {B1 U1 B2 U2 : Nat} {v1 v2 : Value} {zs : List Int} (w : World) (h1 : Val B1 U1 w v1 zs) (h2 : Val B2 U2 w v2 zs) (hb : ∀ i, 0 ≤ zf zs i ∧ zf zs i ≤ 255) (hn : zs.length ≤ 8388608) :
    Calls Tryd.prog 7 #[v1, v2] w fun e w' => e = .returned (.bool true) ∧ Below w.heap.size w w' := by
  refine Calls.mono (R := fun e w' => e = .returned (.bool true) ∧ ∃ k, w' = w.drewN k) ?_ (by rintro e w' ⟨rfl, k, rfl⟩; exact ⟨rfl, below_drewN (Below.refl _ _) k⟩)
  obtain ⟨a1, c1, rfl, x1⟩ := h1
  obtain ⟨a2, c2, rfl, x2⟩ := h2
  by_cases h0 : 0 < zs.length
  · obtain ⟨g1, rfl, _, _, t1, _⟩ := x1 h0
    obtain ⟨g2, rfl, _, _, t2, _⟩ := x2 h0
    exact eq_big g1 0 c1 g2 0 c2 zs.length (zf zs) w t1 t2 hb hn
  · have e : zs.length = 0 := by omega
    rw [e]
    exact eq_empty a1 a2 c1 c2 w

/-- What is marked. -/
def MarkedV (w : World) (v : Value) (n m : Nat) : Prop := ∃ a cap, v = .slice a n cap ∧ (0 < n → ∃ g, a = some ⟨g, 0, none⟩ ∧ Tx w g 0 n (mk m))

theorem markV {B U : Nat} {v : Value} {zs : List Int} (m : Nat) (w : World) (h : Val B U w v zs) (hn : zs.length ≤ 8388608) (hm : m ≤ 8388608) :
    Calls Tryd.prog 8 #[v, .int .i64 m] w fun e w' => e = .returned (.int .i64 (m + zs.length : Nat)) ∧ MarkedV w' v zs.length m ∧ Keep (fun k => B ≤ k) w w' ∧ w'.heap.size = w.heap.size := by
  obtain ⟨a, c, rfl, x⟩ := h
  by_cases h0 : 0 < zs.length
  · obtain ⟨g, rfl, b1, b2, t, wr⟩ := x h0
    refine (mark_wr g zs.length c m w wr hn hm).mono ?_
    rintro e w' ⟨rfl, k1, k2, k3⟩
    exact ⟨rfl, ⟨_, _, rfl, fun _ => ⟨g, rfl, k1⟩⟩, k2.mono (fun k e => by subst e; exact b1), k3⟩
  · have e : zs.length = 0 := by omega
    rw [e]
    refine (mark_empty a c m w).mono ?_
    rintro e w' ⟨rfl, rfl⟩
    exact ⟨rfl, ⟨_, _, rfl, fun h => by omega⟩, Keep.refl _ _, rfl⟩

theorem heldV {v : Value} (n m : Nat) (w : World) (h : MarkedV w v n m) (hn : n ≤ 8388608) (hm : m ≤ 8388608) :
    Calls Tryd.prog 9 #[v, .int .i64 m] w fun e w' => e = .returned (.int .i64 (m + n : Nat)) ∧ w' = w := by
  obtain ⟨a, c, rfl, x⟩ := h
  by_cases h0 : 0 < n
  · obtain ⟨g, rfl, t⟩ := x h0
    exact held_tx g n c m w t hn hm
  · have e : n = 0 := by omega
    rw [e]
    exact held_empty a c m w

theorem eqT (b1 c1 b2 c2 n : Nat) (T : Nat → Int) (w : World) (h1 : Tx w b1 0 n T) (h2 : Tx w b2 0 n T) (hb : ∀ i, 0 ≤ T i ∧ T i ≤ 255) (hn : n ≤ 1048576) :
    Calls Tryd.prog 7 #[.slice (some ⟨b1, 0, none⟩) n c1, .slice (some ⟨b2, 0, none⟩) n c2] w fun e w' => e = .returned (.bool true) ∧ Below w.heap.size w w' := by
  refine (eqByteS_same b1 0 c1 b2 0 c2 n T w h1 h2 hb hn).mono ?_
  rintro e w' ⟨rfl, k, rfl⟩
  exact ⟨rfl, below_drewN (Below.refl _ _) k⟩

/-- A copy. -/
theorem copyT (a : Option Addr) (n cap : Nat) (T : Nat → Int) (w : World) (hT : ArgT w a n T) (hb : ∀ i, 0 ≤ T i ∧ T i ≤ 255) (hn : n ≤ 1048576) :
    Calls Tryd.prog 5 #[.slice a n cap] w fun e w' => e = .returned (.slice (some ⟨w.heap.size, 0, none⟩) n n) ∧ Tx w' w.heap.size 0 n T ∧ Wr w' w.heap.size n ∧ Below w.heap.size w w' ∧ w.heap.size < w'.heap.size := by
  refine (toByteS_any a n cap T w hT hb hn).mono ?_
  rintro e w' ⟨rfl, h1, h2, h3⟩
  exact ⟨rfl, rowTx h1, rowWr h1, h2, by omega⟩

/-! ### The answer, in numbers -/

def Ans (T M' : Nat → Int) (n m : Nat) (q : Int) (zs : List Int) : Prop :=
  ((q < 0 ∨ (n : Int) < q) ∧ zs = []) ∨ ∃ p L C f, q = (p : Nat) ∧ p ≤ n ∧ LC T n p L C ∧ M.Start T p f ∧ zs = Rz T M' m f (lnLen T n f) L C

theorem Ans.unique {T M' : Nat → Int} {n m : Nat} {q : Int} {zs ys : List Int} (h : Ans T M' n m q zs) (k : Ans T M' n m q ys) : zs = ys := by
  rcases h with ⟨h1, rfl⟩ | ⟨p, L, C, f, rfl, h2, h3, h4, rfl⟩ <;> rcases k with ⟨k1, rfl⟩ | ⟨p', L', C', f', k0, k2, k3, k4, rfl⟩
  · rfl
  · omega
  · omega
  · obtain rfl : p = p' := by omega
    obtain ⟨rfl, rfl⟩ := h3.unique k3
    obtain rfl := h4.unique k4
    rfl

theorem Rz_len (T M' : Nat → Int) (m f e L C : Nat) : (Rz T M' m f e L C).length ≤ L + C + m + e + C + 16 := by
  have := decI_len L
  have := decI_len C
  simp [Rz, lst_len]
  omega

theorem lst_byte {M' : Nat → Int} (h : ∀ i, 0 ≤ M' i ∧ M' i ≤ 255) (m : Nat) : ∀ z ∈ lst M' m, 0 ≤ z ∧ z ≤ 255 := by
  intro z hz
  simp only [lst, List.mem_map] at hz
  obtain ⟨i, _, rfl⟩ := hz
  exact h i
theorem decI_byte (u : Nat) : ∀ z ∈ decI u, 0 ≤ z ∧ z ≤ 255 := by
  intro z hz
  simp only [decI, List.mem_map] at hz
  obtain ⟨b, _, rfl⟩ := hz
  have := b.toNat_lt
  omega
theorem Rz_byte {T M' : Nat → Int} (hT : ∀ i, 0 ≤ T i ∧ T i ≤ 255) (hM : ∀ i, 0 ≤ M' i ∧ M' i ≤ 255) (m f e L C : Nat) : ∀ z ∈ Rz T M' m f e L C, 0 ≤ z ∧ z ≤ 255 := by
  intro z hz
  have a1 := decI_byte L z
  have a2 := decI_byte C z
  have a3 := lst_byte hM m z
  have a4 := lst_byte (M' := sh T f) (fun i => hT _) e z
  have a5 := lst_byte (M' := fun _ => 32) (fun i => ⟨by omega, by omega⟩) (C - 1) z
  simp only [Rz, List.mem_append, List.mem_cons, List.not_mem_nil, or_false] at hz
  rcases hz with ((((((((h | h) | h) | h) | h) | h) | h) | h) | h) | h
  · exact a1 h
  · omega
  · exact a2 h
  · omega
  · exact a3 h
  · omega
  · exact a4 h
  · omega
  · exact a5 h
  · omega

theorem Ans.facts {T M' : Nat → Int} {n m : Nat} {q : Int} {zs : List Int} (h : Ans T M' n m q zs) (hT : ∀ i, 0 ≤ T i ∧ T i ≤ 255) (hM : ∀ i, 0 ≤ M' i ∧ M' i ≤ 255) (hn : n ≤ 1048576) (hm : m ≤ 1048576) : zs.length ≤ 8388607 ∧ ∀ i, 0 ≤ zf zs i ∧ zf zs i ≤ 255 := by
  have key : ∀ z ∈ zs, 0 ≤ z ∧ z ≤ 255 := by
    rcases h with ⟨h1, rfl⟩ | ⟨p, L, C, f, rfl, h2, h3, h4, rfl⟩
    · intro z hz; cases hz
    · exact Rz_byte hT hM _ _ _ _ _
  refine ⟨?_, fun i => ?_⟩
  · rcases h with ⟨h1, rfl⟩ | ⟨p, L, C, f, rfl, h2, h3, h4, rfl⟩
    · simp
    · have := Rz_len T M' m f (lnLen T n f) L C
      have := h3.le
      have := lnLen_le T n f
      omega
  · by_cases hi : i < zs.length
    · have : zf zs i = zs[i] := by simp [zf, List.getD, hi]
      rw [this]
      exact key _ (List.getElem_mem hi)
    · have : zf zs i = 0 := by simp [zf, List.getD, List.getElem?_eq_none (by omega : zs.length ≤ i)]
      rw [this]
      omega

/-- The model's Render. -/
theorem srender_any (b n cap : Nat) (q : Int) (T : Nat → Int) (mb m mc : Nat) (M' : Nat → Int) (w : World) (hT : Tx w b 0 n T) (hb : ∀ i, 0 ≤ T i ∧ T i ≤ 255) (hn : n ≤ 1048576) (hM : Tx w mb 0 m M') (hm : m ≤ 1048576) :
    Calls Tryd.prog 4 #[.slice (some ⟨b, 0, none⟩) n cap, .int .i64 q, .slice (some ⟨mb, 0, none⟩) m mc] w fun e w' => ∃ v zs, e = .returned v ∧ Ans T M' n m q zs ∧ Val w.heap.size w'.heap.size w' v zs ∧ Below w.heap.size w w' := by
  by_cases hq : q < 0 ∨ (n : Int) < q
  · refine (srender_out _ n cap q _ m mc w hn hq).mono ?_
    rintro e w' ⟨rfl, rfl⟩
    exact ⟨_, [], rfl, .inl ⟨hq, rfl⟩, Val.nil _ _ _, Below.refl _ _⟩
  · obtain ⟨p, rfl⟩ := Int.eq_ofNat_of_zero_le (show 0 ≤ q by omega)
    refine (srender_in b 0 n cap p T (some ⟨mb, 0, none⟩) mb 0 m mc M' w hT hb hn (by omega) (fun _ => rfl) hM hm).mono ?_
    rintro e w' ⟨v, L, C, f, rfl, h1, h2, h3⟩
    exact ⟨v, _, rfl, .inr ⟨p, L, C, f, rfl, by omega, h1, h2, rfl⟩, Val.of_own h3, h3.below⟩

/-- The program's Render. -/
theorem render_any (b n cap : Nat) (q : Int) (T : Nat → Int) (mb m mc : Nat) (M' : Nat → Int) (w : World) (hT : Tx w b 0 n T) (hb : ∀ i, 0 ≤ T i ∧ T i ≤ 255) (hn : n ≤ 1048576) (hcap : n ≤ cap) (hM : Tx w mb 0 m M') (hm : m ≤ 1048576) (htab : Tab w) :
    Calls Tryd.prog 6 #[.slice (some ⟨b, 0, none⟩) n cap, .int .i64 q, .slice (some ⟨mb, 0, none⟩) m mc] w fun e w' => ∃ v zs, e = .returned v ∧ Ans T M' n m q zs ∧ Val w.heap.size w'.heap.size w' v zs ∧ Below w.heap.size w w' := by
  have hV := textV_some hT hb hn hcap
  by_cases hq : q < 0 ∨ (n : Int) < q
  · refine (render_out _ n cap q T _ _ m mc w hV hq).mono ?_
    rintro e w' ⟨rfl, h⟩
    exact ⟨_, [], rfl, .inl ⟨hq, rfl⟩, Val.nil _ _ _, h⟩
  · obtain ⟨p, rfl⟩ := Int.eq_ofNat_of_zero_le (show 0 ≤ q by omega)
    refine (render_in _ n cap p T _ (some ⟨mb, 0, none⟩) mb 0 m mc M' w hV (by omega) (fun _ => rfl) hM hm htab).mono ?_
    rintro e w' ⟨v, L, C, f, rfl, h1, h2, h3⟩
    exact ⟨v, _, rfl, .inr ⟨p, L, C, f, rfl, by omega, h1, h2, rfl⟩, Val.of_own h3, h3.below⟩

end Go.Proofs.YtkgopipejgcbiaaDoor
