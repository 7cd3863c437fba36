/-
  Texts that grow: append of bytes and strings onto a slice that the call owns.
-/
import Derived.Test.YtjpcojabdjldbaaAppC
import Derived.Test.YtjpcojabdjldbaaStk
import Derived.Test.YtjpcojabdjldbaaOfold
import Derived.Test.YtjpcojabdjldbaaTree
import Derived.Deep.RegionLaw
namespace Go.Proofs.Ytjpcojabdjldbaa
open Go.RowKit
open M (OpD NodeD Gr TX)
set_option linter.unusedVariables false
set_option linter.unusedSimpArgs false

/-- The cells of a text. -/
def bv (s : ByteArray) : List Value := s.data.toList.map (fun b => Value.int .u8 (b.toNat : Int))
theorem bv_app (s t : ByteArray) : bv (s ++ t) = bv s ++ bv t := by simp [bv, ByteArray.data_append]
theorem bv_len (s : ByteArray) : (bv s).length = s.size := by rw [bv, List.length_map, Array.length_toList]; rfl

/-- The slice v owns the text s, in a block of Q. -/
structure OutQ (Q : Nat → Prop) (w : World) (v : Value) (s : ByteArray) : Prop where
  own : OwnC Q w v 1 s.size (bv s)
  lt : ∀ b, Q b → b < w.heap.size
theorem OutQ.nil (w : World) : OutQ (fun _ => False) w (.slice none 0 0) ByteArray.empty := ⟨.inl ⟨rfl, rfl, rfl⟩, fun _ h => h.elim⟩
theorem OutQ.later {Q : Nat → Prop} {w w' : World} {v : Value} {s : ByteArray} (h : OutQ Q w v s) (k : Below w.heap.size w w') : OutQ Q w' v s :=
  ⟨own_late h.own (by omega) k, fun b hb => Nat.lt_of_lt_of_le (h.lt b hb) k.size⟩
theorem OutQ.shape {Q : Nat → Prop} {w : World} {v : Value} {s : ByteArray} (h : OutQ Q w v s) : ∃ a c, v = .slice a s.size c := by
  rcases h.own with ⟨rfl, e, _⟩ | ⟨g, cap, rfl, _⟩
  · exact ⟨none, 0, by rw [e]⟩
  · exact ⟨_, _, rfl⟩

/-- Since the world w0, where the text lay in Q, nothing else has turned; now it is s. -/
def Gone (Q : Nat → Prop) (w0 w : World) (v : Value) (s : ByteArray) : Prop := ∃ Q' : Nat → Prop, OutQ Q' w v s ∧ (∀ b, Q' b → Q b ∨ w0.heap.size ≤ b) ∧ Keep Q w0 w
theorem Gone.start {Q : Nat → Prop} {w : World} {v : Value} {s : ByteArray} (h : OutQ Q w v s) : Gone Q w w v s := ⟨Q, h, fun b hb => .inl hb, Keep.refl _ _⟩
theorem Gone.later {Q : Nat → Prop} {w0 w w' : World} {v : Value} {s : ByteArray} (h : Gone Q w0 w v s) (k : Below w.heap.size w w') : Gone Q w0 w' v s := by
  obtain ⟨Q', h1, h2, h3⟩ := h
  exact ⟨Q', h1.later k, h2, h3.trans (Keep.of_below k (fun k hk _ => hk))⟩
theorem Gone.size {Q : Nat → Prop} {w0 w : World} {v : Value} {s : ByteArray} (h : Gone Q w0 w v s) : w0.heap.size ≤ w.heap.size := by
  obtain ⟨Q', h1, h2, h3⟩ := h
  exact h3.size
theorem Gone.shape {Q : Nat → Prop} {w0 w : World} {v : Value} {s : ByteArray} (h : Gone Q w0 w v s) : ∃ a c, v = .slice a s.size c := by
  obtain ⟨Q', h1, h2, h3⟩ := h
  exact h1.shape
theorem Gone.keep {Q : Nat → Prop} {w0 w : World} {v : Value} {s : ByteArray} (h : Gone Q w0 w v s) : Keep Q w0 w := by
  obtain ⟨Q', h1, h2, h3⟩ := h
  exact h3
theorem keep_next {Q Q' : Nat → Prop} {w0 w w' : World} (h : Keep Q w0 w) (hq : ∀ b, Q' b → Q b ∨ w0.heap.size ≤ b) (k : Keep Q' w w') : Keep Q w0 w' :=
  ⟨k.os.trans h.os, k.tape.trans h.tape, k.output.trans h.output, Nat.le_trans h.size k.size, fun b hb hn => (k.block b (Nat.lt_of_lt_of_le hb h.size) (fun q => by
    rcases hq b q with q | q
    · exact hn q
    · omega)).trans (h.block b hb hn)⟩
/-- What a function that appends the text t leaves. -/
def Puts (Q : Nat → Prop) (s t : ByteArray) (w : World) (e : Ending) (w' : World) : Prop := ∃ v, e = .returned v ∧ Gone Q w w' v (s ++ t)
/-- A call of it. -/
theorem Gone.call {f : FuncId} {args : Array Value} {Q : Nat → Prop} {w0 w : World} {v : Value} {s t : ByteArray} (h : Gone Q w0 w v s) (hc : ∀ Q', OutQ Q' w v s → (∀ b, Q' b → Q b ∨ w0.heap.size ≤ b) → Calls Try.prog f args w (Puts Q' s t w)) :
    Calls Try.prog f args w (fun e w' => ∃ a c r, e = .returned (.slice a r.size c) ∧ Hid (r = s ++ t) ∧ Hid (r.size = s.size + t.size) ∧ Hid (Gone Q w0 w' (.slice a r.size c) r)) := by
  obtain ⟨Q', h1, h2, h3⟩ := h
  refine (hc Q' h1 h2).mono ?_
  rintro e w' ⟨v', rfl, Q2, k1, k2, k3⟩
  obtain ⟨a, c, rfl⟩ := k1.shape
  exact ⟨a, c, s ++ t, rfl, rfl, ByteArray.size_append, Q2, k1, fun b hb => by
    rcases k2 b hb with q | q
    · exact h2 b q
    · exact .inr (Nat.le_trans h3.size q), keep_next h3 h2 k3⟩

theorem Grew.keep {Q : Nat → Prop} {w w' : World} (h : Grew Q w w') : Keep Q w w' := ⟨h.os, h.tape, h.output, h.size, h.block⟩
/-- Behind an append. -/
theorem out_of {Q : Nat → Prop} {w w' : World} {v : Value} {s t : ByteArray} (hQ : ∀ b, Q b → b < w.heap.size) (h : OwnC (fun b => Q b ∨ w.heap.size ≤ b) w' v 1 (s.size + t.size) (bv s ++ bv t)) (g : Grew (fun b => Q b) w w') (ht : 0 < t.size) :
    OutQ (fun b => (Q b ∨ w.heap.size ≤ b) ∧ b < w'.heap.size) w' v (s ++ t) := by
  refine ⟨?_, fun b hb => hb.2⟩
  rw [ByteArray.size_append, bv_app]
  rcases h with ⟨_, e, _⟩ | ⟨x, cap, e, hq, h3, h4, h5, h6⟩
  · omega
  · refine .inr ⟨x, cap, e, ⟨hq, ?_⟩, h3, h4, h5, h6⟩
    obtain ⟨u, hu⟩ := Option.isSome_iff_exists.1 (h6 0 (by omega)).1
    exact lt_of_cell hu

theorem gone_app {Q : Nat → Prop} {w0 w w' : World} {v : Value} {s t : ByteArray} {Q' : Nat → Prop} (h1 : OutQ Q' w v s) (h2 : ∀ b, Q' b → Q b ∨ w0.heap.size ≤ b) (h3 : Keep Q w0 w) {v' : Value} (k1 : OwnC (fun b => Q' b ∨ w.heap.size ≤ b) w' v' 1 (s.size + t.size) (bv s ++ bv t)) (k2 : Grew (fun b => Q' b) w w') (ht : 0 < t.size) : Gone Q w0 w' v' (s ++ t) :=
  ⟨_, out_of h1.lt k1 k2 ht, fun b hb => by
    rcases hb.1 with q | q
    · exact h2 b q
    · exact .inr (Nat.le_trans h3.size q), keep_next h3 h2 k2.keep⟩
theorem outA {ops : Array Oper} {rest : List Oper} {o : Oper} {a : Act} {P' : Exit → Act → World → Prop} {w : World} (hgd : o.guard = none) (s x : Operand) (tx : TypeId) (ho : o.op = .call { callee := .builtin .append, args := #[s, x], argTypes := #[22, tx] })
    {Q : Nat → Prop} {w0 : World} {v y : Value} {r t : ByteArray} (hs : a.eval s = v) (hx : a.eval x = y) (hown : Gone Q w0 w v r) (hsrc : Src Try.prog 1 tx y t.size (bv t) w) (k m : Nat) (hk : r.size ≤ k) (hm : t.size ≤ m) (hlen : k + m ≤ 16777216) (ht : 0 < t.size)
    (h : ∀ w' r' a' c', Hid (r' = r ++ t) → Hid (r'.size ≤ k + m) → Hid (Gone Q w0 w' (.slice a' r'.size c') r') → wpList Try.prog ops P' rest (a.put o.dst (.slice a' r'.size c')) w') : wpList Try.prog ops P' (o :: rest) a w := by
  obtain ⟨Q', h1, h2, h3⟩ := hown
  refine appC hgd s x 22 tx ho hs hx elem22 h1.own hsrc (by omega) (fun _ => ht) ?_
  intro v' w' k1 k2 k3
  have hg := gone_app h1 h2 h3 k1 k2 ht
  obtain ⟨a', c', rfl⟩ := hg.shape
  exact h w' (r ++ t) a' c' rfl (show _ ≤ _ by rw [ByteArray.size_append]; omega) hg
theorem outS {ops : Array Oper} {o : Oper} {a : Act} {w : World} {K : Act → World → Prop} {P' : Exit → Act → World → Prop} {E : Prop} (hgd : o.guard = none) (s x : Operand) (tx : TypeId) (ho : o.op = .call { callee := .builtin .append, args := #[s, x], argTypes := #[22, tx] })
    {Q : Nat → Prop} {w0 : World} {v y : Value} {r t : ByteArray} (hs : a.eval s = v) (hx : a.eval x = y) (hown : Gone Q w0 w v r) (hsrc : Src Try.prog 1 tx y t.size (bv t) w) (k m : Nat) (hk : r.size ≤ k) (hm : t.size ≤ m) (hlen : k + m ≤ 16777216) (ht : 0 < t.size)
    (h : ∀ w' r' a' c', Hid (r' = r ++ t) → Hid (r'.size ≤ k + m) → Hid (Gone Q w0 w' (.slice a' r'.size c') r') → K (a.put o.dst (.slice a' r'.size c')) w') : if Region.wanted o (yielded ops a.tmps) = true then Oper.wp Try.prog o a w K P' else E := by
  obtain ⟨Q', h1, h2, h3⟩ := hown
  refine stepC hgd s x 22 tx ho hs hx elem22 h1.own hsrc (by omega) (fun _ => ht) ?_
  intro v' w' k1 k2 k3
  have hg := gone_app h1 h2 h3 k1 k2 ht
  obtain ⟨a', c', rfl⟩ := hg.shape
  exact h w' (r ++ t) a' c' rfl (show _ ≤ _ by rw [ByteArray.size_append]; omega) hg

/-! ### What is appended -/
theorem src_str (w : World) (s : ByteArray) : Src Try.prog 1 9 (.string s) s.size (bv s) w := by
  have e : bv s = Go.byteCells s := by simp [bv, Go.byteCells]
  rw [e]
  exact Src.ofString w Try.underlying9 s
theorem src_cells {w : World} {g n c : Nat} {s : ByteArray} (hn : n = s.size) (h : ∀ j u, (bv s)[j]? = some u → w.cell? ⟨g, j, none⟩ = some u) : Src Try.prog 1 22 (.slice (some ⟨g, 0, none⟩) n c) s.size (bv s) w := by
  subst hn
  refine Src.ofSlice _ Try.underlying22 ⟨g, 0, none⟩ s.size c _ (by rw [bv_len]; omega) (fun j u hu => ?_) (fun u hu => ?_)
  · have e : (⟨g, 0, none⟩ : Addr).add j = ⟨g, j, none⟩ := by
      by_cases h0 : j = 0
      · subst h0; simp [Addr.add]
      · simp [Addr.add, h0]
    rw [e]
    exact h j u hu
  · obtain ⟨z, _, rfl⟩ := List.mem_map.1 hu
    rfl
/-- A row that was built of the text's bytes. -/
theorem src_new (w : World) (s : ByteArray) (n c : Nat) (hn : n = s.size) (cs : Array Value) (hcs : cs.toList = bv s) : Src Try.prog 1 22 (.slice (some ⟨w.heap.size, 0, none⟩) n c) s.size (bv s) (w.alloc (.cells cs 5)) := by
  refine src_cells hn (fun j u hu => cN w.heap.size rfl ?_)
  rw [← hcs] at hu
  simpa using hu
theorem src_ints {Q : Nat → Prop} {w : World} {a : Option Addr} {n c : Nat} {T : Nat → Int} (h : Ints Q .u8 w a n T) (hT : Byt n T) : Src Try.prog 1 22 (.slice a n c) (str n T).size (bv (str n T)) w := by
  rcases h with h0 | ⟨b, off, rfl, hq, hc⟩
  · subst h0
    have e : bv (str 0 T) = [] := by rw [← List.length_eq_zero_iff, bv_len, str_size]
    rw [e, str_size]
    cases a with
    | none => exact Src.ofNil w Try.underlying22 c
    | some x => exact Src.ofSlice w Try.underlying22 x 0 c [] rfl (fun j u hu => by simp at hu) (fun u hu => by cases hu)
  · have hs : (str n T).size = n := str_size n T
    rw [hs]
    refine Src.ofSlice w Try.underlying22 ⟨b, off, none⟩ n c _ (by rw [bv_len, hs]; omega) (fun j u hu => ?_) (fun u hu => ?_)
    · have hj : j < n := by
        have := (List.getElem?_eq_some_iff.1 hu).1
        rw [bv_len, hs] at this; exact this
      have e : (⟨b, off, none⟩ : Addr).add j = ⟨b, off + j, none⟩ := by
        by_cases h0 : j = 0
        · subst h0; simp [Addr.add]
        · simp [Addr.add, h0]
      rw [e, hc j hj]
      unfold bv at hu
      rw [str_data] at hu
      unfold u8s at hu
      simp [hj] at hu
      have h9 := hT j hj
      have e2 : ((UInt8.ofNat (T j).toNat).toNat : Int) = T j := by
        rw [UInt8.toNat_ofNat']
        omega
      rw [← hu]
      first | rw [e2] | (have e3 : (T j).toNat % 256 = (T j).toNat := by omega
                         simp [e3]; omega)
    · obtain ⟨z, _, rfl⟩ := List.mem_map.1 hu
      rfl

end Go.Proofs.Ytjpcojabdjldbaa
