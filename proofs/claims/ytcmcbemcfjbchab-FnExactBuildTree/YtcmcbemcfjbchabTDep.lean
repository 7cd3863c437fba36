/-
  Walks: the specification's l5depths; rows of nodes that grow.
-/
import Derived.Test.YtcmcbemcfjbchabTSpec
namespace Go.Proofs.Ytcmcbemcfjbchab
open Go.RowKit
set_option linter.unusedVariables false
set_option linter.unusedSimpArgs false

def dl (E : Nat → EvD) : Nat → List Int
  | 0 => []
  | k + 1 => dl E k ++ [dpt E k]
theorem dl_len (E : Nat → EvD) (k : Nat) : (dl E k).length = k := by
  induction k with
  | zero => rfl
  | succ k ih => rw [dl, List.length_append, ih]; rfl
theorem dl_at (E : Nat → EvD) {k n : Nat} (h : k < n) : (dl E n)[k]? = some (dpt E k) := by
  induction n with
  | zero => omega
  | succ n ih =>
    rw [dl]
    by_cases e : k = n
    · subst e; rw [List.getElem?_append_right (by rw [dl_len]; exact Nat.le_refl _), dl_len]; simp
    · rw [List.getElem?_append_left (by rw [dl_len]; omega)]; exact ih (by omega)
def deI (w : World) (n : Nat) (E : Nat → EvD) (ov nv iv : Value) (wr : World) : Prop := ∃ k : Nat, k ≤ n ∧ iv = .int .i64 (k : Int) ∧ nv = .int .i64 (opn E k) ∧ OwnL w wr ov (dl E k)

set_option maxRecDepth 100000 in
set_option maxHeartbeats 4000000 in
theorem l5depths_any (Q : Nat → Prop) (a : Option Addr) (n c : Nat) (E : Nat → EvD) (w : World) (hE : EvA Q w a n E) (hn : n ≤ 1048576) (hp : Pre E n) :
    Calls Try.prog 113 #[.slice a n c] w (GivesL (dl E n) w) := by
  have HE : Hid (EvA Q w a n E) := hE
  have HP : Hid (Pre E n) := hp
  clear hE hp
  go_enter Try.func113, Try.ntmps113
  go_wp2
  go_loopw [3, 4, 5] (fun ov nv iv wr => deI w n E ov nv iv wr) (fun ov nv iv _ => n - (intOf iv).toNat)
  case atStart => exact ⟨0, Nat.zero_le _, rfl, rfl, OwnL.nil (Below.refl _ _)⟩
  case round =>
    obtain ⟨k, hk, rfl, rfl, hO⟩ := hrel
    obtain ⟨oa, oc, rfl⟩ := hO.shape
    rw [dl_len] at hO ⊢
    have o1 := opn_le E k
    have o2 := opn_ge (HP.out.less hk)
    obtain ⟨o, ho⟩ : ∃ o, opn E k = o := ⟨_, rfl⟩
    have HOP : Hid (opn E k = o) := ho
    rw [ho] at o1 o2 ⊢
    have HO : Hid (OwnL w wr (.slice oa k oc) (dl E k)) := hO
    clear hO ho
    by_cases hlt : k < n
    · have hE := HE.out.later HO.out.bel
      rcases hE with h0 | ⟨b, off, rfl, hq, hE⟩
      · omega
      obtain ⟨c0, c1, c2⟩ := hE k hlt
      have lb := lt_of_cell c0
      have hlt' : (k : Int) < (n : Int) := by omega
      clear hE c1 c2
      cases hc : ((E k).kind == 2) with
      | true =>
        have HC : Hid (opn E (k + 1) = o - 1) := by show _ = _; rw [opn_close (by unfold cls; exact hc), HOP.out]
        have HD : Hid (dl E (k + 1) = dl E k ++ [o]) := by show _ = _; rw [dl, dpt, show cls E k = true from hc, if_pos rfl, HOP.out]
        go_wp2_with (at_builtin; refine listA (l := dl E k) rfl _ _ rfl rfl rfl HO.out (by rw [dl_len]; omega) ?_; intro W L n1 a1 c1 E1 E2 E3)
        go_roundw
        case rel => exact ⟨k + 1, by omega, by go_num, by rw [HC.out], by rw [HD.out, ← E1.out]; exact E3.out⟩
        case measure => first | (simp [intOf]; done) | (simp [intOf]; omega)
      | false =>
        have HC : Hid (opn E (k + 1) = o + 1) := by show _ = _; rw [opn_open (by unfold cls; exact hc), HOP.out]
        have HD : Hid (dl E (k + 1) = dl E k ++ [o + 1]) := by show _ = _; rw [dl, dpt, show cls E k = false from hc, HOP.out]; rfl
        go_wp2_with (at_builtin; refine listA (l := dl E k) rfl _ _ rfl rfl rfl HO.out (by rw [dl_len]; omega) ?_; intro W L n1 a1 c1 E1 E2 E3)
        go_roundw
        case rel => exact ⟨k + 1, by omega, by go_num, by rw [HC.out], by rw [HD.out, ← E1.out]; exact E3.out⟩
        case measure => first | (simp [intOf]; done) | (simp [intOf]; omega)
    · obtain rfl : k = n := by omega
      go_wp2
      go_ret
      exact ⟨oa, oc, by rw [dl_len]; rfl, by rw [dl_len]; exact HO.out⟩

/-! ### A row of nodes that grows -/
/-- A row of nodes in memory of its own, from block lo on. -/
def OwnR (lo : Nat) (w0 w : World) (v : Value) (m : Nat) (cs : List Value) : Prop := ∃ P, OwnC P w v 5 m cs ∧ (∀ b, P b → lo ≤ b ∧ b < w.heap.size) ∧ w0.heap.size ≤ lo ∧ lo ≤ w.heap.size ∧ Below w0.heap.size w0 w
theorem OwnR.bel {lo : Nat} {w0 w : World} {v : Value} {m : Nat} {cs : List Value} (h : OwnR lo w0 w v m cs) : Below w0.heap.size w0 w := let ⟨_, _, _, _, _, h⟩ := h; h
theorem OwnR.shape {lo : Nat} {w0 w : World} {v : Value} {m : Nat} {cs : List Value} (h : OwnR lo w0 w v m cs) : ∃ a c, v = .slice a m c := let ⟨_, h, _⟩ := h; own_shape h
theorem OwnR.later {lo : Nat} {w0 w w' : World} {v : Value} {m : Nat} {cs : List Value} (h : OwnR lo w0 w v m cs) (k : Below w.heap.size w w') : OwnR lo w0 w' v m cs := by
  obtain ⟨P, ho, hp, h1, h2, hb⟩ := h
  have := k.size
  exact ⟨P, ho.on (fun b hb => k.block b (hp b hb).2), fun b q => ⟨(hp b q).1, by have := (hp b q).2; omega⟩, h1, by omega, bel_tr hb k⟩
/-- A store into a block below. -/
theorem OwnR.under {lo : Nat} {w0 w : World} {v : Value} {m : Nat} {cs : List Value} (h : OwnR lo w0 w v m cs) (b o : Nat) (u : Value) (h1 : w0.heap.size ≤ b) (h2 : b < lo) : OwnR lo w0 (w.setCell ⟨b, o, none⟩ u) v m cs := by
  obtain ⟨P, ho, hp, q1, q2, hb⟩ := h
  exact ⟨P, ho.on (stay_set _ _ _ (fun q => by have := (hp b q).1; omega)), fun x q => by rw [size_set]; exact hp x q, q1, by rw [size_set]; exact q2, bel_set hb _ _ _ h1⟩
theorem info155 : (Try.prog.info? 155).map (fun i => (i.zero, i.size, i.bytes)) = some (some (.agg #[.int .i64 0, .int .i64 0, .int .i64 0, .int .i64 0, .int .i64 0]), 5, 40) := by kernel_rfl
theorem elem68 : ElemT 68 155 5 40 := ⟨Try.underlying68, ⟨_, info155, rfl⟩, by omega⟩
def ndO (d : NdD) : Obj := .cells #[.int .i64 d.kind, .int .i64 d.arg, .int .i64 d.frm, .int .i64 d.to, .int .i64 d.par] 155
theorem src_nd (w : World) (d : NdD) : Src Try.prog 5 68 (.slice (some ⟨w.heap.size, 0, none⟩) 1 1) 1 (ndv d) (w.alloc (ndO d)) := by
  refine Src.ofSlice (P := Try.prog) _ Try.underlying68 ⟨w.heap.size, 0, none⟩ 1 1 (ndv d) rfl (fun j u hu => ?_) (fun u hu => ?_)
  · have e' : (⟨w.heap.size, 0, none⟩ : Addr).add j = ⟨w.heap.size, j, none⟩ := by
      by_cases h0 : j = 0
      · subst h0; simp [Addr.add]
      · simp [Addr.add, h0]
    rw [e']
    match j, hu with
    | 0, hu => exact cN w.heap.size rfl hu
    | 1, hu => exact cN w.heap.size rfl hu
    | 2, hu => exact cN w.heap.size rfl hu
    | 3, hu => exact cN w.heap.size rfl hu
    | 4, hu => exact cN w.heap.size rfl hu
    | j + 5, hu => simp [ndv] at hu
  · simp [ndv] at hu
    rcases hu with rfl | rfl | rfl | rfl | rfl <;> rfl
theorem node_grow {lo : Nat} {w0 w1 : World} {m : Nat} {cs : List Value} (d : NdD) {P : Nat → Prop} (hp : ∀ b, P b → lo ≤ b ∧ b < w1.heap.size) (q1 : w0.heap.size ≤ lo) (q2 : lo ≤ w1.heap.size) (hb : Below w0.heap.size w0 w1) {v' : Value} {w' : World}
    (k1 : OwnC (fun b => P b ∨ (w1.alloc (ndO d)).heap.size ≤ b) w' v' 5 (m + 1) (cs ++ ndv d)) (k2 : Grew (fun b => P b) (w1.alloc (ndO d)) w') :
    OwnR lo w0 w' v' (m + 1) (cs ++ ndv d) ∧ (∀ b, b < lo → w'.heap[b]? = w1.heap[b]?) := by
  have b1 := bel1 w1 (ndO d)
  have hs1 := b1.size
  have hk := k2.size
  refine ⟨⟨fun b => (P b ∨ (w1.alloc (ndO d)).heap.size ≤ b) ∧ b < w'.heap.size, ?_, ?_, q1, by omega, ?_⟩, fun b hb => ?_⟩
  · rcases k1 with q | ⟨g, cap, e, hq, h3, h4, h5, h6⟩
    · exact .inl q
    · refine .inr ⟨g, cap, e, ⟨hq, ?_⟩, h3, h4, h5, h6⟩
      obtain ⟨u, hu⟩ := Option.isSome_iff_exists.1 (h6 0 (by omega)).1
      exact lt_of_cell hu
  · rintro b ⟨q | q, hlt⟩
    · exact ⟨(hp b q).1, hlt⟩
    · exact ⟨by omega, hlt⟩
  · exact ⟨k2.os.trans (b1.os.trans hb.os), k2.tape.trans (b1.tape.trans hb.tape), k2.output.trans (b1.output.trans hb.output), by have := hb.size; omega, fun b hbb => (k2.block b (by omega) (fun q => by have := (hp b q).1; omega)).trans ((b1.block b (by omega)).trans (hb.block b hbb))⟩
  · exact (k2.block b (by omega) (fun q => by have := (hp b q).1; omega)).trans (b1.block b (by omega))
theorem nodeA {ops : Array Oper} {rest : List Oper} {o : Oper} {a : Act} {P' : Exit → Act → World → Prop} (hgd : o.guard = none) (s x : Operand) (ho : o.op = .call { callee := .builtin .append, args := #[s, x], argTypes := #[68, 68] })
    {lo : Nat} {w0 w1 : World} {v : Value} {m : Nat} {cs : List Value} {d : NdD} (hs : a.eval s = v) (hx : a.eval x = .slice (some ⟨w1.heap.size, 0, none⟩) 1 1) (h : OwnR lo w0 w1 v m cs) (hl : m ≤ 4194304)
    (k : ∀ w' a' c', Hid (OwnR lo w0 w' (.slice a' (m + 1) c') (m + 1) (cs ++ ndv d)) → Hid (∀ b, b < lo → w'.heap[b]? = w1.heap[b]?) → wpList Try.prog ops P' rest (a.put o.dst (.slice a' (m + 1) c')) w') : wpList Try.prog ops P' (o :: rest) a (w1.alloc (ndO d)) := by
  obtain ⟨P, ho1, hp, q1, q2, hb⟩ := h
  have b1 := bel1 w1 (ndO d)
  refine appC hgd s x 68 68 ho hs hx elem68 (ho1.on (fun b hb => b1.block b (hp b hb).2)) (src_nd w1 d) (by omega) (fun _ => Nat.one_pos) ?_
  intro v' w' k1 k2 k3
  obtain ⟨a', c', rfl⟩ := own_shape k1
  have hR := node_grow d hp q1 q2 hb k1 k2
  exact k w' a' c' hR.1 hR.2
theorem nodeT {ops : Array Oper} {o : Oper} {a : Act} {w : World} {K : Act → World → Prop} {P' : Exit → Act → World → Prop} {E : Prop} (hgd : o.guard = none) (s x : Operand) (ho : o.op = .call { callee := .builtin .append, args := #[s, x], argTypes := #[68, 68] })
    {lo : Nat} {w0 w1 : World} {v y : Value} {m : Nat} {cs : List Value} {d : NdD} (hs : a.eval s = v) (hx : a.eval x = y) (hy : y = .slice (some ⟨w1.heap.size, 0, none⟩) 1 1) (hw : w = w1.alloc (ndO d)) (h : OwnR lo w0 w1 v m cs) (hl : m ≤ 4194304)
    (k : ∀ w' a' c', Hid (OwnR lo w0 w' (.slice a' (m + 1) c') (m + 1) (cs ++ ndv d)) → Hid (∀ b, b < lo → w'.heap[b]? = w1.heap[b]?) → K (a.put o.dst (.slice a' (m + 1) c')) w') : if Region.wanted o (yielded ops a.tmps) = true then Oper.wp Try.prog o a w K P' else E := by
  subst hw hy
  obtain ⟨P, ho1, hp, q1, q2, hb⟩ := h
  have b1 := bel1 w1 (ndO d)
  refine stepC hgd s x 68 68 ho hs hx elem68 (ho1.on (fun b hb => b1.block b (hp b hb).2)) (src_nd w1 d) (by omega) (fun _ => Nat.one_pos) ?_
  intro v' w' k1 k2 k3
  obtain ⟨a', c', rfl⟩ := own_shape k1
  have hR := node_grow d hp q1 q2 hb k1 k2
  exact k w' a' c' hR.1 hR.2

end Go.Proofs.Ytcmcbemcfjbchab
