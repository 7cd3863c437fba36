/-
  Walks: the sequence of a text's characters.
-/
import Derived.Test.YtcllnadfbmkigaaIter
import Derived.Test.YtcllnadfbmkigaaCopy
import Derived.Shelf.Abstract
import Derived.Shelf.RegionOpen
import Derived.OwnWalkIn
import Derived.TacticsInMore
import Derived.LoopNIn
import Derived.LoopIn
namespace Go.Proofs.Ytcllnadfbmkigaa
open Go.RowKit Go.Shelf
set_option linter.unusedVariables false
attribute [local go_sem] Oper.semAt_some

theorem sameTx {w W : World} {b off n : Nat} {T : Nat → Int} (h : Tx w b off n T) (e : 0 < n → W.heap[b]? = w.heap[b]?) : Tx W b off n T := fun i hi =>
  (World.cell?_of_block (a := ⟨b, off + i, none⟩) (e (by omega))).trans (h i hi)

set_option maxRecDepth 100000 in
set_option maxHeartbeats 2000000 in
theorem chars_gives (bx b off m cap : Nat) (a : Option Addr) (B : Nat → Int) (w : World) (hbx : w.cell? ⟨bx, 0, none⟩ = some (.slice a m cap)) (hB : Tx w b off m B) (hb : ∀ i, 0 ≤ B i ∧ B i ≤ 255) (hm : m ≤ 1048576) (hcap : m ≤ cap) (hA : 0 < m → a = some ⟨b, off, none⟩) :
    Gives Try.prog 21 #[.pointer (some ⟨bx, 0, none⟩)] 0 (fun p => p < m) (fun p => p + M.cl B m p) (fun p => #[.int .i64 (p : Nat)]) (fun k => k = bx ∨ (k = b ∧ 0 < m)) w := by
  intro l C J Jx W hsz hD hDC hCW hJ hJx hY h0
  have hdep : Fence.wide.depth = none := rfl
  refine callsIn_of_wp Try.func21 rfl trivial ?_ rfl
  simp only [Try.ntmps21, List.size_toArray, List.length_cons, List.length_nil, Nat.reduceAdd, Nat.reduceSub, Array.replicate_succ, Array.replicate_zero, List.push_toArray, List.append_toArray, List.nil_append, List.cons_append]
  gi_wp2
  gi_loopw [3] (fun i wr => ∃ p : Nat, p ≤ m ∧ i = .int .i64 p ∧ J p wr ∧ W.heap.size ≤ wr.heap.size ∧ ∀ k, (k = bx ∨ (k = b ∧ 0 < m)) → wr.heap[k]? = w.heap[k]?)
    (fun i _ => m - (intOf i).toNat)
  case atStart => exact ⟨0, Nat.zero_le _, rfl, h0, Nat.le_refl _, hD⟩
  case round =>
    obtain ⟨p, hp, rfl, hJs, hszr, hDr⟩ := hrel
    have hcx : wr.cell? ⟨bx, 0, none⟩ = some (.slice a m cap) := (World.cell?_of_block (a := ⟨bx, 0, none⟩) (hDr bx (.inl rfl))).trans hbx
    by_cases hlt : p < m
    · obtain rfl := hA (by omega)
      clear hA
      obtain ⟨fn, tmps, assign, body, hy, hR⟩ := hY p wr hJs hlt
      gi_wp2
      refine hR.mono ?_
      rintro e W3 (⟨rfl, hJ3, hk3⟩ | ⟨rfl, hJx3, _⟩)
      · have hD3 : ∀ k, (k = bx ∨ (k = b ∧ 0 < m)) → W3.heap[k]? = w.heap[k]? := fun k hk => by
          refine (hk3.block k ?_ (hDC k hk)).trans (hDr k hk)
          rcases hk with rfl | ⟨rfl, hm0⟩
          · exact Nat.lt_of_lt_of_le (Nat.lt_of_lt_of_le (lt_of_cell hbx) hsz) hszr
          · exact Nat.lt_of_lt_of_le (Nat.lt_of_lt_of_le (lt_of_cell (hB 0 hm0)) hsz) hszr
        have hc3 : W3.cell? ⟨bx, 0, none⟩ = some (.slice (some ⟨b, off, none⟩) m cap) := (World.cell?_of_block (a := ⟨bx, 0, none⟩) (hD3 bx (.inl rfl))).trans hbx
        have hB3 : Tx W3 b off m B := sameTx hB (fun h => hD3 b (.inr ⟨rfl, h⟩))
        have hl := M.cl_le B m p hlt
        have hl2 := M.cl_pos B m p
        gi_wp2_with (refine ⟨trivial, ?_⟩; gi_at_call 22; refine (callsIn_wide.2 (charLen_in b off m cap p B W3 hB3 hb hm hcap hlt)).mono ?_; rintro e w' ⟨rfl, rfl⟩)
        go_roundw
        case rel => exact ⟨p + M.cl B m p, hl, by go_num, hJ3, Nat.le_trans hszr hk3.size, hD3⟩
        case measure => simp [intOf]; omega
      · gi_wp2
        refine bodyPost_ret (results_none rfl _ _ _) rfl ?_
        exact ⟨⟨_, rfl⟩, .inr ⟨p, hlt, hJx3⟩⟩
    · gi_wp2
      go_end0
      exact ⟨⟨_, rfl⟩, .inl ⟨p, hlt, hJs⟩⟩

set_option maxHeartbeats 1000000 in
theorem characters_in (a : Option Addr) (n cap : Nat) (w : World) :
    CallsIn Fence.wide 0 Try.prog 18 #[.slice a n cap] w fun e w' => e = .returned (.func (.func 21) #[] #[.pointer (some ⟨w.heap.size, 0, none⟩)]) ∧ w' = w.alloc (.cells #[.slice a n cap] 22) := by
  refine callsIn_of_wp Try.func18 rfl trivial ?_ rfl
  simp only [Try.ntmps18, List.size_toArray, List.length_cons, List.length_nil, Nat.reduceAdd, Nat.reduceSub, Array.replicate_succ, Array.replicate_zero, List.push_toArray, List.append_toArray, List.nil_append, List.cons_append]
  gi_wp2
  go_ret
  exact ⟨rfl, rfl⟩

/-- A line as a value. -/
abbrev lineV (num from_ : Nat) (a : Option Addr) (m cap : Nat) : Value := .agg #[.int .i64 num, .int .i64 from_, .slice a m cap]

set_option maxHeartbeats 1000000 in
theorem end_in (num from_ : Nat) (a : Option Addr) (m cap : Nat) (w : World) (hf : from_ ≤ 1048576) (hm : m ≤ 1048576) :
    CallsIn Fence.wide 0 Try.prog 19 #[lineV num from_ a m cap] w fun e w' => e = .returned (.int .i64 (from_ + m : Nat)) ∧ w' = w.alloc (.cells #[.int .i64 num, .int .i64 from_, .slice a m cap] 29) := by
  refine callsIn_of_wp Try.func19 rfl trivial ?_ rfl
  simp only [Try.ntmps19, List.size_toArray, List.length_cons, List.length_nil, Nat.reduceAdd, Nat.reduceSub, Array.replicate_succ, Array.replicate_zero, List.push_toArray, List.append_toArray, List.nil_append, List.cons_append]
  gi_wp2
  go_ret
  exact ⟨by simp, rfl⟩

set_option maxHeartbeats 1000000 in
theorem places_in (num from_ : Nat) (a : Option Addr) (m cap : Nat) (w : World) :
    CallsIn Fence.wide 0 Try.prog 14 #[lineV num from_ a m cap] w fun e w' => e = .returned (.func (.func 17) #[] #[.pointer (some ⟨w.heap.size, 0, none⟩)]) ∧ w' = w.alloc (.cells #[.int .i64 num, .int .i64 from_, .slice a m cap] 29) := by
  refine callsIn_of_wp Try.func14 rfl trivial ?_ rfl
  simp only [Try.ntmps14, List.size_toArray, List.length_cons, List.length_nil, Nat.reduceAdd, Nat.reduceSub, Array.replicate_succ, Array.replicate_zero, List.push_toArray, List.append_toArray, List.nil_append, List.cons_append]
  gi_wp2
  go_ret
  exact ⟨rfl, rfl⟩

set_option maxHeartbeats 1000000 in
theorem all_in (a : Option Addr) (n cap : Nat) (w : World) :
    CallsIn Fence.wide 0 Try.prog 13 #[.slice a n cap] w fun e w' => e = .returned (.func (.func 15) #[] #[.pointer (some ⟨w.heap.size, 0, none⟩)]) ∧ w' = w.alloc (.cells #[.slice a n cap] 31) := by
  refine callsIn_of_wp Try.func13 rfl trivial ?_ rfl
  simp only [Try.ntmps13, List.size_toArray, List.length_cons, List.length_nil, Nat.reduceAdd, Nat.reduceSub, Array.replicate_succ, Array.replicate_zero, List.push_toArray, List.append_toArray, List.nil_append, List.cons_append]
  gi_wp2
  go_ret
  exact ⟨rfl, rfl⟩

end Go.Proofs.Ytcllnadfbmkigaa
