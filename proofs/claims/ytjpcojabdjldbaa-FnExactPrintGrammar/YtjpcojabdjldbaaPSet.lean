/-
  Walks: the text of a set.
-/
import Derived.Test.YtjpcojabdjldbaaPByte
import Derived.Deep.RegionWith
namespace Go.Proofs.Ytjpcojabdjldbaa
open Go.RowKit
open M (OpD NodeD Gr TX byteT hexD pairT midT setT b1)
set_option linter.unusedVariables false
set_option linter.unusedSimpArgs false

/-- The blocks of Qs are not those of the text that grows. -/
def Apart (Qs Q : Nat → Prop) (w : World) : Prop := ∀ b, Qs b → ¬ Q b ∧ b < w.heap.size
theorem Apart.next {Qs Q Q' : Nat → Prop} {w w' : World} (h : Apart Qs Q w) (k : w.heap.size ≤ w'.heap.size) (hq : ∀ b, Q' b → Q b ∨ w.heap.size ≤ b) : Apart Qs Q' w' := fun b hb =>
  ⟨fun q => by
    rcases hq b q with q | q
    · exact (h b hb).1 q
    · have := (h b hb).2; omega, Nat.lt_of_lt_of_le (h b hb).2 k⟩
theorem Apart.stay {Qs Q : Nat → Prop} {w w' : World} (h : Apart Qs Q w) (k : Keep Q w w') : Stay Qs w w' := fun b hb => k.block b (h b hb).2 (h b hb).1

theorem keep_b {C : Nat → Prop} {W W' : World} (h : Below W.heap.size W W') : Keep C W W' := Keep.of_below h (fun k hk _ => hk)
def eqI (w : World) (n : Nat) (S T : Nat → Int) (iv : Value) (wr : World) : Prop := ∃ k : Nat, k ≤ n ∧ iv = .int .i64 (k : Int) ∧ (∀ i, i < k → S i = T i) ∧ Below w.heap.size w wr

set_option maxRecDepth 100000 in
set_option maxHeartbeats 4000000 in
theorem equalInts (Q Q' : Nat → Prop) (a a' : Option Addr) (n m c c' : Nat) (S T : Nat → Int) (w : World) (h : Ints Q .i64 w a n S) (h' : Ints Q' .i64 w a' m T) (hn : n ≤ 1048576) :
    Calls Try.prog 142 #[.slice a n c, .slice a' m c'] w (SaysB (n = m ∧ ∀ i, i < n → S i = T i) w) := by
  have H : Hid (Ints Q .i64 w a n S) := h
  have H' : Hid (Ints Q' .i64 w a' m T) := h'
  clear h h'
  by_cases e : n = m
  · subst e
    go_enter Try.func142, Try.ntmps142
    go_wp2
    go_loopw [13] (fun iv wr => eqI w n S T iv wr) (fun iv _ => n - (intOf iv).toNat)
    case atStart => exact ⟨0, Nat.zero_le _, rfl, fun i hi => absurd hi (Nat.not_lt_zero _), Below.refl _ _⟩
    case round =>
      obtain ⟨k, hk, rfl, hsame, hbel⟩ := hrel
      have HS : Hid (∀ i, i < k → S i = T i) := hsame
      have HB : Hid (Below w.heap.size w wr) := hbel
      clear hsame hbel
      by_cases hlt : k < n
      · rcases H.out with q | ⟨b, off, rfl, hq, hc⟩
        · omega
        rcases H'.out with q | ⟨b', off', rfl, hq', hc'⟩
        · omega
        have x0 := cell_on (hc k hlt) HB.out
        have y0 := cell_on (hc' k hlt) HB.out
        clear hc hc' hq hq'
        by_cases hst : S k = T k
        · have HST : Hid (S k = T k) := hst
          go_wp2
          go_region
          go_wp2
          go_roundw
          case rel => exact ⟨k + 1, by omega, by go_num, fun i hi => if e : i = k then e ▸ HST.out else HS.out i (by omega), HB.out.drew⟩
          case measure => simp [intOf]; omega
        · have HST : Hid (¬ S k = T k) := hst
          have f : (S k != T k) = true := by simp [hst]
          go_wp2
          go_region
          go_wp2
          go_ret
          refine ⟨⟨_, rfl, ?_⟩, HB.out.drew⟩
          constructor
          · intro q; cases q
          · rintro ⟨_, q⟩; exact absurd (q k hlt) HST.out
      · obtain rfl : k = n := by omega
        go_wp2
        go_ret
        exact ⟨⟨_, rfl, fun _ => ⟨by trivial, HS.out⟩, fun _ => rfl⟩, HB.out⟩
  · have f : ((n : Int) != (m : Int)) = true := by simp; omega
    have HE : Hid (¬ n = m) := e
    clear e
    go_enter Try.func142, Try.ntmps142
    go_wp2
    go_ret
    refine ⟨⟨_, rfl, ?_⟩, Below.refl _ _⟩
    constructor
    · intro q; cases q
    · rintro ⟨q, _⟩; exact absurd q HE.out

/-- A call of a function as one step of a region that draws its order. -/
theorem stepCall2 {P : Program} {ops : Array Oper} {o : Oper} {a : Act} {w : World} {K : Act → World → Prop} {P' : Exit → Act → World → Prop} {E : Prop} {f : FuncId} (hf : ∀ args w, (callFunc f args).run P w = .ok (.enter f args) w) (hgd : o.guard = none) (x1 x2 : Operand) (t1 t2 : TypeId)
    (ho : o.op = .call { callee := .value (.func f), args := #[x1, x2], argTypes := #[t1, t2] }) {y1 y2 : Value} (hx1 : a.eval x1 = y1) (hx2 : a.eval x2 = y2) (h : Calls P f #[y1, y2] w (fun e w' => ∃ u, e = .returned u ∧ K (a.put o.dst u) w')) : if Region.wanted o (yielded ops a.tmps) = true then Oper.wp P o a w K P' else E := by
  have hw : Region.wanted o (yielded ops a.tmps) = true := by simp [Region.wanted, hgd]
  rw [if_pos hw]
  have hrun : (execOp a.eval o).run P w = .ok (.enter f #[y1, y2]) w := by
    have e : a.eval (.func f) = .func (.func f) #[] #[] := rfl
    unfold execOp
    simp only [ho, resolve, invoke, Deferred.ofValue, Sem.run_bind, Sem.run_pure, Result.andThen_ok, List.map_toArray, List.map_cons, List.map_nil, hx1, hx2, e]
    exact hf #[y1, y2] w
  unfold Oper.wp
  rw [hrun]
  refine Calls.mono h ?_
  rintro e w' ⟨u, rfl, hk⟩
  exact hk
theorem enter143 (args : Array Value) (w : World) : (callFunc 143 args).run Try.prog w = .ok (.enter 143 args) w := by
  simp [callFunc, Try.func143, Try.f143, go_sem]

theorem canon_at {n : Nat} {S : Nat → Int} (h : M.Canon n S) {k : Nat} (hk : 2 * k + 1 < n) : (0 ≤ S (2 * k) ∧ S (2 * k) ≤ 255) ∧ (0 ≤ S (2 * k + 1) ∧ S (2 * k + 1) ≤ 255) := by
  obtain ⟨h1, h2⟩ := h
  obtain ⟨q, rfl⟩ : ∃ q, n = 2 * q := ⟨n / 2, by omega⟩
  have hp := (M.pairs_canon S q).2 h2
  have key : ∀ j, j < q → 0 ≤ S (2 * j) := by
    intro j
    induction j with
    | zero => intro hj; have := (hp 0 hj).1; simp [M.least] at this; simpa using this
    | succ j ih =>
      intro hj
      have a := ih (by omega)
      have b := (hp j (by omega)).2.1
      have c := (hp (j + 1) hj).1
      unfold M.least at c
      rw [if_neg (by omega), show 2 * (j + 1) - 1 = 2 * j + 1 by omega] at c
      omega
  have a := key k (by omega)
  have b := hp k (by omega)
  have b1 := b.2.1
  have b2 := b.2.2
  exact ⟨⟨a, by omega⟩, ⟨by omega, b2⟩⟩

def setI (Q : Nat → Prop) (w0 : World) (r : ByteArray) (S : Nat → Int) (n : Nat) (ov iv : Value) (wr : World) : Prop :=
  ∃ (k : Nat) (s : ByteArray), 2 * k ≤ n ∧ iv = .int .i64 ((2 * k : Nat) : Int) ∧ s = r ++ b1 91 ++ midT S k ∧ Gone Q w0 wr ov s

theorem Apart.gone {Qs Q : Nat → Prop} {w0 w : World} {v : Value} {s : ByteArray} (h : Apart Qs Q w0) (g : Gone Q w0 w v s) : Stay Qs w0 w := h.stay g.keep
theorem Gone.cell {Q : Nat → Prop} {w0 w w' : World} {v : Value} {s : ByteArray} (g : Gone Q w w' v s) {b o : Nat} {u : Value} (hb : ¬ Q b) (h : w.cell? ⟨b, o, none⟩ = some u) : w'.cell? ⟨b, o, none⟩ = some u :=
  (g.keep.cell (p := ⟨b, o, none⟩) (lt_of_cell h) hb).trans h

set_option maxRecDepth 100000 in
set_option maxHeartbeats 8000000 in
theorem appendSet_any (Q Qs : Nat → Prop) (a : Option Addr) (n c : Nat) (S : Nat → Int) (v : Value) (r : ByteArray) (w : World) (h : OutQ Q w v r) (hS : Ints Qs .i64 w a n S) (hq : Apart Qs Q w) (hC : M.Canon n S) (hr : r.size ≤ 15000000) :
    Calls Try.prog 128 #[v, .slice a n c] w (Puts Q r (setT n S) w) := by
  have H : Hid (Gone Q w w v r) := Gone.start h
  have HS : Hid (Ints Qs .i64 w a n S) := hS
  have HQ : Hid (Apart Qs Q w) := hq
  have HC : Hid (M.Canon n S) := hC
  have hn := M.canon_len hC
  obtain ⟨va, vc, hv⟩ := h.shape
  have hev := hC.1
  clear h hS hq hC
  subst hv
  have hone : ∀ (W : World) (x : UInt8) (z : Int), z = (x.toNat : Int) → Src Try.prog 1 22 (.slice (some ⟨W.heap.size, 0, none⟩) 1 1) (b1 x).size (bv (b1 x)) (W.alloc (.cells #[.int .u8 z] 5)) := fun W x z hz => src_new W (b1 x) 1 1 rfl _ (by subst hz; rfl)
  have HONE : Hid (∀ (W : World) (x : UInt8) (z : Int), z = (x.toNat : Int) → Src Try.prog 1 22 (.slice (some ⟨W.heap.size, 0, none⟩) 1 1) (b1 x).size (bv (b1 x)) (W.alloc (.cells #[.int .u8 z] 5))) := hone
  clear hone
  have B1 : Hid (Below w.heap.size w (w.alloc (.cells #[.int .i64 0, .int .i64 255] 3))) := bel1 w _
  have T2 : Hid (Ints (fun _ => True) .i64 (w.alloc (.cells #[.int .i64 0, .int .i64 255] 3)) (some ⟨w.heap.size, 0, none⟩) 2 (fun i => if i = 0 then 0 else 255)) := .inr ⟨w.heap.size, 0, rfl, trivial, fun i hi => by
    rcases (show i = 0 ∨ i = 1 by omega) with rfl | rfl
    · exact cN w.heap.size rfl rfl
    · exact cN w.heap.size rfl rfl⟩
  go_enter Try.func128, Try.ntmps128
  go_wp2_with fail
  refine (equalInts Qs (fun _ => True) a (some ⟨w.heap.size, 0, none⟩) n 2 c 2 S (fun i => if i = 0 then 0 else 255) _ (HS.out.later B1.out) T2.out (by omega)).mono ?_
  rintro e W1 ⟨⟨b, rfl, hb⟩, hbel⟩
  have BW : Hid (Below w.heap.size w W1) := bel_tr B1.out hbel
  have HO1 : Hid (Gone Q w W1 (.slice va r.size vc) r) := H.out.later BW.out
  have HBI : Hid (b = true ↔ (n = 2 ∧ S 0 = 0 ∧ S 1 = 255)) := by
    rw [hb]
    constructor
    · rintro ⟨q1, q2⟩; subst q1; exact ⟨rfl, by simpa using q2 0 (by omega), by simpa using q2 1 (by omega)⟩
    · rintro ⟨q1, q2, q3⟩
      refine ⟨q1, fun i hi => ?_⟩
      rcases (show i = 0 ∨ i = 1 by omega) with rfl | rfl
      · simpa using q2
      · simpa using q3
  clear hb hbel T2 B1 H
  cases b with
  | true =>
    have HT : Hid (setT n S = b1 46) := by show _ = _; unfold setT; rw [if_pos (HBI.out.1 rfl)]
    go_wp2_with (at_builtin; refine outA (t := b1 46) rfl _ _ 22 rfl rfl rfl (HO1.out.later (bel1 W1 _)) (HONE.out W1 46 46 rfl) 15000000 4 hr (by decide) (by omega) (by decide) ?_; intro W r' a' c' E1 E2 E3)
    go_ret
    exact ⟨_, rfl, by rw [HT.out]; exact E1.out ▸ E3.out⟩
  | false =>
    have HNB : Hid (¬ (n = 2 ∧ S 0 = 0 ∧ S 1 = 255)) := fun q => by have := HBI.out.2 q; cases this
    clear HBI
    by_cases e2 : n = 2 ∧ S 0 = S 1
    · obtain ⟨rfl, h01⟩ := e2
      have HT : Hid (setT 2 S = b1 34 ++ byteT (S 0) ++ b1 34) := by show _ = _; unfold setT; rw [if_neg HNB.out, if_pos ⟨rfl, h01⟩]
      have hbd := (canon_at HC.out (k := 0) (by omega)).1
      have HBD : Hid (0 ≤ S 0 ∧ S 0 ≤ 255) := by show 0 ≤ S 0 ∧ S 0 ≤ 255; simpa using hbd
      have f01 : (S 0 == S 1) = true := by simp [h01]
      rcases HS.out with q | ⟨sb, so, rfl, hqs, hc⟩
      · omega
      have C0 : Hid (w.cell? ⟨sb, so, none⟩ = some (.int .i64 (S 0))) := hc 0 (by omega)
      have c0 := cell_on (hc 0 (by omega)) BW.out
      have c1 := cell_on (hc 1 (by omega)) BW.out
      have HQB : Hid (¬ Q sb) := (HQ.out sb hqs).1
      have HT1 : Hid ((byteT (S 0)).size ≤ 4) := M.byteT_size _
      clear hbd hc hqs h01
      simp only [Nat.add_zero] at c0
      have d0 : (W1.alloc (.cells #[.int .u8 34] 5)).cell? ⟨sb, so, none⟩ = some (.int .i64 (S 0)) := cellOn _ c0
      have lsb : sb < W1.heap.size := lt_of_cell c0
      go_wp2
      go_region
      go_wp2
      go_region_law (first
        | (refine outS (t := b1 34) rfl (.tmp 26) (.tmp 27) 22 rfl (v := .slice va r.size vc) (y := .slice (some ⟨W1.heap.size, 0, none⟩) 1 1) (by simp [Act.eval, Act.put]) (by simp [Act.eval, Act.put]) (HO1.out.later (bel1 W1 _).drew.drew) (HONE.out W1.drew.drew 34 34 rfl) 15000000 4 hr (by decide) (by omega) (by decide) ?_
           intro W r' a' c' E1 E2 E3
           have y0 : W.cell? ⟨sb, so, none⟩ = some (.int .i64 (S 0)) := (E3.out.keep.cell (p := ⟨sb, so, none⟩) (lt_of_cell C0.out) HQB.out).trans C0.out)
        | (refine stepCall2 enter143 rfl (.tmp 28) (.tmp 31) 22 3 rfl (y1 := .slice a' r'.size c') (y2 := .int .i64 (S 0)) (by simp [Act.eval, Act.put]) (by simp [Act.eval, Act.put]) ((E3.out.call (fun Q' ho hq' => appendByteText_any Q' (.slice a' r'.size c') r' (S 0) W ho HBD.out (by have := E2.out; omega))).mono ?_)
           rintro e W2 ⟨a2, c2, r2, rfl, F1, F2, F3⟩
           refine ⟨_, rfl, ?_⟩))
      all_goals go_goals
      all_goals go_wp2_with (at_builtin; refine outA (t := b1 34) rfl _ _ 22 rfl rfl rfl (F3.out.later (bel1 W2 _)) (HONE.out W2 34 34 rfl) 15000010 4 (by have := F2.out; have := E2.out; have := HT1.out; omega) (by decide) (by omega) (by decide) ?_; intro W3 r3 a3 c3 G1 G2 G3)
      all_goals go_ret
      all_goals exact ⟨_, rfl, by rw [HT.out, ← ByteArray.append_assoc, ← ByteArray.append_assoc, ← E1.out, ← F1.out, ← G1.out]; exact G3.out⟩
    · have HT : Hid (setT n S = b1 91 ++ midT S (n / 2) ++ b1 93) := by show _ = _; unfold setT; rw [if_neg HNB.out, if_neg e2]
      by_cases hn2 : n = 2
      · subst hn2
        have h01 : ¬ S 0 = S 1 := fun q => e2 ⟨rfl, q⟩
        have f01 : (S 0 == S 1) = false := by simp [h01]
        rcases HS.out with q | ⟨sb0, so0, rfl, hqs, hc⟩
        · omega
        have x0 := cell_on (hc 0 (by omega)) BW.out
        have x1 := cell_on (hc 1 (by omega)) BW.out
        simp only [Nat.add_zero] at x0
        clear hc hqs h01 e2
        go_wp2
        go_region
        go_wp2_with (at_builtin; refine outA (t := b1 91) rfl _ _ 22 rfl rfl rfl (HO1.out.later (bel1 W1 _).drew) (HONE.out W1.drew 91 91 rfl) 15000000 4 hr (by decide) (by omega) (by decide) ?_; intro W r' a' c' E1 E2 E3)
        clear HO1
        go_loopw [0, 5] (fun ov iv wr => setI Q w r S 2 ov iv wr) (fun _ iv _ => 2 - (intOf iv).toNat)
        case atStart => exact ⟨0, r', by omega, rfl, by rw [E1.out, midT, ByteArray.append_empty], E3.out⟩
        case round =>
          obtain ⟨k, s, hk, rfl, hs, hg⟩ := hrel
          obtain ⟨oa, oc, rfl⟩ := hg.shape
          have HG : Hid (Gone Q w wr (.slice oa s.size oc) s) := hg
          have HSS : Hid (s = r ++ b1 91 ++ midT S k) := hs
          have hsz : s.size ≤ 15002000 := by
            have h3 := M.midT_size S k
            rw [hs, ByteArray.size_append, ByteArray.size_append, M.b1_size]
            omega
          clear hs hg E1 E2 E3
          by_cases hlt : 2 * k < 2
          · obtain ⟨hb1, hb2⟩ := canon_at HC.out (k := k) (by omega)
            have HB1 : Hid (0 ≤ S (2 * k) ∧ S (2 * k) ≤ 255) := hb1
            have HB2 : Hid (0 ≤ S (2 * k + 1) ∧ S (2 * k + 1) ≤ 255) := hb2
            have hle : S (2 * k) ≤ S (2 * k + 1) := by
              have := (M.pairs_canon S (2 / 2)).2 (by have := HC.out.2; intro i hi; exact this i (by omega)) k (by omega)
              exact this.2.1
            rcases (HS.out.on (HQ.out.gone HG.out)) with q | ⟨sb, so, hae, hqs, hc⟩
            · omega
            cases hae
            have c0 := hc (2 * k) hlt
            have c1 := hc (2 * k + 1) (by omega)
            have lsb : sb0 < wr.heap.size := lt_of_cell c0
            have t1 := M.byteT_size (S (2 * k))
            have t2 := M.byteT_size (S (2 * k + 1))
            have HMID : Hid (midT S (k + 1) = midT S k ++ pairT (S (2 * k)) (S (2 * k + 1))) := rfl
            have hdx2 : 2 * k + 1 < 2 := by omega
            have k0 := hb1.1
            have k1 := hb1.2
            have k2 := hb2.1
            have k3 := hb2.2
            clear hc hqs hb1 hb2
            generalize S (2 * k) = lo at *
            generalize S (2 * k + 1) = hi at *
            generalize hkk : 2 * k = kk at *
            have HKK : Hid (2 * k = kk) := hkk
            clear hkk
            go_wp2
            go_region
            go_wp2_with fail
            refine ((HG.out.later (Below.refl _ wr).drew).call (fun Q' ho hq' => appendByteText_any Q' _ s lo _ ho HB1.out (by omega))).mono ?_
            rintro e W2 ⟨a2, c2, r2, rfl, F1, F2, F3⟩
            have z2 : Hid (r2.size ≤ 15002004) := by show _ ≤ _; have := F2.out; omega
            by_cases hA : lo + 1 < hi
            · have HP : Hid (pairT lo hi = byteT lo ++ b1 45 ++ byteT hi) := by show _ = _; unfold pairT; rw [if_pos hA, if_pos (by omega)]
              have hA2 : lo < hi := by omega
              go_wp2_with (first | (at_builtin; refine outA (t := b1 45) rfl _ _ 22 rfl rfl rfl (F3.out.later (bel1 W2 _)) (HONE.out W2 45 45 rfl) 15002004 4 z2.out (by decide) (by omega) (by decide) ?_; intro W3 r3 a3 c3 G1 G2 G3) | (go_at_call 143; refine (G3.out.call (fun Q' ho hq' => appendByteText_any Q' _ r3 hi _ ho HB2.out (by have := G2.out; omega))).mono ?_; rintro e W4 ⟨a4, c4, r4, rfl, J1, J2, J3⟩))
              go_roundw
              case rel => exact ⟨k + 1, r4, by have := HKK.out; omega, by have := HKK.out; first | go_num | (congr 1; omega), by rw [J1.out, G1.out, F1.out, HSS.out, HMID.out, HP.out]; simp only [ByteArray.append_assoc], J3.out⟩
              case measure => simp [intOf]; omega
            · by_cases hB : lo < hi
              · have HP : Hid (pairT lo hi = byteT lo ++ byteT hi) := by show _ = _; unfold pairT; rw [if_neg hA, if_pos hB, ByteArray.append_empty]
                go_wp2_with fail
                refine (F3.out.call (fun Q' ho hq' => appendByteText_any Q' _ r2 hi _ ho HB2.out (by have := z2.out; omega))).mono ?_
                rintro e W4 ⟨a4, c4, r4, rfl, J1, J2, J3⟩
                go_wp2
                go_roundw
                case rel => exact ⟨k + 1, r4, by have := HKK.out; omega, by have := HKK.out; first | go_num | (congr 1; omega), by rw [J1.out, F1.out, HSS.out, HMID.out, HP.out]; simp only [ByteArray.append_assoc], J3.out⟩
                case measure => simp [intOf]; omega
              · have HP : Hid (pairT lo hi = byteT lo) := by show _ = _; unfold pairT; rw [if_neg hA, if_neg hB, ByteArray.append_empty, ByteArray.append_empty]
                go_wp2
                go_roundw
                case rel => exact ⟨k + 1, r2, by have := HKK.out; omega, by have := HKK.out; first | go_num | (congr 1; omega), by rw [F1.out, HSS.out, HMID.out, HP.out]; simp only [ByteArray.append_assoc], F3.out⟩
                case measure => simp [intOf]; omega
          · have hkn : 2 * k = 2 := by omega
            have HKN : Hid (k = 2 / 2) := by show _ = _; omega
            clear hkn
            go_wp2_with (at_builtin; refine outA (t := b1 93) rfl _ _ 22 rfl rfl rfl (HG.out.later (bel1 wr _)) (HONE.out wr 93 93 rfl) 15002000 4 hsz (by decide) (by omega) (by decide) ?_; intro W3 r3 a3 c3 G1 G2 G3)
            go_ret
            exact ⟨_, rfl, by rw [HT.out, ← HKN.out, ← ByteArray.append_assoc, ← ByteArray.append_assoc, ← HSS.out, ← G1.out]; exact G3.out⟩
      · have f2 : ((n : Int) == 2) = false := by simp; omega
        clear e2
        go_wp2
        go_region
        go_wp2_with (at_builtin; refine outA (t := b1 91) rfl _ _ 22 rfl rfl rfl (HO1.out.later (bel1 W1 _).drew) (HONE.out W1.drew 91 91 rfl) 15000000 4 hr (by decide) (by omega) (by decide) ?_; intro W r' a' c' E1 E2 E3)
        clear HO1
        go_loopw [0, 5] (fun ov iv wr => setI Q w r S n ov iv wr) (fun _ iv _ => n - (intOf iv).toNat)
        case atStart => exact ⟨0, r', by omega, rfl, by rw [E1.out, midT, ByteArray.append_empty], E3.out⟩
        case round =>
          obtain ⟨k, s, hk, rfl, hs, hg⟩ := hrel
          obtain ⟨oa, oc, rfl⟩ := hg.shape
          have HG : Hid (Gone Q w wr (.slice oa s.size oc) s) := hg
          have HSS : Hid (s = r ++ b1 91 ++ midT S k) := hs
          have hsz : s.size ≤ 15002000 := by
            have h3 := M.midT_size S k
            rw [hs, ByteArray.size_append, ByteArray.size_append, M.b1_size]
            omega
          clear hs hg E1 E2 E3
          by_cases hlt : 2 * k < n
          · obtain ⟨hb1, hb2⟩ := canon_at HC.out (k := k) (by omega)
            have HB1 : Hid (0 ≤ S (2 * k) ∧ S (2 * k) ≤ 255) := hb1
            have HB2 : Hid (0 ≤ S (2 * k + 1) ∧ S (2 * k + 1) ≤ 255) := hb2
            have hle : S (2 * k) ≤ S (2 * k + 1) := by
              have := (M.pairs_canon S (n / 2)).2 (by have := HC.out.2; intro i hi; exact this i (by omega)) k (by omega)
              exact this.2.1
            rcases (HS.out.on (HQ.out.gone HG.out)) with q | ⟨sb, so, hae, hqs, hc⟩
            · omega
            cases hae
            have c0 := hc (2 * k) hlt
            have c1 := hc (2 * k + 1) (by omega)
            have lsb : sb < wr.heap.size := lt_of_cell c0
            have t1 := M.byteT_size (S (2 * k))
            have t2 := M.byteT_size (S (2 * k + 1))
            have HMID : Hid (midT S (k + 1) = midT S k ++ pairT (S (2 * k)) (S (2 * k + 1))) := rfl
            have hdx2 : 2 * k + 1 < n := by omega
            have k0 := hb1.1
            have k1 := hb1.2
            have k2 := hb2.1
            have k3 := hb2.2
            clear hc hqs hb1 hb2
            generalize S (2 * k) = lo at *
            generalize S (2 * k + 1) = hi at *
            generalize hkk : 2 * k = kk at *
            have HKK : Hid (2 * k = kk) := hkk
            clear hkk
            go_wp2
            go_region
            go_wp2_with fail
            refine ((HG.out.later (Below.refl _ wr).drew).call (fun Q' ho hq' => appendByteText_any Q' _ s lo _ ho HB1.out (by omega))).mono ?_
            rintro e W2 ⟨a2, c2, r2, rfl, F1, F2, F3⟩
            have z2 : Hid (r2.size ≤ 15002004) := by show _ ≤ _; have := F2.out; omega
            by_cases hA : lo + 1 < hi
            · have HP : Hid (pairT lo hi = byteT lo ++ b1 45 ++ byteT hi) := by show _ = _; unfold pairT; rw [if_pos hA, if_pos (by omega)]
              have hA2 : lo < hi := by omega
              go_wp2_with (first | (at_builtin; refine outA (t := b1 45) rfl _ _ 22 rfl rfl rfl (F3.out.later (bel1 W2 _)) (HONE.out W2 45 45 rfl) 15002004 4 z2.out (by decide) (by omega) (by decide) ?_; intro W3 r3 a3 c3 G1 G2 G3) | (go_at_call 143; refine (G3.out.call (fun Q' ho hq' => appendByteText_any Q' _ r3 hi _ ho HB2.out (by have := G2.out; omega))).mono ?_; rintro e W4 ⟨a4, c4, r4, rfl, J1, J2, J3⟩))
              go_roundw
              case rel => exact ⟨k + 1, r4, by have := HKK.out; omega, by have := HKK.out; first | go_num | (congr 1; omega), by rw [J1.out, G1.out, F1.out, HSS.out, HMID.out, HP.out]; simp only [ByteArray.append_assoc], J3.out⟩
              case measure => simp [intOf]; omega
            · by_cases hB : lo < hi
              · have HP : Hid (pairT lo hi = byteT lo ++ byteT hi) := by show _ = _; unfold pairT; rw [if_neg hA, if_pos hB, ByteArray.append_empty]
                go_wp2_with fail
                refine (F3.out.call (fun Q' ho hq' => appendByteText_any Q' _ r2 hi _ ho HB2.out (by have := z2.out; omega))).mono ?_
                rintro e W4 ⟨a4, c4, r4, rfl, J1, J2, J3⟩
                go_wp2
                go_roundw
                case rel => exact ⟨k + 1, r4, by have := HKK.out; omega, by have := HKK.out; first | go_num | (congr 1; omega), by rw [J1.out, F1.out, HSS.out, HMID.out, HP.out]; simp only [ByteArray.append_assoc], J3.out⟩
                case measure => simp [intOf]; omega
              · have HP : Hid (pairT lo hi = byteT lo) := by show _ = _; unfold pairT; rw [if_neg hA, if_neg hB, ByteArray.append_empty, ByteArray.append_empty]
                go_wp2
                go_roundw
                case rel => exact ⟨k + 1, r2, by have := HKK.out; omega, by have := HKK.out; first | go_num | (congr 1; omega), by rw [F1.out, HSS.out, HMID.out, HP.out]; simp only [ByteArray.append_assoc], F3.out⟩
                case measure => simp [intOf]; omega
          · have hkn : 2 * k = n := by omega
            have HKN : Hid (k = n / 2) := by show _ = _; omega
            clear hkn
            go_wp2_with (at_builtin; refine outA (t := b1 93) rfl _ _ 22 rfl rfl rfl (HG.out.later (bel1 wr _)) (HONE.out wr 93 93 rfl) 15002000 4 hsz (by decide) (by omega) (by decide) ?_; intro W3 r3 a3 c3 G1 G2 G3)
            go_ret
            exact ⟨_, rfl, by rw [HT.out, ← HKN.out, ← ByteArray.append_assoc, ← ByteArray.append_assoc, ← HSS.out, ← G1.out]; exact G3.out⟩

end Go.Proofs.Ytjpcojabdjldbaa
