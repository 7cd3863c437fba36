import Derived.Test.YtjpcojabdjldbaaLeast
import Derived.Test.YtjpcojabdjldbaaMeans
import Derived.Deep.RegionWith
import Derived.Test.YtjpcojabdjldbaaFold

/-
  Walks: the least marks, for what is grounded.
-/
namespace Go.Proofs.Ytjpcojabdjldbaa
open Go.RowKit
open M (OpD NodeD Gr)
set_option linter.unusedVariables false
set_option linter.unusedSimpArgs false

set_option maxRecDepth 100000 in
set_option maxHeartbeats 8000000 in
theorem leastMarks8 (ub uo n uc : Nat) (U : Nat → NS) (p1 : Value) (F : (Nat → Bool) → Nat → Bool) (w : World) (hU : SetsA w ub uo n U) (hok : ∀ i, i < n → (U i).OK) (h0 : 0 < n) (hn : n ≤ 200)
    (hM : M.Mono n F) (hD : ∀ m m' x, x < n → (∀ v, v < n → m' v = (m v || v == x)) → ∀ v, v < n → F m' v = true → F m v = false → (U v).has x = true)
    (hF : ∀ x, x < n → ∀ S : NS, S.OK → ∀ W, Below w.heap.size w W → Calls Try.prog 108 #[.int .i64 (x : Int), .agg #[.int .u64 S.a, .int .u64 S.b, .int .u64 S.c, .int .u64 S.d], p1] W fun e W' => e = .returned (.bool (F S.has x)) ∧ Below W.heap.size W W') :
    Calls Try.prog 100 #[.slice (some ⟨ub, uo, none⟩) n uc, .func (.func 108) #[] #[p1]] w (LeastIs n F w) := by
  have HU : Hid (SetsA w ub uo n U) := hU
  have HOK : Hid (∀ i, i < n → (U i).OK) := hok
  have HM : Hid (M.Mono n F) := hM
  have HD : Hid (∀ m m' x, x < n → (∀ v, v < n → m' v = (m v || v == x)) → ∀ v, v < n → F m' v = true → F m v = false → (U v).has x = true) := hD
  have HF : Hid (∀ x, x < n → ∀ S : NS, S.OK → ∀ W, Below w.heap.size w W → Calls Try.prog 108 #[.int .i64 (x : Int), .agg #[.int .u64 S.a, .int .u64 S.b, .int .u64 S.c, .int .u64 S.d], p1] W fun e W' => e = .returned (.bool (F S.has x)) ∧ Below W.heap.size W W') := hF
  clear hU hok hM hD hF
  go_enter Try.func100, Try.ntmps100
  go_wp2
  go_loopw [14] (fun iv wr => lmI1 w n iv wr) (fun iv _ => n - (intOf iv).toNat)
  case atStart =>
    refine ⟨0, Nat.zero_le _, rfl, ⟨⟨.slice none 0 0, cN (w.heap.size + 1) (by simp) rfl, .inl ⟨rfl, rfl, rfl⟩⟩, soft1 _ _ 175 (w.heap.size + 1) 0 (by simp) (by simp)⟩, (At.new w nz).later (bel1 _ _), bel2 w _ _⟩
  case round =>
    obtain ⟨k, hk, rfl, hL, hA, hb⟩ := hrel
    have HL : Hid (WL (fun b => w.heap.size + 1 < b) wr (w.heap.size + 1) (List.range k)) := hL
    have HA : Hid (At wr w.heap.size nz) := hA
    have HB : Hid (Below w.heap.size w wr) := hb
    clear hL hA hb
    by_cases hlt : k < n
    · go_wp2_with (go_at_call 131; refine (add_any _ (w.heap.size + 1) k (List.range k) _ HL.out (fun q => Nat.lt_irrefl _ q) (by simp; omega)).mono ?_; rintro e W ⟨⟨v, rfl⟩, hl, hg⟩; have HL' : Hid (WL (fun b => w.heap.size + 1 < b ∨ wr.heap.size ≤ b) W (w.heap.size + 1) (List.range k ++ [k])) := hl; have HG : Hid (Grew (fun b => w.heap.size + 1 < b ∨ b = w.heap.size + 1) wr W) := hg; clear hl hg)
      go_roundw
      case rel =>
        have l1 := HL.out.lt
        refine ⟨k + 1, by omega, by go_num, ?_, HA.out.keep (HG.out.block _ (by omega) (fun q => by omega)), HB.out.trans (grew_below HG.out HB.out.size (fun b q => by omega))⟩
        rw [List.range_succ]
        exact HL'.out.wide (fun b q => by omega)
      case measure => simp [intOf]; omega
    · obtain rfl : k = n := by omega
      obtain ⟨V, eV⟩ : ∃ V, wr = V := ⟨_, rfl⟩
      subst wr
      have lV := HL.out.lt
      have HL2 : Hid (WL (Qm w V.heap.size) (V.alloc (nsc nz)) (w.heap.size + 1) (List.range k)) := (HL.out.wideN (by rw [List.length_range]; exact h0) (fun b q1 q2 => ⟨q1, by omega⟩)).later (bel1 V _)
      have HA2 : Hid (At (V.alloc (nsc nz)) w.heap.size nz) := HA.out.later (bel1 V _)
      have HM2 : Hid (At (V.alloc (nsc nz)) V.heap.size nz) := At.new V nz
      have HB2 : Hid (Below w.heap.size w (V.alloc (nsc nz))) := HB.out.trans ((bel1 V _).mono HB.out.size)
      go_wp2_with fail
      refine (take_next w k V.heap.size F _ nz (List.range k) hn NS.OK.zero HL2.out HA2.out HM2.out lV HB2.out (wi_start k F) (left_start k)).mono ?_
      rintro e W1 ⟨nv, sv, rfl, hI, hmea⟩
      have HI : Hid (lmI w k V.heap.size F nv sv W1) := hI
      clear hI hmea
      obtain ⟨mb, emb⟩ : ∃ mb, V.heap.size = mb := ⟨_, rfl⟩
      rw [emb] at HI
      clear HL2 HA2 HM2 HB2 HL HA HB lV
      go_wp2
      clear emb
      go_loopw [8, 9] (fun nv sv wr => lmI w k mb F nv sv wr) (fun nv sv wr => M.left k (nsAt wr mb).has (lenAt wr (w.heap.size + 1) + oneOf sv))
      case atStart => exact HI.out
      case round =>
        obtain ⟨L, S, hS, hL, hA, hM, hmb, hb, hcase⟩ := hrel
        have HS : Hid S.OK := hS
        have HL : Hid (WL (Qm w mb) wr (w.heap.size + 1) L) := hL
        have HA : Hid (At wr w.heap.size nz) := hA
        have HM3 : Hid (At wr mb S) := hM
        have HB : Hid (Below w.heap.size w wr) := hb
        obtain ⟨m0, m1, m2, m3⟩ := hM.cells
        have lmb := hM.lt
        clear hS hL hA hM hb HI
        rcases hcase with ⟨rfl, ⟨xi, rfl⟩, rfl, hW⟩ | ⟨x, rfl, rfl, hW, hle⟩
        · have HW : Hid (M.WI k F [] S.has) := hW
          obtain ⟨r0, r1, r2, r3⟩ := HA.out.cells
          obtain ⟨s0, s1, s2, s3⟩ := HA.out.soft
          have lw := HA.out.lt
          clear hW
          go_wp2
          refine bodyPost_ret (v := nsv S) (by simp [results, Try.f100, go_sem, nsv, *]) rfl ?_
          exact ⟨⟨S, HS.out, HW.out.done, rfl⟩, set4_below HB.out w.heap.size S (Nat.le_refl _)⟩
        have HW : Hid (M.WI k F (L ++ [x]) S.has) := hW
        have HLE : Hid (M.left k S.has (L.length + 1) ≤ k * (k + 1) + k) := hle
        have hxn : x < k := hW.all x (by simp)
        clear hW hle
        by_cases hx : S.has x = true
        · have HX : Hid (S.has x = true) := hx
          clear hx
          have hx2 : S.has x = true := HX.out
          go_wp2_with (first | (go_at_call 63; refine (has_ag S x _ HS.out (by omega)).mono ?_; rintro e W2 ⟨rfl, hb2⟩; have B2 : Hid (Below wr.heap.size wr W2) := hb2; obtain ⟨c0, c1, c2, c3⟩ := (HM3.out.later hb2).cells; clear hb2) | (go_at_call 132; refine (take_next w k mb F _ S L hn HS.out (HL.out.later B2.out) (HA.out.later B2.out) (HM3.out.later B2.out) hmb (HB.out.trans (B2.out.mono HB.out.size)) (HW.out.skip (.inl HX.out)) (Nat.le_trans (by unfold M.left; omega) HLE.out)).mono ?_; rintro e W4 ⟨nv, sv, rfl, hI, hmea⟩; have HI : Hid (lmI w k mb F nv sv W4) := hI; have HMEA : Hid (M.left k (nsAt W4 mb).has (lenAt W4 (w.heap.size + 1) + oneOf sv) = M.left k S.has L.length) := hmea; clear hI hmea))
          go_roundw
          case rel => exact HI.out
          case measure =>
            show M.left k (nsAt W4 mb).has (lenAt W4 (w.heap.size + 1) + oneOf sv) < M.left k (nsAt wr mb).has (lenAt wr (w.heap.size + 1) + 1)
            rw [HMEA.out, nsAt_eq HM3.out, lenAt_eq HL.out]
            unfold M.left
            omega
        have HX : Hid (S.has x = false) := by show _ = _; simpa using hx
        have hx2 : S.has x = false := HX.out
        clear hx
        by_cases hf : F S.has x = true
        · have HFX : Hid (F S.has x = true) := hf
          have hf2 : F S.has x = true := HFX.out
          clear hf
          go_wp2_with (first | (go_at_call 63; refine (has_ag S x _ HS.out (by omega)).mono ?_; rintro e W2 ⟨rfl, hb2⟩; have B2 : Hid (Below wr.heap.size wr W2) := hb2; obtain ⟨c0, c1, c2, c3⟩ := (HM3.out.later hb2).cells; clear hb2) | (go_at_call 108; refine (HF.out x hxn S HS.out _ (HB.out.trans (B2.out.mono HB.out.size))).mono ?_; rintro e W3 ⟨rfl, hb3⟩; have B3 : Hid (Below wr.heap.size wr W3) := bel_tr B2.out hb3; obtain ⟨e0, e1, e2, e3⟩ := (HM3.out.later B3.out).cells; obtain ⟨d0, d1, d2, d3⟩ := (HM3.out.later B3.out).soft; clear hb3) | (go_at_call 106; refine (with_agg S x _ HS.out (by omega)).mono ?_; rintro e W5 ⟨⟨t, ht, rfl⟩, hb5⟩; have HTT : Hid (t = S.put x) := ht; have B5 : Hid (Below wr.heap.size wr W5) := bel_tr B3.out hb5; obtain ⟨e0', e1', e2', e3'⟩ := (HM3.out.later B5.out).cells; obtain ⟨d0', d1', d2', d3'⟩ := (HM3.out.later B5.out).soft; clear hb5 ht))
          have HT : Hid t.OK := by show t.OK; rw [HTT.out]; exact HS.out.put x
          have HAZ : Hid (At (set4 W5 mb t) mb t) := (HM3.out.later B5.out).set t
          have HAN : Hid (At (set4 W5 mb t) w.heap.size nz) := (HA.out.later B5.out).keep (set4_other W5 mb t _ (by omega))
          have HLZ : Hid (WL (Qm w mb) (set4 W5 mb t) (w.heap.size + 1) L) := (HL.out.later B5.out).on (fun b hb => set4_other W5 mb t b (by rcases hb with hb | hb; exact hb.2; omega))
          have HBZ : Hid (Below w.heap.size w (set4 W5 mb t)) := set4_below (HB.out.trans (B5.out.mono HB.out.size)) mb t (by omega)
          rw [show (((W5.setCell ⟨mb, 0, none⟩ (.int .u64 t.a)).setCell ⟨mb, 1, none⟩ (.int .u64 t.b)).setCell ⟨mb, 2, none⟩ (.int .u64 t.c)).setCell ⟨mb, 3, none⟩ (.int .u64 t.d) = set4 W5 mb t from rfl]
          generalize set4 W5 mb t = Z at *
          have HMEA0 : Hid (M.left k (nsAt wr mb).has (lenAt wr (w.heap.size + 1) + 1) = M.left k S.has (L.length + 1)) := by show _ = _; rw [nsAt_eq HM3.out, lenAt_eq HL.out]
          obtain ⟨M0, eM0⟩ : ∃ M0, M.left k (nsAt wr mb).has (lenAt wr (w.heap.size + 1) + 1) = M0 := ⟨_, rfl⟩
          clear m0 m1 m2 m3 c0 c1 c2 c3 e0 e1 e2 e3 d0 d1 d2 d3 e0' e1' e2' e3' d0' d1' d2' d3' B2 B3 B5 HL HA HM3 HB lmb
          go_loopw [44] (fun iv wr => lmI3 w k mb x U t L iv wr) (fun iv _ => k - (intOf iv).toNat)
          case atStart => exact ⟨0, Nat.zero_le _, rfl, by rw [M.users, List.append_nil]; exact HLZ.out, HAN.out, HAZ.out, HBZ.out⟩
          case round =>
            obtain ⟨j, hj, rfl, hL, hA, hM, hb⟩ := hrel
            have HL : Hid (WL (Qm w mb) wr (w.heap.size + 1) (L ++ M.users (fun v y => (U v).has y) x j)) := hL
            have HA : Hid (At wr w.heap.size nz) := hA
            have HM4 : Hid (At wr mb t) := hM
            have HB : Hid (Below w.heap.size w wr) := hb
            have lmb := hM.lt
            have lwb := hL.lt
            have hlen2 : (L ++ M.users (fun v y => (U v).has y) x j).length ≤ 1048576 := by
              have h1 := left_len HLE.out
              have h2 := M.users_len (fun v y => (U v).has y) x j
              have : k * (k + 1) ≤ 200 * 201 := Nat.mul_le_mul hn (by omega)
              rw [List.length_append]
              omega
            clear hL hA hM hb
            by_cases hlt2 : j < k
            · obtain ⟨x0, x1, x2, x3⟩ := (HU.out.later HB.out) j hlt2
              have lub : ub < wr.heap.size := lt_of_cell x0
              have HUK : Hid (U j).OK := HOK.out j hlt2
              by_cases hu : (U j).has x = true
              · have HUX : Hid ((U j).has x = true) := hu
                go_wp2_with (first | (go_at_call 63; refine (has_ag (U j) x _ HUK.out (by omega)).mono ?_; rintro e W6 ⟨rfl, hb6⟩; have B6 : Hid (Below wr.heap.size wr W6) := bel_tr (bel1 wr _) hb6; clear hb6) | (go_at_call 131; refine (add_any _ (w.heap.size + 1) j _ _ (HL.out.later B6.out) (fun q => Nat.lt_irrefl _ q.1) hlen2).mono ?_; rintro e W7 ⟨⟨v, rfl⟩, hl, hg⟩; have HL7 : Hid (WL (fun b => Qm w mb b ∨ W6.heap.size ≤ b) W7 (w.heap.size + 1) (L ++ M.users (fun v y => (U v).has y) x j ++ [j])) := hl; have HG7 : Hid (Grew (fun b => Qm w mb b ∨ b = w.heap.size + 1) W6 W7) := hg; clear hl hg))
                go_roundw
                case rel =>
                  have s6 := B6.out.size
                  refine ⟨j + 1, by omega, by go_num, ?_, (HA.out.later B6.out).keep (HG7.out.block _ (by omega) (fun q => by rcases q with q | q; exact absurd q.1 (by omega); omega)), (HM4.out.later B6.out).keep (HG7.out.block _ (by omega) (fun q => by rcases q with q | q; exact q.2 rfl; omega)), (HB.out.trans (B6.out.mono HB.out.size)).trans (grew_below HG7.out (Nat.le_trans HB.out.size s6) (fun b q => by rcases q with q | q; have := q.1; omega; omega))⟩
                  rw [M.users, if_pos HUX.out, ← List.append_assoc]
                  exact HL7.out.wide (fun b q => by rcases q with q | q; exact q; exact ⟨by omega, by omega⟩)
                case measure => simp [intOf]; omega
              · have hu2 : (U j).has x = false := by simpa using hu
                have HUX : Hid (¬ (U j).has x = true) := hu
                clear hu
                go_wp2_with (go_at_call 63; refine (has_ag (U j) x _ HUK.out (by omega)).mono ?_; rintro e W6 ⟨rfl, hb6⟩; have B6 : Hid (Below wr.heap.size wr W6) := bel_tr (bel1 wr _) hb6; clear hb6)
                go_roundw
                case rel =>
                  refine ⟨j + 1, by omega, by go_num, ?_, HA.out.later B6.out, HM4.out.later B6.out, HB.out.trans (B6.out.mono HB.out.size)⟩
                  rw [M.users, if_neg HUX.out, List.append_nil]
                  exact HL.out.later B6.out
                case measure => simp [intOf]; omega
            · obtain rfl : j = k := by omega
              have hput : ∀ v, v < j → t.has v = (S.has v || v == x) := fun v hv => by rw [HTT.out, put_has _ _ _ (by omega) (by omega)]
              have HWI : Hid (M.WI j F (L ++ M.users (fun v y => (U v).has y) x j) t.has) := M.WI.mark HM.out HW.out HFX.out hput (fun u hu => ((M.users_mem _ x j u).1 hu).1) (fun v hv q1 q2 => (M.users_mem _ x j v).2 ⟨hv, HD.out S.has t.has x hxn hput v hv q1 q2⟩)
              have HLT : Hid (M.left j t.has (L ++ M.users (fun v y => (U v).has y) x j).length < M.left j S.has (L.length + 1)) := by
                show _ < _
                rw [List.length_append]
                exact M.left_mark hxn HX.out hput (M.users_len _ x j)
              clear hput
              go_wp2_with (go_at_call 132; refine (take_next w j mb F _ t _ hn HT.out HL.out HA.out HM4.out hmb HB.out HWI.out (Nat.le_trans (Nat.le_of_lt HLT.out) HLE.out)).mono ?_; rintro e W4 ⟨nv, sv, rfl, hI, hmea⟩; have HI : Hid (lmI w j mb F nv sv W4) := hI; have HMEA : Hid (M.left j (nsAt W4 mb).has (lenAt W4 (w.heap.size + 1) + oneOf sv) = M.left j t.has (L ++ M.users (fun v y => (U v).has y) x j).length) := hmea; clear hI hmea)
              go_roundw
              case rel => exact HI.out
              case measure =>
                show M.left j (nsAt W4 mb).has (lenAt W4 (w.heap.size + 1) + oneOf sv) < M.left j (nsAt _ mb).has (lenAt _ (w.heap.size + 1) + 1)
                rw [HMEA.out]
                exact HMEA0.out ▸ HLT.out
        · have HFX : Hid (F S.has x = false) := by show _ = _; simpa using hf
          have hf2 : F S.has x = false := HFX.out
          clear hf
          go_wp2_with (first | (go_at_call 63; refine (has_ag S x _ HS.out (by omega)).mono ?_; rintro e W2 ⟨rfl, hb2⟩; have B2 : Hid (Below wr.heap.size wr W2) := hb2; obtain ⟨c0, c1, c2, c3⟩ := (HM3.out.later hb2).cells; clear hb2) | (go_at_call 108; refine (HF.out x hxn S HS.out _ (HB.out.trans (B2.out.mono HB.out.size))).mono ?_; rintro e W3 ⟨rfl, hb3⟩; have B3 : Hid (Below wr.heap.size wr W3) := bel_tr B2.out hb3; obtain ⟨e0, e1, e2, e3⟩ := (HM3.out.later B3.out).cells; obtain ⟨d0, d1, d2, d3⟩ := (HM3.out.later B3.out).soft; clear hb3) | (go_at_call 132; refine (take_next w k mb F _ S L hn HS.out (HL.out.later B3.out) (HA.out.later B3.out) (HM3.out.later B3.out) hmb (HB.out.trans (B3.out.mono HB.out.size)) (HW.out.skip (.inr HFX.out)) (Nat.le_trans (by unfold M.left; omega) HLE.out)).mono ?_; rintro e W4 ⟨nv, sv, rfl, hI, hmea⟩; have HI : Hid (lmI w k mb F nv sv W4) := hI; have HMEA : Hid (M.left k (nsAt W4 mb).has (lenAt W4 (w.heap.size + 1) + oneOf sv) = M.left k S.has L.length) := hmea; clear hI hmea))
          go_roundw
          case rel => exact HI.out
          case measure =>
            show M.left k (nsAt W4 mb).has (lenAt W4 (w.heap.size + 1) + oneOf sv) < M.left k (nsAt wr mb).has (lenAt wr (w.heap.size + 1) + 1)
            rw [HMEA.out, nsAt_eq HM3.out, lenAt_eq HL.out]
            unfold M.left
            omega

end Go.Proofs.Ytjpcojabdjldbaa

/-
  Walks: a set within a set.
-/
namespace Go.Proofs.Ytjpcojabdjldbaa
open Go.RowKit
set_option linter.unusedVariables false
set_option linter.unusedSimpArgs false

theorem eq85 (a b c d a' b' c' d' : Int) (w : World) : (Op.equalIn 10000 85 (.agg #[.int .u64 a, .int .u64 b, .int .u64 c, .int .u64 d]) (.agg #[.int .u64 a', .int .u64 b', .int .u64 c', .int .u64 d'])).run Try.prog w = .ok (a == a' && b == b' && c == c' && d == d') w := by
  have u3 := Try.underlying83
  have a3 := Try.isAgg83
  have z3 := Try.sizeOf83
  rw [show (10000 : Nat) = 9999 + 1 from rfl, Op.equalIn]
  simp only [Sem.run_bind, run_underlying Try.underlying85, Result.andThen_ok]
  simp only [Std.Legacy.Range.forIn_eq_forIn_range', Std.Legacy.Range.size, Nat.sub_zero, Nat.add_sub_cancel, Nat.div_one, List.range'_succ, List.range'_zero, List.forIn_cons, List.forIn_nil]
  go_simp
  by_cases h1 : a = a' <;> by_cases h2 : b = b' <;> by_cases h3 : c = c' <;> by_cases h4 : d = d' <;> simp [h1, h2, h3, h4]

theorem run_eq85 (s t : NS) (w : World) : (binOp .eql 85 (.agg #[.int .u64 s.a, .int .u64 s.b, .int .u64 s.c, .int .u64 s.d]) (.agg #[.int .u64 t.a, .int .u64 t.b, .int .u64 t.c, .int .u64 t.d])).run Try.prog w = .ok (.bool ((s.a : Int) == t.a && (s.b : Int) == t.b && (s.c : Int) == t.c && (s.d : Int) == t.d)) w := by
  rw [run_eql_struct, eq85]
  rfl

/-- Word by word. -/
def NS.inn (s t : NS) : Bool := (s.join t).a == t.a && (s.join t).b == t.b && (s.join t).c == t.c && (s.join t).d == t.d

theorem union_ag (s t : NS) (w : World) (hs : s.OK) (ht : t.OK) :
    Calls Try.prog 107 #[.agg #[.int .u64 s.a, .int .u64 s.b, .int .u64 s.c, .int .u64 s.d], .agg #[.int .u64 t.a, .int .u64 t.b, .int .u64 t.c, .int .u64 t.d]] w fun e w' => (∃ r : NS, r = s.join t ∧ e = .returned (.agg #[.int .u64 r.a, .int .u64 r.b, .int .u64 r.c, .int .u64 r.d])) ∧ Below w.heap.size w w' :=
  (union_any s t w hs ht).mono (fun e w' h => ⟨⟨_, rfl, h.1⟩, h.2⟩)

theorem or_of_sub {x y : Nat} (h : ∀ i, x.testBit i = true → y.testBit i = true) : x ||| y = y := by
  apply Nat.eq_of_testBit_eq
  intro i
  rw [Nat.testBit_or]
  cases e : x.testBit i with
  | false => simp
  | true => rw [h i e]; rfl
theorem sub_of_or {x y : Nat} (h : x ||| y = y) (i : Nat) (e : x.testBit i = true) : y.testBit i = true := by
  rw [← h, Nat.testBit_or, e]; rfl
theorem inn_iff (s t : NS) (hs : s.OK) : s.inn t = true ↔ ∀ u, u < 256 → s.has u = true → t.has u = true := by
  unfold NS.inn NS.join
  simp only [Bool.and_eq_true, beq_iff_eq]
  constructor
  · rintro ⟨⟨⟨h1, h2⟩, h3⟩, h4⟩ u hu e
    unfold NS.has NS.w at *
    rcases q_cases hu with h | h | h | h
    · rw [h] at e ⊢; exact sub_of_or h1 _ e
    · rw [h] at e ⊢; exact sub_of_or h2 _ e
    · rw [h] at e ⊢; exact sub_of_or h3 _ e
    · rw [h] at e ⊢; exact sub_of_or h4 _ e
  · intro h
    have big : ∀ x : Nat, x < 18446744073709551616 → ∀ i, x.testBit i = true → i < 64 := fun x hx i e => by
      by_cases hi : i < 64
      · exact hi
      · have : x < 2 ^ i := Nat.lt_of_lt_of_le (show x < 2 ^ 64 from hx) (Nat.pow_le_pow_right (by decide) (by omega))
        rw [Nat.testBit_lt_two_pow this] at e
        cases e
    have key : ∀ q, q < 4 → ∀ i, i < 64 → (s.w q).testBit i = true → (t.w q).testBit i = true := fun q hq i hi e => by
      have := h (q * 64 + i) (by omega)
      unfold NS.has at this
      rw [show (q * 64 + i) / 64 = q by omega, show (q * 64 + i) % 64 = i by omega] at this
      exact this e
    refine ⟨⟨⟨or_of_sub fun i e => ?_, or_of_sub fun i e => ?_⟩, or_of_sub fun i e => ?_⟩, or_of_sub fun i e => ?_⟩
    · exact key 0 (by decide) i (big _ hs.a i e) e
    · exact key 1 (by decide) i (big _ hs.b i e) e
    · exact key 2 (by decide) i (big _ hs.c i e) e
    · exact key 3 (by decide) i (big _ hs.d i e) e

theorem beq_nat (x y : Nat) : ((x : Int) == y) = (x == y) := by
  by_cases h : x = y
  · subst h; simp
  · have : ¬ (x : Int) = y := by omega
    rw [beq_eq_false_iff_ne.2 h, beq_eq_false_iff_ne.2 this]

set_option maxRecDepth 100000 in
set_option maxHeartbeats 4000000 in
theorem within_any (s t : NS) (w : World) (hs : s.OK) (ht : t.OK) :
    Calls Try.prog 109 #[.agg #[.int .u64 s.a, .int .u64 s.b, .int .u64 s.c, .int .u64 s.d], .agg #[.int .u64 t.a, .int .u64 t.b, .int .u64 t.c, .int .u64 t.d]] w fun e w' => e = .returned (.bool (s.inn t)) ∧ Below w.heap.size w w' := by
  have HS : Hid s.OK := hs
  have HT : Hid t.OK := ht
  clear hs ht
  have x0 : ((w.alloc (nsc s)).alloc (nsc t)).cell? ⟨w.heap.size, 0, none⟩ = some (.int .u64 s.a) := cell_on (cN w.heap.size rfl rfl) (bel1 _ _)
  have x1 : ((w.alloc (nsc s)).alloc (nsc t)).cell? ⟨w.heap.size, 1, none⟩ = some (.int .u64 s.b) := cell_on (cN w.heap.size rfl rfl) (bel1 _ _)
  have x2 : ((w.alloc (nsc s)).alloc (nsc t)).cell? ⟨w.heap.size, 2, none⟩ = some (.int .u64 s.c) := cell_on (cN w.heap.size rfl rfl) (bel1 _ _)
  have x3 : ((w.alloc (nsc s)).alloc (nsc t)).cell? ⟨w.heap.size, 3, none⟩ = some (.int .u64 s.d) := cell_on (cN w.heap.size rfl rfl) (bel1 _ _)
  have y0 : ((w.alloc (nsc s)).alloc (nsc t)).cell? ⟨w.heap.size + 1, 0, none⟩ = some (.int .u64 t.a) := cN (w.heap.size + 1) (by simp) rfl
  have y1 : ((w.alloc (nsc s)).alloc (nsc t)).cell? ⟨w.heap.size + 1, 1, none⟩ = some (.int .u64 t.b) := cN (w.heap.size + 1) (by simp) rfl
  have y2 : ((w.alloc (nsc s)).alloc (nsc t)).cell? ⟨w.heap.size + 1, 2, none⟩ = some (.int .u64 t.c) := cN (w.heap.size + 1) (by simp) rfl
  have y3 : ((w.alloc (nsc s)).alloc (nsc t)).cell? ⟨w.heap.size + 1, 3, none⟩ = some (.int .u64 t.d) := cN (w.heap.size + 1) (by simp) rfl
  have BX : Hid (Below w.heap.size w ((w.alloc (nsc s)).alloc (nsc t))) := bel2 w _ _
  have he : ∀ (r : NS) (W : World), (binOp .eql 85 (.agg #[.int .u64 r.a, .int .u64 r.b, .int .u64 r.c, .int .u64 r.d]) (.agg #[.int .u64 t.a, .int .u64 t.b, .int .u64 t.c, .int .u64 t.d])).run Try.prog W = .ok (.bool ((r.a : Int) == t.a && (r.b : Int) == t.b && (r.c : Int) == t.c && (r.d : Int) == t.d)) W := fun r W => run_eq85 r t W
  have hg : Try.prog.eqGuardType Try.prog.depth 85 = false := by kernel_rfl
  go_enter Try.func109, Try.ntmps109
  go_wp2
  rw [show Obj.cells #[.int .u64 s.a, .int .u64 s.b, .int .u64 s.c, .int .u64 s.d] 85 = nsc s from rfl, show Obj.cells #[.int .u64 t.a, .int .u64 t.b, .int .u64 t.c, .int .u64 t.d] 85 = nsc t from rfl]
  generalize (w.alloc (nsc s)).alloc (nsc t) = X at *
  go_region_with (go_at_call 107; refine (union_ag s t _ HS.out HT.out).mono ?_; rintro e W ⟨⟨r, hr, rfl⟩, hb⟩; have HR : Hid (r = s.join t) := hr; have hb' : Below X.heap.size X W := (Below.refl _ X).drew.trans hb; have BW : Hid (Below X.heap.size X W) := hb'; have z0 := cell_on y0 hb'; have z1 := cell_on y1 hb'; have z2 := cell_on y2 hb'; have z3 := cell_on y3 hb'; clear hr hb hb')
  all_goals go_wp2
  all_goals go_ret
  all_goals (refine ⟨ret_bool ?_, bel_tr BX.out BW.out⟩; rw [HR.out]; simp only [beq_nat]; rfl)

end Go.Proofs.Ytjpcojabdjldbaa

/-
  Plain mathematics of ways through begun nodes (no program, no memory).
-/
namespace Go.Proofs.Ytjpcojabdjldbaa.M
set_option linter.unusedVariables false

/-- A way of one or more steps from i to j, whose nodes in between are below k. -/
inductive Pk (R : Nat → Nat → Bool) (k : Nat) : Nat → Nat → Prop
  | one {i j : Nat} : R i j = true → Pk R k i j
  | cons {i m j : Nat} : R i m = true → m < k → Pk R k m j → Pk R k i j

section
variable {R : Nat → Nat → Bool} {k : Nat}

theorem Pk.mono {k' : Nat} (hk : k ≤ k') {i j : Nat} (h : Pk R k i j) : Pk R k' i j := by
  induction h with
  | one e => exact .one e
  | cons e hm _ ih => exact .cons e (by omega) ih
theorem Pk.join {i m j : Nat} (h : Pk R k i m) (hm : m < k) (h' : Pk R k m j) : Pk R k i j := by
  induction h with
  | one e => exact .cons e hm h'
  | cons e hx _ ih => exact .cons e hx (ih hm h')
/-- One node more in between. -/
theorem Pk.succ {i j : Nat} : Pk R (k + 1) i j ↔ Pk R k i j ∨ (Pk R k i k ∧ Pk R k k j) := by
  constructor
  · intro h
    induction h with
    | one e => exact .inl (.one e)
    | @cons i m j e hm _ ih =>
      by_cases hk : m < k
      · rcases ih with ih | ⟨a, b⟩
        · exact .inl (.cons e hk ih)
        · exact .inr ⟨.cons e hk a, b⟩
      · obtain rfl : m = k := by omega
        rcases ih with ih | ⟨_, b⟩
        · exact .inr ⟨.one e, ih⟩
        · exact .inr ⟨.one e, b⟩
  · rintro (h | ⟨a, b⟩)
    · exact h.mono (by omega)
    · exact (a.mono (by omega)).join (by omega) (b.mono (by omega))
theorem Pk.zero {i j : Nat} : Pk R 0 i j ↔ R i j = true := by
  constructor
  · intro h
    cases h with
    | one e => exact e
    | cons _ hm _ => omega
  · exact .one
/-- The way's first step. -/
theorem Pk.first {i j : Nat} (h : Pk R k i j) : R i j = true ∨ ∃ m, R i m = true ∧ m < k ∧ Pk R k m j := by
  cases h with
  | one e => exact .inl e
  | cons e hm h => exact .inr ⟨_, e, hm, h⟩
end

/-- A table of ways, as it is filled: behind the first k nodes. -/
def Warsh (R : Nat → Nat → Bool) (n k : Nat) (T : Nat → Nat → Bool) : Prop := ∀ i j, i < n → j < n → (T i j = true ↔ Pk R k i j)
theorem Warsh.start {R : Nat → Nat → Bool} {n : Nat} : Warsh R n 0 R := fun i j _ _ => Pk.zero.symm
/-- The table behind the node k. -/
theorem Warsh.step {R : Nat → Nat → Bool} {n k : Nat} {T T' : Nat → Nat → Bool} (h : Warsh R n k T) (hk : k < n) (hT : ∀ i j, i < n → j < n → T' i j = (T i j || (T i k && T k j))) : Warsh R n (k + 1) T' := by
  intro i j hi hj
  rw [hT i j hi hj, Pk.succ]
  simp only [Bool.or_eq_true, Bool.and_eq_true, h i j hi hj, h i k hi hk, h k j hk hj]

/-- All nodes that one comes to lie below n. -/
def Within (R : Nat → Nat → Bool) (n : Nat) : Prop := ∀ i j, R i j = true → j < n
theorem Pk.lt {R : Nat → Nat → Bool} {n k : Nat} (h : Within R n) {i j : Nat} (p : Pk R k i j) : j < n := by
  induction p with
  | one e => exact h _ _ e
  | cons _ _ _ ih => exact ih

/-- What is grounded, given marks: all that the node begins with is marked. -/
def Grd (R : Nat → Nat → Bool) (n : Nat) (m : Nat → Bool) (v : Nat) : Prop := ∀ u, u < n → R v u = true → m u = true

/-- A node that comes back to itself is not grounded. -/
theorem grounded_no {R : Nat → Nat → Bool} {n : Nat} (hw : Within R n) (F : (Nat → Bool) → Nat → Bool) (hF : ∀ m v, v < n → (F m v = true ↔ Grd R n m v)) {m : Nat → Bool} (hL : Least n F m) {i : Nat} (hi : i < n) (p : Pk R n i i) : m i = false := by
  -- the nodes that lie on no way from i back to i are closed
  have : ∃ t : Nat → Bool, ∀ v, t v = true ↔ ¬ ((v = i ∨ Pk R n i v) ∧ Pk R n v i) := by
    refine ⟨fun v => @decide (¬ ((v = i ∨ Pk R n i v) ∧ Pk R n v i)) (Classical.propDecidable _), fun v => ?_⟩
    exact @decide_eq_true_iff _ (Classical.propDecidable _)
  obtain ⟨t, ht⟩ := this
  have shut : ∀ v, v < n → F t v = true → t v = true := by
    intro v hv hf
    rw [hF t v hv] at hf
    rw [ht]
    rintro ⟨h1, h2⟩
    have go : ∀ u, R v u = true → (u = i ∨ Pk R n u i) → False := fun u hu hui => by
      have hun := hw v u hu
      have := (ht u).1 (hf u hun hu)
      apply this
      refine ⟨?_, ?_⟩
      · rcases h1 with rfl | h1
        · exact .inr (.one hu)
        · exact .inr (h1.join hv (.one hu))
      · rcases hui with rfl | hui
        · exact p
        · exact hui
    rcases h2.first with e | ⟨u, e, _, hu⟩
    · exact go i e (.inl rfl)
    · exact go u e (.inr hu)
  cases hm : m i with
  | false => rfl
  | true =>
    have := (ht i).1 (hL.low t shut i hi hm)
    exact absurd ⟨.inl rfl, p⟩ this

/-! ### The search -/
/-- What a search from a node leaves: S' for S; the first k nodes have been looked at. -/
structure Srch (R : Nat → Nat → Bool) (n node k : Nat) (S S' : Nat → Bool) : Prop where
  up : ∀ v, v < n → S v = true → S' v = true
  way : ∀ v, v < n → S' v = true → S v = false → Pk R n node v
  shut : ∀ v, v < n → S' v = true → S v = false → ∀ u, u < n → R v u = true → S' u = true
  own : ∀ u, u < k → u < n → R node u = true → S' u = true

theorem Srch.start (R : Nat → Nat → Bool) (n node : Nat) (S : Nat → Bool) : Srch R n node 0 S S :=
  ⟨fun _ _ h => h, fun v _ h h' => absurd (h.symm.trans h') (by decide), fun v _ h h' => absurd (h.symm.trans h') (by decide), fun u hu => absurd hu (Nat.not_lt_zero _)⟩
theorem Srch.skip {R : Nat → Nat → Bool} {n node k : Nat} {S S' : Nat → Bool} (h : Srch R n node k S S') (hk : R node k = true → S' k = true) : Srch R n node (k + 1) S S' :=
  ⟨h.up, h.way, h.shut, fun u hu hn hr => if e : u = k then e ▸ hk (e ▸ hr) else h.own u (by omega) hn hr⟩
/-- The node k was not seen: it is marked, and searched. -/
theorem Srch.deep {R : Nat → Nat → Bool} {n node k : Nat} {S S1 S2 S3 : Nat → Bool} (hkn : k < n) (h : Srch R n node k S S1) (hr : R node k = true) (h0 : S1 k = false) (h1 : ∀ v, v < n → S2 v = (S1 v || v == k)) (h2 : Srch R n k n S2 S3) : Srch R n node (k + 1) S S3 := by
  have up12 : ∀ v, v < n → S1 v = true → S3 v = true := fun v hv e => h2.up v hv (by rw [h1 v hv, e]; rfl)
  have k3 : S3 k = true := h2.up k hkn (by rw [h1 k hkn]; simp)
  refine ⟨fun v hv e => up12 v hv (h.up v hv e), fun v hv e e' => ?_, fun v hv e e' u hu hvu => ?_, fun u hu hn hru => ?_⟩
  · by_cases c1 : S1 v = true
    · exact h.way v hv c1 e'
    · by_cases ck : v = k
      · subst ck; exact .one hr
      · have c2 : S2 v = false := by rw [h1 v hv]; simp [ck]; simpa using c1
        exact .cons hr hkn (h2.way v hv e c2)
  · by_cases c1 : S1 v = true
    · exact up12 u hu (h.shut v hv c1 e' u hu hvu)
    · by_cases ck : v = k
      · subst ck; exact h2.own u hu hu hvu
      · have c2 : S2 v = false := by rw [h1 v hv]; simp [ck]; simpa using c1
        exact h2.shut v hv e c2 u hu hvu
  · by_cases e : u = k
    · subst e; exact k3
    · exact up12 u hn (h.own u (by omega) hn hru)
/-- From nothing seen: what is seen is what one can come to. -/
theorem Srch.done {R : Nat → Nat → Bool} {n node : Nat} {S' : Nat → Bool} (hw : Within R n) (h : Srch R n node n (fun _ => false) S') : ∀ v, v < n → (S' v = true ↔ Pk R n node v) := by
  have key : ∀ i j, Pk R n i j → (i = node ∨ (i < n ∧ S' i = true)) → S' j = true := by
    intro i j p
    induction p with
    | @one i j e =>
      intro hi
      have hj := hw _ _ e
      rcases hi with rfl | ⟨h1, h2⟩
      · exact h.own _ hj hj e
      · exact h.shut _ h1 h2 rfl _ hj e
    | @cons i m j e hm _ ih =>
      intro hi
      refine ih (.inr ⟨hm, ?_⟩)
      rcases hi with rfl | ⟨h1, h2⟩
      · exact h.own _ hm hm e
      · exact h.shut _ h1 h2 rfl _ hm e
  exact fun v hv => ⟨fun e => h.way v hv e rfl, fun p => key node v p (.inl rfl)⟩

end Go.Proofs.Ytjpcojabdjldbaa.M

/-
  Walks: the search that calls itself.
-/
namespace Go.Proofs.Ytjpcojabdjldbaa
open Go.RowKit
open M (OpD NodeD Gr)
set_option linter.unusedVariables false
set_option linter.unusedSimpArgs false

def RU (U : Nat → NS) (v u : Nat) : Bool := (U v).has u

/-- What the search holds on to. -/
structure Held3 (W : World) (bb fb sb ub uo n uc : Nat) (U : Nat → NS) : Prop where
  box : W.cell? ⟨bb, 0, none⟩ = some (.slice (some ⟨ub, uo, none⟩) n uc)
  fn : W.cell? ⟨fb, 0, none⟩ = some (.func (.func 133) #[] #[.pointer (some ⟨bb, 0, none⟩), .pointer (some ⟨sb, 0, none⟩), .pointer (some ⟨fb, 0, none⟩)])
  sets : SetsA W ub uo n U
  n1 : ¬ bb = sb
  n2 : ¬ fb = sb
  n3 : ¬ ub = sb
theorem Held3.keep {W W' : World} {bb fb sb ub uo n uc : Nat} {U : Nat → NS} (h : Held3 W bb fb sb ub uo n uc U) (k : Keep (fun x => x = sb) W W') : Held3 W' bb fb sb ub uo n uc U :=
  ⟨(k.cell (p := ⟨bb, 0, none⟩) (lt_of_cell h.box) h.n1).trans h.box, (k.cell (p := ⟨fb, 0, none⟩) (lt_of_cell h.fn) h.n2).trans h.fn,
    fun i hi => let ⟨a, b, c, d⟩ := h.sets i hi
      ⟨(k.cell (p := ⟨ub, _, none⟩) (lt_of_cell a) h.n3).trans a, (k.cell (p := ⟨ub, _, none⟩) (lt_of_cell b) h.n3).trans b, (k.cell (p := ⟨ub, _, none⟩) (lt_of_cell c) h.n3).trans c, (k.cell (p := ⟨ub, _, none⟩) (lt_of_cell d) h.n3).trans d⟩, h.n1, h.n2, h.n3⟩
theorem keep_bel {C : Nat → Prop} {W W' : World} (h : Below W.heap.size W W') : Keep C W W' := Keep.of_below h (fun k hk _ => hk)
theorem keep_set4 (W : World) (b : Nat) (s : NS) : Keep (fun x => x = b) W (set4 W b s) := by
  unfold set4
  exact (((Keep.setCell (C := fun x => x = b) _ ⟨b, 0, none⟩ _ rfl).trans (Keep.setCell (C := fun x => x = b) _ ⟨b, 1, none⟩ _ rfl)).trans (Keep.setCell (C := fun x => x = b) _ ⟨b, 2, none⟩ _ rfl)).trans (Keep.setCell (C := fun x => x = b) _ ⟨b, 3, none⟩ _ rfl)

/-- What the search leaves. -/
structure SrchIs (n node sb : Nat) (U : Nat → NS) (S : NS) (W : World) (e : Ending) (W' : World) : Prop where
  ret : ∃ v, e = .returned v
  val : ∃ S' : NS, S'.OK ∧ At W' sb S' ∧ M.Srch (RU U) n node n S.has S'.has
  keep : Keep (fun x => x = sb) W W'

def srI (n node sb : Nat) (U : Nat → NS) (S : NS) (W : World) (iv : Value) (wr : World) : Prop :=
  ∃ (k : Nat) (S' : NS), k ≤ n ∧ iv = .int .i64 (k : Int) ∧ S'.OK ∧ At wr sb S' ∧ M.Srch (RU U) n node k S.has S'.has ∧ Keep (fun x => x = sb) W wr

set_option maxRecDepth 100000 in
set_option maxHeartbeats 8000000 in
theorem search_any (bb fb sb ub uo n uc : Nat) (U : Nat → NS) (hn : n ≤ 200) (hU : ∀ i, i < n → (U i).OK) (d : Nat) : ∀ (S : NS) (node : Nat) (W : World), n - M.cnt S.has n ≤ d → node < n → S.OK → Held3 W bb fb sb ub uo n uc U → At W sb S →
    Calls Try.prog 133 #[.int .i64 (node : Int), .pointer (some ⟨bb, 0, none⟩), .pointer (some ⟨sb, 0, none⟩), .pointer (some ⟨fb, 0, none⟩)] W (SrchIs n node sb U S W) := by
  induction d using Nat.strongRecOn with
  | _ d ih =>
    intro S node W hd hnode hS hH hA
    have IH : Hid (∀ m, m < d → ∀ (S : NS) (node : Nat) (W : World), n - M.cnt S.has n ≤ m → node < n → S.OK → Held3 W bb fb sb ub uo n uc U → At W sb S →
      Calls Try.prog 133 #[.int .i64 (node : Int), .pointer (some ⟨bb, 0, none⟩), .pointer (some ⟨sb, 0, none⟩), .pointer (some ⟨fb, 0, none⟩)] W (SrchIs n node sb U S W)) := ih
    have HH : Hid (Held3 W bb fb sb ub uo n uc U) := hH
    have HA : Hid (At W sb S) := hA
    have HS : Hid S.OK := hS
    have HU : Hid (∀ i, i < n → (U i).OK) := hU
    have HD : Hid (n - M.cnt S.has n ≤ d) := hd
    have b0 := hH.box
    clear ih hH hA hS hU hd
    go_enter Try.func133, Try.ntmps133
    go_wp2
    go_loopw [8] (fun iv wr => srI n node sb U S W iv wr) (fun iv _ => n - (intOf iv).toNat)
    case atStart => exact ⟨0, S, Nat.zero_le _, rfl, HS.out, HA.out, M.Srch.start _ _ _ _, Keep.refl _ _⟩
    case round =>
      obtain ⟨k, S', hk, rfl, hS', hA', hsr, hkp⟩ := hrel
      have HS' : Hid S'.OK := hS'
      have HA' : Hid (At wr sb S') := hA'
      have HSR : Hid (M.Srch (RU U) n node k S.has S'.has) := hsr
      have HKP : Hid (Keep (fun x => x = sb) W wr) := hkp
      have HH' : Hid (Held3 wr bb fb sb ub uo n uc U) := HH.out.keep hkp
      clear hS' hA' hsr hkp b0
      by_cases hlt : k < n
      · have b1 := HH'.out.box
        obtain ⟨x0, x1, x2, x3⟩ := HH'.out.sets node hnode
        have HUN : Hid (U node).OK := HU.out node hnode
        by_cases hr : (U node).has k = true
        · have HR : Hid ((U node).has k = true) := hr
          go_wp2_with fail
          refine (has_ag (U node) k _ HUN.out (by omega)).mono ?_
          rintro e W2 ⟨rfl, hb2⟩
          have B2 : Hid (Below wr.heap.size wr W2) := hb2
          have A2 : Hid (At W2 sb S') := HA'.out.later hb2
          obtain ⟨m0, m1, m2, m3⟩ := A2.out.cells
          clear hb2 x0 x1 x2 x3 b1
          go_wp2_with fail
          refine (has_ag S' k _ HS'.out (by omega)).mono ?_
          rintro e W3 ⟨rfl, hb3⟩
          have B3 : Hid (Below wr.heap.size wr W3) := bel_tr B2.out hb3
          have A3 : Hid (At W3 sb S') := A2.out.later hb3
          obtain ⟨e0, e1, e2, e3⟩ := A3.out.cells
          obtain ⟨d0, d1, d2, d3⟩ := A3.out.soft
          clear hb3 m0 m1 m2 m3
          by_cases hsn : S'.has k = true
          · have HSN : Hid (S'.has k = true) := hsn
            go_wp2
            go_roundw
            case rel => exact ⟨k + 1, S', by omega, by go_num, HS'.out, A3.out, HSR.out.skip (fun _ => HSN.out), HKP.out.trans (keep_bel B3.out)⟩
            case measure => simp [intOf]; omega
          · have hsn2 : S'.has k = false := by simpa using hsn
            have HSN : Hid (S'.has k = false) := hsn2
            clear hsn
            go_wp2_with fail
            refine (with_agg S' k _ HS'.out (by omega)).mono ?_
            rintro e W4 ⟨⟨t, ht, rfl⟩, hb4⟩
            have HT : Hid (t = S'.put k) := ht
            have B4 : Hid (Below wr.heap.size wr W4) := bel_tr B3.out hb4
            have A4 : Hid (At W4 sb S') := A3.out.later hb4
            obtain ⟨e0', e1', e2', e3'⟩ := A4.out.cells
            obtain ⟨d0', d1', d2', d3'⟩ := A4.out.soft
            have HTO : Hid t.OK := by show t.OK; rw [ht]; exact HS'.out.put k
            have H5 : Hid (Held3 (set4 W4 sb t) bb fb sb ub uo n uc U) := (HH'.out.keep (keep_bel B4.out)).keep (keep_set4 W4 sb t)
            have A5 : Hid (At (set4 W4 sb t) sb t) := A4.out.set t
            have K5 : Hid (Keep (fun x => x = sb) wr (set4 W4 sb t)) := (keep_bel B4.out).trans (keep_set4 W4 sb t)
            have f5 : ((((W4.setCell ⟨sb, 0, none⟩ (.int .u64 t.a)).setCell ⟨sb, 1, none⟩ (.int .u64 t.b)).setCell ⟨sb, 2, none⟩ (.int .u64 t.c)).setCell ⟨sb, 3, none⟩ (.int .u64 t.d)).cell? ⟨fb, 0, none⟩ = some (.func (.func 133) #[] #[.pointer (some ⟨bb, 0, none⟩), .pointer (some ⟨sb, 0, none⟩), .pointer (some ⟨fb, 0, none⟩)]) := H5.out.fn
            have hput : Hid (∀ v, v < n → t.has v = (S'.has v || v == k)) := fun v hv => by rw [HT.out, put_has _ _ _ (by omega) (by omega)]
            have hdec : Hid (n - M.cnt t.has n < d) := by
              show _ < _
              have c1 : M.cnt t.has n = M.cnt S'.has n + 1 := by
                rw [← M.cnt_with S'.has k n hlt hsn2]
                have : ∀ q, q ≤ n → M.cnt t.has q = M.cnt (fun u => S'.has u || u == k) q := by
                  intro q hq
                  induction q with
                  | zero => rfl
                  | succ q ihq => rw [M.cnt, M.cnt, ihq (by omega), hput.out q (by omega)]
                exact this n (Nat.le_refl _)
              have c2 := M.cnt_mono S.has S'.has n HSR.out.up
              have c3 := M.cnt_le t.has n
              have := HD.out
              omega
            clear hb4 ht e0 e1 e2 e3 d0 d1 d2 d3
            go_wp2_with fail
            refine (IH.out _ hdec.out t k _ (Nat.le_refl _) hlt HTO.out H5.out A5.out).mono ?_
            rintro e W6 ⟨⟨v, rfl⟩, ⟨S3, hS3, hA3, hsr3⟩, hk3⟩
            have HE : Hid (srI n node sb U S W (.int .i64 ((k + 1 : Nat) : Int)) W6) := ⟨k + 1, S3, by omega, rfl, hS3, hA3, M.Srch.deep hlt HSR.out HR.out HSN.out hput.out hsr3, (HKP.out.trans K5.out).trans hk3⟩
            clear hS3 hA3 hsr3 hk3
            go_wp2
            go_roundw
            case rel => exact HE.out
            case measure => simp [intOf]; omega
        · have hr2 : (U node).has k = false := by simpa using hr
          have HR : Hid (¬ (U node).has k = true) := hr
          clear hr
          go_wp2_with (go_at_call 63; refine (has_ag (U node) k _ HUN.out (by omega)).mono ?_; rintro e W2 ⟨rfl, hb2⟩; have B2 : Hid (Below wr.heap.size wr W2) := hb2; clear hb2)
          go_roundw
          case rel => exact ⟨k + 1, S', by omega, by go_num, HS'.out, HA'.out.later B2.out, HSR.out.skip (fun q => absurd q HR.out), HKP.out.trans (keep_bel B2.out)⟩
          case measure => simp [intOf]; omega
      · obtain rfl : k = n := by omega
        go_wp2
        go_end0
        exact ⟨⟨_, rfl⟩, ⟨S', HS'.out, HA'.out, HSR.out⟩, HKP.out⟩

set_option maxRecDepth 100000 in
set_option maxHeartbeats 4000000 in
theorem comesBack_any (ub uo n uc home : Nat) (U : Nat → NS) (w : World) (hU : SetsA w ub uo n U) (hok : ∀ i, i < n → (U i).OK) (hn : n ≤ 200) (hh : home < n) (hw : M.Within (RU U) n) :
    Calls Try.prog 110 #[.slice (some ⟨ub, uo, none⟩) n uc, .int .i64 (home : Int)] w (SaysB (M.Pk (RU U) n home home) w) := by
  have HU : Hid (SetsA w ub uo n U) := hU
  have HOK : Hid (∀ i, i < n → (U i).OK) := hok
  have HW : Hid (M.Within (RU U) n) := hw
  have lub : ub < w.heap.size := lt_of_cell (hU home hh).1
  have hst : ∀ (a : Addr) (f : Fn) (xs ys : Array Value) (W : World), (store a (.func f xs ys)).run Try.prog W = stored Try.prog W a (.func f xs ys) .plain := fun a f xs ys W => run_store Try.prog W a _ .plain rfl
  clear hU hok hw
  have A5 : Hid (At (((w.alloc (.cells #[.slice (some ⟨ub, uo, none⟩) n uc] 93)).alloc (.cells #[.int .u64 0, .int .u64 0, .int .u64 0, .int .u64 0] 85)).alloc (.cells #[.func (.func 133) #[] #[.pointer (some ⟨w.heap.size, 0, none⟩), .pointer (some ⟨w.heap.size + 1, 0, none⟩), .pointer (some ⟨w.heap.size + 1 + 1, 0, none⟩)]] 176)) (w.heap.size + 1) nz) := by
    have := At.new (w.alloc (.cells #[.slice (some ⟨ub, uo, none⟩) n uc] 93)) nz
    rw [World.size_alloc] at this
    exact this.later (bel1 _ _)
  have B1 : Hid (Below w.heap.size w (((w.alloc (.cells #[.slice (some ⟨ub, uo, none⟩) n uc] 93)).alloc (.cells #[.int .u64 0, .int .u64 0, .int .u64 0, .int .u64 0] 85)).alloc (.cells #[.func (.func 133) #[] #[.pointer (some ⟨w.heap.size, 0, none⟩), .pointer (some ⟨w.heap.size + 1, 0, none⟩), .pointer (some ⟨w.heap.size + 1 + 1, 0, none⟩)]] 176))) := bel3 w _ _ _
  have HH : Hid (Held3 (((w.alloc (.cells #[.slice (some ⟨ub, uo, none⟩) n uc] 93)).alloc (.cells #[.int .u64 0, .int .u64 0, .int .u64 0, .int .u64 0] 85)).alloc (.cells #[.func (.func 133) #[] #[.pointer (some ⟨w.heap.size, 0, none⟩), .pointer (some ⟨w.heap.size + 1, 0, none⟩), .pointer (some ⟨w.heap.size + 1 + 1, 0, none⟩)]] 176)) w.heap.size (w.heap.size + 1 + 1) (w.heap.size + 1) ub uo n uc U) := ⟨cell_on (cell_on (cN w.heap.size rfl rfl) (bel1 _ _)) (bel1 _ _), cN (w.heap.size + 1 + 1) (by simp) rfl, HU.out.later (bel3 w _ _ _), by omega, by omega, by omega⟩
  have c6 : (((w.alloc (.cells #[.slice (some ⟨ub, uo, none⟩) n uc] 93)).alloc (.cells #[.int .u64 0, .int .u64 0, .int .u64 0, .int .u64 0] 85)).alloc (.cells #[.nilFunc] 176)).cell? ⟨w.heap.size + 1 + 1, 0, none⟩ = some .nilFunc := cN (w.heap.size + 1 + 1) (by simp) rfl
  have z6 : (((w.alloc (.cells #[.slice (some ⟨ub, uo, none⟩) n uc] 93)).alloc (.cells #[.int .u64 0, .int .u64 0, .int .u64 0, .int .u64 0] 85)).alloc (.cells #[.nilFunc] 176)).frozen? ⟨w.heap.size + 1 + 1, 0, none⟩ = false := soft1 _ _ 176 (w.heap.size + 1 + 1) 0 (by simp) (by simp)
  go_enter Try.func110, Try.ntmps110
  go_wp2_with fail
  refine (search_any w.heap.size (w.heap.size + 1 + 1) (w.heap.size + 1) ub uo n uc U hn HOK.out n nz home _ (Nat.sub_le _ _) hh NS.OK.zero HH.out A5.out).mono ?_
  rintro e W ⟨⟨v, rfl⟩, ⟨S, hS, hA, hsr⟩, hk⟩
  have e0 : nz.has = fun _ => false := funext nz_has
  rw [e0] at hsr
  have HD : Hid (S.has home = true ↔ M.Pk (RU U) n home home) := M.Srch.done HW.out hsr home hh
  have HSS : Hid S.OK := hS
  have AW : Hid (At W (w.heap.size + 1) S) := hA
  have BW : Hid (Below w.heap.size w W) := B1.out.trans (hk.below (by simp; omega) (fun k hk => by omega))
  obtain ⟨m0, m1, m2, m3⟩ := AW.out.cells
  clear hS hA hsr hk e0 hst c6 z6
  go_wp2_with fail
  refine (has_ag S home _ HSS.out (by omega)).mono ?_
  rintro e W2 ⟨rfl, hb⟩
  have B2 : Hid (Below w.heap.size w W2) := bel_tr BW.out hb
  clear hb
  go_wp2
  go_ret
  exact ⟨⟨_, rfl, HD.out⟩, B2.out⟩

end Go.Proofs.Ytjpcojabdjldbaa

/-
  Plain mathematics: the operands of an element on the stack; whether some star repeats what is nullable.
-/
namespace Go.Proofs.Ytjpcojabdjldbaa.M
set_option linter.unusedVariables false

section
variable {α : Type} [Inhabited α] (f : OpD → α → α → α) (B : Nat → OpD)

theorem leaf_at (q lo : Nat) (x : α) (h0 : ar (B q).kind = 0) (e : stk f B (q + 1) = (lo, x) :: stk f B lo) : lo = q ∧ x = f (B q) default default := by
  rw [stk] at e
  simp [stp, h0] at e
  exact ⟨e.1.1.symm, e.1.2.symm⟩

theorem un_at (q lo : Nat) (x : α) (hF : Fed B (q + 1)) (h1 : ar (B q).kind = 1) (e : stk f B (q + 1) = (lo, x) :: stk f B lo) :
    ∃ y, lo < q ∧ stk f B q = (lo, y) :: stk f B lo ∧ x = f (B q) y default := by
  have hl := stk_len f B q (hF.less (by omega))
  have hi := hF q (by omega)
  rw [stk] at e
  match hs : stk f B q with
  | [] => rw [hs] at hl; simp at hl; omega
  | (s, y) :: r =>
    rw [hs] at e
    simp [stp, h1] at e
    obtain ⟨⟨rfl, rfl⟩, er⟩ := e
    obtain ⟨a1, a2, a3⟩ := stk_cons f B q (hF.less (by omega)) s y _ hs
    exact ⟨y, a1, by rw [a2], rfl⟩

theorem bin_at (q lo : Nat) (x : α) (hF : Fed B (q + 1)) (h2 : ar (B q).kind = 2) (e : stk f B (q + 1) = (lo, x) :: stk f B lo) :
    ∃ s y z, lo < s ∧ s < q ∧ stk f B q = (s, y) :: stk f B s ∧ stk f B s = (lo, z) :: stk f B lo ∧ x = f (B q) z y ∧ dep B s + 1 = dep B q ∧ ∀ j, s < j → j ≤ q → dep B q ≤ dep B j := by
  have hq : Fed B q := hF.less (by omega)
  have hl := stk_len f B q hq
  have hi := hF q (by omega)
  rw [stk] at e
  match hs : stk f B q with
  | [] => rw [hs] at hl; simp at hl; omega
  | [(s, y)] => rw [hs] at hl; simp at hl; omega
  | (s, y) :: (s1, z) :: r =>
    rw [hs] at e hl
    simp only [stp, h2, if_true, List.cons.injEq, Prod.mk.injEq] at e
    obtain ⟨⟨rfl, rfl⟩, er⟩ := e
    obtain ⟨a1, a2, a3⟩ := stk_cons f B q hq s y _ hs
    obtain ⟨b1, b2, b3⟩ := stk_cons f B s (hq.less (by omega)) s1 z r a2.symm
    have l2 := stk_len f B s (hq.less (by omega))
    rw [← a2] at l2
    simp at hl l2
    exact ⟨s, y, z, b1, a1, by rw [← a2], by rw [← a2, b2], rfl, by omega, a3⟩

theorem ar6 : ar 6 = 1 := rfl
/-- Some star between lo and hi repeats what is nullable. -/
def Loop (nu : α → Bool) (lo hi : Nat) : Prop := ∃ i, lo ≤ i ∧ i < hi ∧ (B i).kind = 6 ∧ nu (top (stk f B i)) = true

theorem stk_loop (lp nu : α → Bool) (hf : ∀ o x y, lp (f o x y) = (if o.kind = 6 then nu x || lp x else if ar o.kind = 2 then lp x || lp y else if ar o.kind = 1 then lp x else false)) (hi : Nat) :
    ∀ lo x, Fed B hi → stk f B hi = (lo, x) :: stk f B lo → (lp x = true ↔ Loop f B nu lo hi) := by
  induction hi using Nat.strongRecOn with
  | _ hi ih =>
    intro lo x hF e
    obtain ⟨hlo, _, _⟩ := stk_cons f B hi hF lo x _ e
    obtain ⟨q, rfl⟩ : ∃ q, hi = q + 1 := ⟨hi - 1, by omega⟩
    rcases ar_cases (B q).kind with h0 | h0 | h0
    · obtain ⟨rfl, rfl⟩ := leaf_at f B q lo x h0 e
      have h6 : ¬ (B lo).kind = 6 := fun h => by rw [h, ar6] at h0; omega
      rw [hf, if_neg h6, h0]
      simp
      rintro ⟨i, h1, h2, h3, h4⟩
      obtain rfl : i = lo := by omega
      exact h6 h3
    · obtain ⟨y, hlq, st, rfl⟩ := un_at f B q lo x hF h0 e
      have I := ih q (by omega) lo y (hF.less (by omega)) st
      rw [hf]
      by_cases h6 : (B q).kind = 6
      · rw [if_pos h6, Bool.or_eq_true, I]
        constructor
        · rintro (h | ⟨i, h1, h2, h3⟩)
          · exact ⟨q, by omega, by omega, h6, by rw [st]; exact h⟩
          · exact ⟨i, h1, by omega, h3⟩
        · rintro ⟨i, h1, h2, h3, h4⟩
          by_cases hi : i = q
          · subst hi; rw [st] at h4; exact .inl h4
          · exact .inr ⟨i, h1, by omega, h3, h4⟩
      · rw [if_neg h6, h0, if_neg (by decide), if_pos rfl, I]
        constructor
        · rintro ⟨i, h1, h2, h3⟩
          exact ⟨i, h1, by omega, h3⟩
        · rintro ⟨i, h1, h2, h3, h4⟩
          by_cases hi : i = q
          · subst hi; exact absurd h3 h6
          · exact ⟨i, h1, by omega, h3, h4⟩
    · obtain ⟨s, y, z, h1, h2, st1, st2, rfl, _, _⟩ := bin_at f B q lo x hF h0 e
      have I1 := ih q (by omega) s y (hF.less (by omega)) st1
      have I2 := ih s (by omega) lo z (hF.less (by omega)) st2
      have h6 : ¬ (B q).kind = 6 := fun h => by rw [h, ar6] at h0; omega
      rw [hf, if_neg h6, h0, if_pos rfl, Bool.or_eq_true, I1, I2]
      constructor
      · rintro (⟨i, a1, a2, a3⟩ | ⟨i, a1, a2, a3⟩)
        · exact ⟨i, a1, by omega, a3⟩
        · exact ⟨i, by omega, by omega, a3⟩
      · rintro ⟨i, a1, a2, a3, a4⟩
        by_cases hi : i = q
        · subst hi; exact absurd a3 h6
        · by_cases his : i < s
          · exact .inl ⟨i, a1, his, a3, a4⟩
          · exact .inr ⟨i, by omega, by omega, a3, a4⟩
end

/-! ### What the checks answer -/
/-- The answer of a check of n nodes: L says which come back to themselves, O which repeat what is nullable. -/
inductive Chk (n : Nat) (L O : Nat → Prop) : Int → Int → Prop
  | left (p : Nat) : p < n → L p → (∀ q, q < p → ¬ L q) → Chk n L O 8 p
  | loop (p : Nat) : (∀ q, q < n → ¬ L q) → p < n → O p → (∀ q, q < p → ¬ O q) → Chk n L O 9 p
  | fine : (∀ q, q < n → ¬ L q) → (∀ q, q < n → ¬ O q) → Chk n L O 0 0
theorem least_eq {P : Nat → Prop} {p q : Nat} (hp : P p) (hp' : ∀ r, r < p → ¬ P r) (hq : P q) (hq' : ∀ r, r < q → ¬ P r) : p = q := by
  rcases Nat.lt_trichotomy p q with h | h | h
  · exact absurd hp (hq' p h)
  · exact h
  · exact absurd hq (hp' q h)
theorem Chk.unique {n : Nat} {L O : Nat → Prop} {a b a' b' : Int} (h : Chk n L O a b) (h' : Chk n L O a' b') : a = a' ∧ b = b' := by
  cases h with
  | left p h1 h2 h3 =>
    cases h' with
    | left p' k1 k2 k3 => rw [least_eq h2 h3 k2 k3]; exact ⟨rfl, rfl⟩
    | loop p' k1 _ _ _ => exact absurd h2 (k1 p h1)
    | fine k1 _ => exact absurd h2 (k1 p h1)
  | loop p h1 h2 h3 h4 =>
    cases h' with
    | left p' k1 k2 k3 => exact absurd k2 (h1 p' k1)
    | loop p' k1 k2 k3 k4 => rw [least_eq h3 h4 k3 k4]; exact ⟨rfl, rfl⟩
    | fine k1 k2 => exact absurd h3 (k2 p h2)
  | fine h1 h2 =>
    cases h' with
    | left p' k1 k2 k3 => exact absurd k2 (h1 p' k1)
    | loop p' k1 k2 k3 k4 => exact absurd k3 (h2 p' k2)
    | fine k1 k2 => exact ⟨rfl, rfl⟩
theorem Chk.congr {n : Nat} {L O L' O' : Nat → Prop} {a b : Int} (h : Chk n L O a b) (hL : ∀ q, q < n → (L q ↔ L' q)) (hO : ∀ q, q < n → (O q ↔ O' q)) : Chk n L' O' a b := by
  cases h with
  | left p h1 h2 h3 => exact .left p h1 ((hL p h1).1 h2) (fun q hq h => h3 q hq ((hL q (by omega)).2 h))
  | loop p h1 h2 h3 h4 => exact .loop p (fun q hq h => h1 q hq ((hL q hq).2 h)) h2 ((hO p h2).1 h3) (fun q hq h => h4 q hq ((hO q (by omega)).2 h))
  | fine h1 h2 => exact .fine (fun q hq h => h1 q hq ((hL q hq).2 h)) (fun q hq h => h2 q hq ((hO q hq).2 h))

/-! ### Grounded nodes -/
def grdF (R : Nat → Nat → Bool) (n : Nat) (m : Nat → Bool) (v : Nat) : Bool := (List.range n).all (fun u => !(R v u) || m u)
theorem grdF_iff (R : Nat → Nat → Bool) (n : Nat) (m : Nat → Bool) (v : Nat) : grdF R n m v = true ↔ Grd R n m v := by
  unfold grdF Grd
  simp only [List.all_eq_true, List.mem_range, Bool.or_eq_true, Bool.not_eq_true']
  constructor
  · intro h u hu hr
    rcases h u hu with k | k
    · rw [hr] at k; cases k
    · exact k
  · intro h u hu
    cases hr : R v u with
    | false => exact .inl rfl
    | true => exact .inr (h u hu hr)
theorem grdF_mono (R : Nat → Nat → Bool) (n : Nat) : Mono n (grdF R n) :=
  ⟨fun m m' h v hv e => by
    rw [grdF_iff] at *
    exact fun u hu hr => h u hu (e u hu hr)⟩
theorem grdF_dep (R : Nat → Nat → Bool) (n : Nat) (m m' : Nat → Bool) (x : Nat) (hm : ∀ v, v < n → m' v = (m v || v == x)) (v : Nat) (e1 : grdF R n m' v = true) (e2 : grdF R n m v = false) : R v x = true := by
  rw [grdF_iff] at e1
  cases hr : R v x with
  | true => rfl
  | false =>
    have : grdF R n m v = true := by
      rw [grdF_iff]
      intro u hu hru
      have := e1 u hu hru
      rw [hm u hu] at this
      simp at this
      rcases this with k | k
      · exact k
      · subst k; rw [hr] at hru; cases hru
    rw [this] at e2
    cases e2
/-- Not grounded and comes back: comes back. -/
theorem back_iff {R : Nat → Nat → Bool} {n : Nat} (hw : Within R n) {m : Nat → Bool} (hL : Least n (grdF R n) m) {i : Nat} (hi : i < n) : (m i = false ∧ Pk R n i i) ↔ Pk R n i i :=
  ⟨fun h => h.2, fun h => ⟨grounded_no hw (grdF R n) (fun m v _ => grdF_iff R n m v) hL hi h, h⟩⟩

end Go.Proofs.Ytjpcojabdjldbaa.M

/-
  Walks: the smallest node that is left recursive.
-/
namespace Go.Proofs.Ytjpcojabdjldbaa
open Go.RowKit
open M (OpD NodeD Gr)
set_option linter.unusedVariables false
set_option linter.unusedSimpArgs false

set_option maxRecDepth 100000 in
set_option maxHeartbeats 4000000 in
theorem must8 (bb ub uo n uc x : Nat) (U : Nat → NS) (S : NS) (W : World) (h2 : W.cell? ⟨bb, 0, none⟩ = some (.slice (some ⟨ub, uo, none⟩) n uc)) (hU : SetsA W ub uo n U) (hx : x < n) (hn : n ≤ 200) (hok : (U x).OK) (hS : S.OK) :
    Calls Try.prog 108 #[.int .i64 (x : Int), .agg #[.int .u64 S.a, .int .u64 S.b, .int .u64 S.c, .int .u64 S.d], .pointer (some ⟨bb, 0, none⟩)] W fun e W' => e = .returned (.bool ((U x).inn S)) ∧ Below W.heap.size W W' := by
  obtain ⟨c0, c1, c2, c3⟩ := hU x hx
  have HB : Hid (Below W.heap.size W (W.alloc (nsc S))) := bel1 W _
  have y2 := cellOn (nsc S) h2
  have z0 := cellOn (nsc S) c0
  have z1 := cellOn (nsc S) c1
  have z2 := cellOn (nsc S) c2
  have z3 := cellOn (nsc S) c3
  obtain ⟨m0, m1, m2, m3⟩ := (At.new W S).cells
  have HK : Hid (U x).OK := hok
  have HS : Hid S.OK := hS
  clear hU hok hS c0 c1 c2 c3 h2
  generalize U x = u at *
  go_enter Try.func108, Try.ntmps108
  go_wp2
  rw [show (Obj.cells #[.int .u64 S.a, .int .u64 S.b, .int .u64 S.c, .int .u64 S.d] 85) = nsc S from rfl]
  generalize W.alloc (nsc S) = X at *
  go_region_with (go_at_call 109; refine (within_any u S _ HK.out HS.out).mono ?_; rintro e W2 ⟨rfl, hb2⟩; have B2 : Hid (Below W.heap.size W W2) := bel_tr HB.out ((Below.refl _ X).drew.trans hb2); clear hb2)
  all_goals go_wp2
  all_goals go_ret
  all_goals exact ⟨rfl, B2.out⟩

theorem inn_grd (U : Nat → NS) (S : NS) (n x : Nat) (hn : n ≤ 256) (hok : (U x).OK) (hw : M.Within (RU U) n) : (U x).inn S = M.grdF (RU U) n S.has x := by
  rw [Bool.eq_iff_iff, inn_iff _ _ hok, M.grdF_iff]
  constructor
  · exact fun h u hu e => h u (by omega) e
  · exact fun h u hu e => h u (hw x u e) e

/-- What leftRecursive answers. -/
structure LeftIs (n : Nat) (L : Nat → Prop) (w : World) (e : Ending) (w' : World) : Prop where
  val : (∃ p : Nat, p < n ∧ L p ∧ (∀ q, q < p → ¬ L q) ∧ e = .returned (.int .i64 (p : Int))) ∨ ((∀ q, q < n → ¬ L q) ∧ e = .returned (.int .i64 (-1)))
  bel : Below w.heap.size w w'

def lrI (w W1 : World) (n : Nat) (L : Nat → Prop) (iv : Value) (wr : World) : Prop :=
  ∃ k : Nat, k ≤ n ∧ iv = .int .i64 (k : Int) ∧ (∀ q, q < k → ¬ L q) ∧ Below W1.heap.size W1 wr

set_option maxRecDepth 100000 in
set_option maxHeartbeats 8000000 in
theorem leftRecursive_any (ub uo n uc : Nat) (U : Nat → NS) (w : World) (hU : SetsA w ub uo n U) (hok : ∀ i, i < n → (U i).OK) (h0 : 0 < n) (hn : n ≤ 200) (hw : M.Within (RU U) n) :
    Calls Try.prog 69 #[.slice (some ⟨ub, uo, none⟩) n uc] w (LeftIs n (fun p => M.Pk (RU U) n p p) w) := by
  have HU : Hid (SetsA w ub uo n U) := hU
  have HOK : Hid (∀ i, i < n → (U i).OK) := hok
  have HW : Hid (M.Within (RU U) n) := hw
  have lub : ub < w.heap.size := lt_of_cell (hU 0 h0).1
  clear hU hok hw
  have b0 : (w.alloc (.cells #[.slice (some ⟨ub, uo, none⟩) n uc] 93)).cell? ⟨w.heap.size, 0, none⟩ = some (.slice (some ⟨ub, uo, none⟩) n uc) := cN w.heap.size rfl rfl
  have B0 : Hid (Below w.heap.size w (w.alloc (.cells #[.slice (some ⟨ub, uo, none⟩) n uc] 93))) := bel1 w _
  go_enter Try.func69, Try.ntmps69
  go_wp2_with fail
  generalize w.alloc (.cells #[.slice (some ⟨ub, uo, none⟩) n uc] 93) = X at *
  refine (leastMarks8 ub uo n uc U _ (M.grdF (RU U) n) X (HU.out.later B0.out) HOK.out h0 hn (M.grdF_mono _ _) (fun m m' x hx hm v hv e1 e2 => M.grdF_dep (RU U) n m m' x hm v e1 e2)
    (fun x hx S hS W hW => (must8 w.heap.size ub uo n uc x U S W (cell_on b0 hW) ((HU.out.later B0.out).later hW) hx hn (HOK.out x hx) hS).mono (fun e W' h => ⟨by rw [h.1, inn_grd U S n x (by omega) (HOK.out x hx) HW.out], h.2⟩))).mono ?_
  rintro e W1 ⟨⟨S, hS, hL, rfl⟩, hb⟩
  have HS : Hid S.OK := hS
  have HL : Hid (M.Least n (M.grdF (RU U) n) S.has) := hL
  have b1 := cell_on b0 hb
  have B1 : Hid (Below w.heap.size w W1) := bel_tr B0.out hb
  have l1 : w.heap.size < W1.heap.size := lt_of_cell b1
  clear hS hL hb b0
  unfold nsv
  go_wp2
  rw [show (Obj.cells #[.int .u64 S.a, .int .u64 S.b, .int .u64 S.c, .int .u64 S.d] 85) = nsc S from rfl]
  have A4 : Hid (At (W1.alloc (nsc S)) W1.heap.size S) := At.new W1 S
  have b4 : (W1.alloc (nsc S)).cell? ⟨w.heap.size, 0, none⟩ = some (.slice (some ⟨ub, uo, none⟩) n uc) := cellOn _ b1
  have B4 : Hid (Below w.heap.size w (W1.alloc (nsc S))) := bel_tr B1.out (bel1 W1 _)
  generalize W1.alloc (nsc S) = W4 at *
  obtain ⟨sb, hsb⟩ : ∃ x, W1.heap.size = x := ⟨_, rfl⟩
  rw [hsb] at A4
  rw [hsb]
  clear hsb b1 B1 l1 B0
  go_loopw [10] (fun iv wr => lrI w W4 n (fun p => M.Pk (RU U) n p p) iv wr) (fun iv _ => n - (intOf iv).toNat)
  case atStart => exact ⟨0, Nat.zero_le _, rfl, fun q hq => absurd hq (Nat.not_lt_zero _), Below.refl _ _⟩
  case round =>
    obtain ⟨k, hk, rfl, hno, hbel⟩ := hrel
    have HNO : Hid (∀ q, q < k → ¬ M.Pk (RU U) n q q) := hno
    have HBE : Hid (Below W4.heap.size W4 wr) := hbel
    have HBW : Hid (Below w.heap.size w wr) := bel_tr B4.out hbel
    have AS : Hid (At wr sb S) := A4.out.later hbel
    have bk := cell_on b4 hbel
    obtain ⟨m0, m1, m2, m3⟩ := AS.out.cells
    have ls := AS.out.lt
    clear hno hbel
    by_cases hlt : k < n
    · by_cases hg : S.has k = true
      · have HG : Hid (S.has k = true) := hg
        go_wp2_with (go_at_call 63; refine (has_ag S k _ HS.out (by omega)).mono ?_; rintro e W ⟨rfl, hb⟩; have B6 : Hid (Below wr.heap.size wr W) := hb; clear hb)
        go_roundw
        case rel => exact ⟨k + 1, by omega, by go_num, fun q hq h => if e : q = k then (by subst e; have h9 := ((M.back_iff HW.out HL.out hlt).2 h).1; rw [HG.out] at h9; cases h9) else HNO.out q (by omega) h, bel_tr HBE.out B6.out⟩
        case measure => simp [intOf]; omega
      · have hg2 : S.has k = false := by simpa using hg
        clear hg
        go_wp2_with fail
        refine (has_ag S k _ HS.out (by omega)).mono ?_
        rintro e W ⟨rfl, hb⟩
        have B6 : Hid (Below wr.heap.size wr W) := hb
        have bk6 := cell_on bk hb
        clear hb
        go_wp2_with fail
        refine (comesBack_any ub uo n uc k U _ ((HU.out.later HBW.out).later B6.out) HOK.out hn hlt HW.out).mono ?_
        rintro e W7 ⟨⟨r, rfl, hr⟩, hb⟩
        have B7 : Hid (Below wr.heap.size wr W7) := bel_tr B6.out hb
        have HRR : Hid (r = true ↔ M.Pk (RU U) n k k) := hr
        clear hb hr
        cases r with
        | false =>
          go_wp2
          go_roundw
          case rel => exact ⟨k + 1, by omega, by go_num, fun q hq h => if e : q = k then (by subst e; have h9 := HRR.out.2 h; cases h9) else HNO.out q (by omega) h, bel_tr HBE.out B7.out⟩
          case measure => simp [intOf]; omega
        | true =>
          go_wp2
          go_ret
          exact ⟨.inl ⟨k, hlt, HRR.out.1 (by trivial), HNO.out, rfl⟩, bel_tr HBW.out B7.out⟩
    · obtain rfl : k = n := by omega
      go_wp2
      go_ret
      exact ⟨.inr ⟨HNO.out, rfl⟩, HBW.out⟩

end Go.Proofs.Ytjpcojabdjldbaa
