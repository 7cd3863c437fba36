/-
  Walks: the program's growTree and BuildTree.
-/
import Derived.Test.YtcmcbemcfjbchabTBld
namespace Go.Proofs.Ytcmcbemcfjbchab
open Go.RowKit
set_option linter.unusedVariables false
set_option linter.unusedSimpArgs false

def GrowIs (E : Nat → EvD) (n : Nat) (w : World) (e : Ending) (w' : World) : Prop :=
  Below w.heap.size w w' ∧ ((Whole E n ∧ ∃ ta tc, e = .returned (.tuple #[.slice ta (num E n) tc, .nilIface]) ∧ OwnC (New w w') w' (.slice ta (num E n) tc) 5 (num E n) (rowS E n n)) ∨ (¬ Whole E n ∧ ∃ t v, e = .returned (.tuple #[.slice none 0 0, .iface t v])))
def lea (E : Nat → EvD) (k : Nat) : Int := if k = 0 then 0 else (E (k - 1)).pos
def grI (w : World) (n : Nat) (E : Nat → EvD) (tv mv lv iv : Value) (wr : World) : Prop :=
  ∃ k : Nat, k ≤ n ∧ iv = .int .i64 (k : Int) ∧ mv = .int .i64 (las E k (opn E k)) ∧ lv = .int .i64 (lea E k) ∧ Pre E k ∧ OwnR w.heap.size w wr tv (num E k) (rowI E k)
/-- One cell of the row is stored. -/
theorem OwnR.put {lo : Nat} {w0 w : World} {g m cap : Nat} {cs : List Value} (h : OwnR lo w0 w (.slice (some ⟨g, 0, none⟩) m cap) m cs) (j : Nat) (v : Value) (hj : j < cs.length) : OwnR lo w0 (w.setCell ⟨g, j, none⟩ v) (.slice (some ⟨g, 0, none⟩) m cap) m (cs.set j v) := by
  obtain ⟨P, ho, hp, q1, q2, hb⟩ := h
  rcases ho with ⟨e, _, _⟩ | ⟨g', cap', e, hq, h3, h4, h5, h6⟩
  · cases e
  · obtain ⟨rfl, rfl⟩ : g = g' ∧ cap = cap' := by injection e with e1 e2 e3; injection e1 with e1; injection e1 with e1; exact ⟨e1, e3⟩
    have hg := hp g hq
    refine ⟨P, .inr ⟨g, cap, rfl, hq, by rw [List.length_set]; exact h3, h4, fun i hi => ?_, fun i hi => ⟨?_, ?_⟩⟩, fun b q => by rw [size_set]; exact hp b q, q1, by rw [size_set]; exact q2, bel_set hb _ _ _ (by omega)⟩
    · rw [List.length_set] at hi
      by_cases ei : i = j
      · subst ei
        rw [List.getElem?_set_self hi]
        exact cell_set_same (h5 i hi ▸ List.getElem?_eq_getElem hi)
      · rw [cell_set_other (fun e => ei e.symm), h5 i hi, List.getElem?_set_ne (fun e => ei e.symm)]
    · by_cases ei : i = j
      · subst ei
        obtain ⟨u, hu⟩ := Option.isSome_iff_exists.1 (h6 i hi).1
        rw [cell_set_same hu]; rfl
      · rw [cell_set_other (fun e => ei e.symm)]; exact (h6 i hi).1
    · rw [World.frozen?_setCell]; exact (h6 i hi).2
/-- The node that is innermost: its cells. -/
theorem inner_cells {w0 w : World} {lo : Nat} {E : Nat → EvD} {k q : Nat} {a : Option Addr} {c : Nat} (h : OwnR lo w0 w (.slice a (num E k) c) (num E k) (rowI E k)) (hp : Pre E k) (ho : 1 ≤ opn E k) (hq : las E k (opn E k) = (q : Int)) :
    ∃ g, a = some ⟨g, 0, none⟩ ∧ lo ≤ g ∧ g < w.heap.size ∧ q < num E k ∧ (∃ u, w.cell? ⟨g, q * 5 + 3, none⟩ = some u) ∧ w.frozen? ⟨g, q * 5 + 3, none⟩ = false ∧ w.cell? ⟨g, q * 5 + 4, none⟩ = some (.int .i64 (las E k (opn E k - 1))) := by
  have L := las_ok hp
  obtain ⟨j, j1, j2, j3, j4, j5⟩ := L.chain (opn E k) ho (Int.le_refl _)
  have hqn : q = num E j := by rw [j3] at hq; omega
  have hlt : q < num E k := by rw [hqn]; exact num_lt E j2 j1
  obtain ⟨P, ho1, hp1, q1, q2, hb⟩ := h
  rcases ho1 with ⟨_, e, _⟩ | ⟨g, cap, e, hQ, h3, h4, h5, h6⟩
  · omega
  · obtain rfl : a = some ⟨g, 0, none⟩ := by injection e
    obtain ⟨u, hu⟩ := Option.isSome_iff_exists.1 (h6 (q * 5 + 3) (by omega)).1
    refine ⟨g, rfl, (hp1 g hQ).1, (hp1 g hQ).2, hlt, ⟨u, hu⟩, (h6 (q * 5 + 3) (by omega)).2, ?_⟩
    have hx := ops_at E j2 j1
    rw [← hqn] at hx
    rw [h5 (q * 5 + 4) (by rw [rowI_len]; omega)]
    unfold rowI
    rw [flat_get (fun j => ndv (ndI E k j)) _ q 4 j (fun _ _ => ndv_len _) hx (by omega), ← j4]
    rfl
theorem grow_bad {E : Nat → EvD} {k : Nat} {ps : Int} (hS : (E k).pos = ps) (h : ps < lea E k) : ¬ EvOK E k := fun q => by
  unfold lea at h
  by_cases e : k = 0
  · rw [if_pos e] at h; have := q.pos; omega
  · rw [if_neg e] at h; have := q.asc (by omega); omega
theorem lea_ge {E : Nat → EvD} {k : Nat} (h : Pre E k) : 0 ≤ lea E k := by
  unfold lea
  by_cases e : k = 0
  · rw [if_pos e]; exact Int.le_refl _
  · rw [if_neg e]; exact (h (k - 1) (by omega)).pos
theorem nodeB {ops : Array Oper} {rest : List Oper} {o : Oper} {a : Act} {w : World} {P' : Exit → Act → World → Prop} (hgd : o.guard = none) (s x : Operand) (ho : o.op = .call { callee := .builtin .append, args := #[s, x], argTypes := #[68, 68] })
    {lo : Nat} {w0 w1 : World} {v y : Value} {m : Nat} {cs : List Value} {d : NdD} (hs : a.eval s = v) (hx : a.eval x = y) (hy : y = .slice (some ⟨w1.heap.size, 0, none⟩) 1 1) (hw : w = w1.alloc (ndO d)) (h : OwnR lo w0 w1 v m cs) (hl : m ≤ 4194304)
    (k : ∀ w' a' c', Hid (OwnR lo w0 w' (.slice a' (m + 1) c') (m + 1) (cs ++ ndv d)) → wpList Try.prog ops P' rest (a.put o.dst (.slice a' (m + 1) c')) w') : wpList Try.prog ops P' (o :: rest) a w := by
  subst hw hy
  exact nodeA hgd s x ho hs hx h hl (fun w' a' c' h1 _ => k w' a' c' h1)

set_option maxRecDepth 100000 in
set_option maxHeartbeats 8000000 in
theorem grow_any (Q : Nat → Prop) (a : Option Addr) (n c : Nat) (E : Nat → EvD) (w : World) (hE : EvA Q w a n E) (hn : n ≤ 1048576) :
    Calls Try.prog 115 #[.slice a n c] w (GrowIs E n w) := by
  have HE : Hid (EvA Q w a n E) := hE
  clear hE
  go_enter Try.func115, Try.ntmps115
  go_wp2
  go_loopw [4, 5, 6, 11] (fun tv mv lv iv wr => grI w n E tv mv lv iv wr) (fun tv mv lv iv _ => n - (intOf iv).toNat)
  case atStart => exact ⟨0, Nat.zero_le _, rfl, rfl, rfl, fun j hj => absurd hj (Nat.not_lt_zero _), fun _ => False, .inl ⟨rfl, rfl, rfl⟩, fun b q => q.elim, Nat.le_refl _, Nat.le_refl _, Below.refl _ _⟩
  case round =>
    obtain ⟨k, hk, rfl, rfl, rfl, hpre, hR⟩ := hrel
    obtain ⟨oa, oc, rfl⟩ := hR.shape
    have hbel := hR.bel
    have hsz := hbel.size
    obtain ⟨m, hm⟩ : ∃ m, num E k = m := ⟨_, rfl⟩
    have hmk := num_le E k
    have o1 := opn_le E k
    have o2 := opn_ge hpre
    have hl0 := lea_ge hpre
    obtain ⟨mi, hmi⟩ : ∃ mi, las E k (opn E k) = mi := ⟨_, rfl⟩
    obtain ⟨ls, hls⟩ : ∃ ls, lea E k = ls := ⟨_, rfl⟩
    have HM : Hid (num E k = m) := hm
    have HMI : Hid (las E k (opn E k) = mi) := hmi
    have HLS : Hid (lea E k = ls) := hls
    have HP : Hid (Pre E k) := hpre
    have HR : Hid (OwnR w.heap.size w wr (.slice oa (num E k) oc) (num E k) (rowI E k)) := hR
    have HB : Hid (Below w.heap.size w wr) := hbel
    have hmin : mi < (m : Int) := by have := (las_ok hpre).lt (opn E k) o2 (Int.le_refl _); rw [hmi, hm] at this; exact this
    have hmi0 : -1 ≤ mi := by
      by_cases e : opn E k = 0
      · have := (las_ok hpre).zero; rw [e, this] at hmi; omega
      · have := (las_ok hpre).ge (opn E k) (by omega) (Int.le_refl _); omega
    rw [hm] at hmk ⊢
    rw [hmi]
    rw [hls] at hl0 ⊢
    clear hR hm hmi hls hpre
    by_cases hlt : k < n
    · have hE := HE.out.later hbel
      rcases hE with h0 | ⟨b, off, rfl, hq, hE⟩
      · omega
      obtain ⟨c0, c1, c2⟩ := hE k hlt
      obtain ⟨kd, hkd⟩ : ∃ kd, (E k).kind = kd := ⟨_, rfl⟩
      obtain ⟨ag, hag⟩ : ∃ ag, (E k).arg = ag := ⟨_, rfl⟩
      obtain ⟨ps, hps⟩ : ∃ ps, (E k).pos = ps := ⟨_, rfl⟩
      have HK : Hid ((E k).kind = kd) := hkd
      have HA : Hid ((E k).arg = ag) := hag
      have HS : Hid ((E k).pos = ps) := hps
      rw [hkd] at c0
      rw [hag] at c1
      rw [hps] at c2
      have lb := lt_of_cell c0
      have hlt' : (k : Int) < (n : Int) := by omega
      have HBAD : Hid (¬ EvOK E k → ¬ Whole E n) := fun h hw => h (hw.1 k hlt)
      have HLN : Hid (lea E (k + 1) = ps) := by show _ = _; unfold lea; rw [if_neg (by omega)]; exact hps
      clear hkd hag hps hE hbel
      by_cases q1 : ps < ls
      · have HNO : Hid (¬ Whole E n) := HBAD.out (grow_bad HS.out (HLS.out ▸ q1))
        go_wp2
        refine bodyPost_ret (by simp [results, Try.f115, go_sem]; rfl) rfl ?_
        exact ⟨bel_tr HB.out (bel1 wr _), .inr ⟨HNO.out, _, _, rfl⟩⟩
      have HQ1 : Hid (¬ ps < ls) := q1
      have HOK : Hid (0 ≤ kd → kd ≤ 2 → 0 ≤ opn E (k + 1) → EvOK E k) := fun h1 h2 h3 => by
        have hx : ¬ ps < lea E k := by rw [HLS.out]; exact HQ1.out
        refine ⟨by rw [HK.out]; exact h1, by rw [HK.out]; exact h2, by rw [HS.out]; have := lea_ge HP.out; omega, fun h => ?_, h3⟩
        unfold lea at hx
        rw [if_neg (by omega)] at hx
        rw [HS.out]; omega
      have opens : ∀ (hkd : kd = 0 ∨ kd = 1), cls E k = false ∧ Pre E (k + 1) ∧ num E (k + 1) = m + 1 ∧ las E (k + 1) (opn E (k + 1)) = (m : Int) ∧ rowI E (k + 1) = rowI E k ++ ndv ⟨kd, ag, ps, 0, mi⟩ := fun hkd => by
        have hc : cls E k = false := by unfold cls; rw [HK.out]; rcases hkd with rfl | rfl <;> rfl
        refine ⟨hc, pre_snoc HP.out (HOK.out (by omega) (by omega) (by rw [opn_open hc]; omega)), by rw [num_open E hc, HM.out], ?_, ?_⟩
        · rw [las_open hc, opn_open hc, if_pos rfl, HM.out]
        · rw [rowI_open HP.out hc, HK.out, HA.out, HS.out, HMI.out]
      have HOPN : Hid (∀ (hkd : kd = 0 ∨ kd = 1), cls E k = false ∧ Pre E (k + 1) ∧ num E (k + 1) = m + 1 ∧ las E (k + 1) (opn E (k + 1)) = (m : Int) ∧ rowI E (k + 1) = rowI E k ++ ndv ⟨kd, ag, ps, 0, mi⟩) := opens
      have HRM : Hid (OwnR w.heap.size w (wr.alloc (.cells #[.int .i64 kd, .int .i64 ag, .int .i64 ps] 153)) (.slice oa m oc) m (rowI E k)) := by
        have := HR.out.later (bel1 wr (.cells #[.int .i64 kd, .int .i64 ag, .int .i64 ps] 153))
        rw [HM.out] at this
        exact this
      clear opens
      cases hk0 : (kd == 0) with
      | true =>
        have HKD : Hid (kd = 0 ∨ kd = 1) := .inl (by simpa using hk0)
        go_wp2_with (at_builtin; refine nodeB (w1 := wr.alloc (.cells #[.int .i64 kd, .int .i64 ag, .int .i64 ps] 153)) (y := .slice (some ⟨wr.heap.size + 1, 0, none⟩) 1 1) (d := ⟨kd, ag, ps, 0, mi⟩) rfl _ _ rfl rfl rfl (by simp) rfl HRM.out (by omega) ?_; intro W4 a4 c4 G1)
        go_roundw
        case rel =>
          obtain ⟨z1, z2, z3, z4, z5⟩ := HOPN.out HKD.out
          have hst : grI w n E (.slice a4 (m + 1) c4) (.int .i64 (m : Int)) (.int .i64 ps) (.int .i64 ((k : Int) + 1)) W4 := ⟨k + 1, by omega, by go_num, by rw [z4], by rw [HLN.out], z2, by rw [z3, z5]; exact G1.out⟩
          first | exact hst | ((repeat apply Exists.intro); exact ⟨hst, rfl⟩)
        case measure => first | (simp [intOf]; done) | (simp [intOf]; omega)
      | false =>
        cases hk1 : (kd == 1) with
        | true =>
          have HKD : Hid (kd = 0 ∨ kd = 1) := .inr (by simpa using hk1)
          go_wp2_with (at_builtin; refine nodeB (w1 := wr.alloc (.cells #[.int .i64 kd, .int .i64 ag, .int .i64 ps] 153)) (y := .slice (some ⟨wr.heap.size + 1, 0, none⟩) 1 1) (d := ⟨kd, ag, ps, 0, mi⟩) rfl _ _ rfl rfl rfl (by simp) rfl HRM.out (by omega) ?_; intro W4 a4 c4 G1)
          go_roundw
          case rel =>
            obtain ⟨z1, z2, z3, z4, z5⟩ := HOPN.out HKD.out
            have hst : grI w n E (.slice a4 (m + 1) c4) (.int .i64 (m : Int)) (.int .i64 ps) (.int .i64 ((k : Int) + 1)) W4 := ⟨k + 1, by omega, by go_num, by rw [z4], by rw [HLN.out], z2, by rw [z3, z5]; exact G1.out⟩
            first | exact hst | ((repeat apply Exists.intro); exact ⟨hst, rfl⟩)
          case measure => first | (simp [intOf]; done) | (simp [intOf]; omega)
        | false =>
          cases hk2 : (kd == 2) with
          | true =>
            have hcl : cls E k = true := by unfold cls; rw [HK.out]; exact hk2
            have hk2' : kd = 2 := by simpa using hk2
            by_cases q2 : 0 ≤ mi
            · obtain ⟨q, rfl⟩ : ∃ q : Nat, mi = (q : Int) := ⟨mi.toNat, by omega⟩
              have ho : 1 ≤ opn E k := by
                by_cases e : opn E k = 0
                · have h1 := HMI.out; rw [e, (las_ok HP.out).zero] at h1; omega
                · omega
              obtain ⟨g, rfl, g1, g2, g3, ⟨u, g4⟩, g5, g6⟩ := inner_cells HR.out HP.out ho HMI.out
              rw [HM.out] at g3
              have hin : las E (k + 1) (opn E (k + 1)) = las E k (opn E k - 1) := by rw [las_close hcl, opn_close hcl]
              obtain ⟨pr, hpr⟩ : ∃ pr, las E k (opn E k - 1) = pr := ⟨_, rfl⟩
              rw [hpr] at g6 hin
              have HST : Hid (grI w n E (.slice (some ⟨g, 0, none⟩) m oc) (.int .i64 pr) (.int .i64 ps) (.int .i64 ((k : Int) + 1)) ((wr.setCell ⟨g, q * 5 + 3, none⟩ (.int .i64 ps)).alloc (.cells #[.int .i64 kd, .int .i64 ag, .int .i64 ps] 153))) := by
                refine ⟨k + 1, by omega, by go_num, by rw [hin], by rw [HLN.out], pre_snoc HP.out (HOK.out (by omega) (by omega) (by rw [opn_close hcl]; omega)), ?_⟩
                rw [num_close hcl, HM.out, rowI_close hcl HMI.out (by rw [HM.out]; exact g3), HS.out]
                have hr := HR.out
                rw [HM.out] at hr
                exact (hr.put (q * 5 + 3) _ (by rw [rowI_len, HM.out]; omega)).later (bel1 _ _)
              have hqm : (q : Int) < (m : Int) := by omega
              have hq0 : (0 : Int) ≤ (q : Int) := by omega
              clear hcl hk2' ho hin hpr
              go_wp2
              go_roundw
              case rel => first | exact HST.out | ((repeat apply Exists.intro); exact ⟨HST.out, rfl⟩)
              case measure => first | (simp [intOf]; done) | (simp [intOf]; omega)
            · have HNO : Hid (¬ Whole E n) := HBAD.out (fun h => by
                have h1 := h.room
                rw [opn_close hcl] at h1
                have := (las_ok HP.out).ge (opn E k) (by omega) (Int.le_refl _)
                rw [HMI.out] at this
                exact q2 this)
              have d2 : decide (0 ≤ mi) = false := by simpa using q2
              clear hcl hk2'
              go_wp2
              refine bodyPost_ret (by simp [results, Try.f115, go_sem]; rfl) rfl ?_
              exact ⟨bel_tr HB.out (bel1 wr _), .inr ⟨HNO.out, _, _, rfl⟩⟩
          | false =>
            have HNO : Hid (¬ Whole E n) := HBAD.out (fun h => by
              have h1 := h.lo
              have h2 := h.hi
              rw [HK.out] at h1 h2
              simp at hk0 hk1 hk2
              omega)
            go_wp2
            refine bodyPost_ret (by simp [results, Try.f115, go_sem]; rfl) rfl ?_
            exact ⟨bel_tr HB.out (bel1 wr _), .inr ⟨HNO.out, _, _, rfl⟩⟩
    · obtain rfl : k = n := by omega
      by_cases q2 : 0 ≤ mi
      · have HNO : Hid (¬ Whole E k) := fun h => by
          have h1 := HMI.out
          rw [h.2, (las_ok HP.out).zero] at h1
          omega
        clear hbel
        go_wp2
        refine bodyPost_ret (by simp [results, Try.f115, go_sem]; rfl) rfl ?_
        exact ⟨HB.out, .inr ⟨HNO.out, _, _, rfl⟩⟩
      · have HWH : Hid (Whole E k) := ⟨HP.out, by
          by_cases e : opn E k = 0
          · exact e
          · have := (las_ok HP.out).ge (opn E k) (by omega) (Int.le_refl _)
            rw [HMI.out] at this
            omega⟩
        have d2 : decide (0 ≤ mi) = false := by simpa using q2
        have HN : Hid (GrowIs E k w (.returned (.tuple #[.slice oa m oc, .nilIface])) wr) := by
          refine ⟨HB.out, .inl ⟨HWH.out, oa, oc, by rw [HM.out], ?_⟩⟩
          obtain ⟨P, ho, hp, _, _, hb⟩ := HR.out
          rw [rowI_end HWH.out] at ho
          exact ownC_wide ho hp
        clear hbel
        go_wp2
        refine bodyPost_ret (by simp [results, Try.f115, go_sem]; rfl) rfl ?_
        exact HN.out

set_option maxRecDepth 100000 in
set_option maxHeartbeats 4000000 in
theorem ibuild_any (Q : Nat → Prop) (a : Option Addr) (n c : Nat) (E : Nat → EvD) (w : World) (hE : EvA Q w a n E) (hn : n ≤ 1048576) :
    Calls Try.prog 51 #[.slice a n c] w (TreeIs E n w) := by
  have HE : Hid (EvA Q w a n E) := hE
  clear hE
  go_enter Try.func51, Try.ntmps51
  go_wp2_with fail
  refine (grow_any Q a n c E _ HE.out hn).mono ?_
  rintro e W ⟨hb, ⟨hW, ta, tc, rfl, ho⟩ | ⟨hW, t, v, rfl⟩⟩
  · have HN : Hid (TreeIs E n w (.returned (.tuple #[.slice ta (num E n) tc, .int .i64 0])) W) := ⟨hb, .inl ⟨hW, ta, tc, rfl, ho⟩⟩
    clear hb hW ho
    go_wp2
    refine bodyPost_ret (by simp [results, Try.f51, go_sem]; rfl) rfl ?_
    exact HN.out
  · have HN : Hid (TreeIs E n w (.returned (.tuple #[.slice none 0 0, .int .i64 4])) W) := ⟨hb, .inr ⟨hW, rfl⟩⟩
    clear hb hW
    go_wp2
    refine bodyPost_ret (by simp [results, Try.f51, go_sem]; rfl) rfl ?_
    exact HN.out

end Go.Proofs.Ytcmcbemcfjbchab
