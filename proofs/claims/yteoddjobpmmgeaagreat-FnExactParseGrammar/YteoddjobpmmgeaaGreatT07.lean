import Derived.Test.YteoddjobpmmgeaaGreatT06
import Derived.Test.YteoddjobpmmgeaaGreatT03
import Derived.Deep.Cut
import Derived.Deep.CutRange
set_option linter.unusedVariables false
set_option linter.unusedSimpArgs false
namespace Go.Proofs.YteoddjobpmmgeaaGreat
section
open Go.RowKit
open M (OpD NodeD Gr)
def rngM (m : Nat → Bool) (lo k : Nat) : Nat → Bool := fun b => m b || (decide (lo ≤ b) && decide (b < k))
theorem rngM_nil (m : Nat → Bool) (lo : Nat) : rngM m lo lo = m := by
  funext b
  unfold rngM
  by_cases h : lo ≤ b
  · simp [h, Nat.not_lt.2 h]
  · simp [h]
def clsF (t : Tx) : Nat → Nat → (Nat → Bool) → Option ((Nat → Bool) × Nat)
  | 0, _, _ => none
  | f + 1, j, m =>
    if j < t.n ∧ t.T j = 93 then some (m, j)
    else if (chr t j true).2 = 0 then none
    else if j + (chr t j true).2 < t.n ∧ t.T (j + (chr t j true).2) = 45 then
      (if (chr t (j + (chr t j true).2 + 1) true).2 = 0 ∨ (chr t (j + (chr t j true).2 + 1) true).1 < (chr t j true).1 then none
       else clsF t f (j + (chr t j true).2 + 1 + (chr t (j + (chr t j true).2 + 1) true).2) (rngM m (chr t j true).1.toNat ((chr t (j + (chr t j true).2 + 1) true).1.toNat + 1)))
    else clsF t f (j + (chr t j true).2) (rngM m (chr t j true).1.toNat ((chr t j true).1.toNat + 1))
def negC (t : Tx) (i : Nat) : Bool := decide (i + 1 < t.n ∧ t.T (i + 1) = 94)
def begC (t : Tx) (i : Nat) : Nat := if negC t i = true then i + 2 else i + 1
def clsR (neg : Bool) : Option ((Nat → Bool) × Nat) → Option (List Int × Nat)
  | none => none
  | some (m, j) => some (rg (fun b => m b != neg) 256, j + 1)
def clsT (t : Tx) (i : Nat) : Option (List Int × Nat) := clsR (negC t i) (clsF t (t.n + 2 - i) (begC t i) (fun _ => false))
theorem TxA.later {Q : Nat → Prop} {t : Tx} {a : Option Addr} {w w' : World} (h : TxA Q w a t) (k : Below w.heap.size w w') : TxA Q w' a t := Ints.later h k
theorem intsV_eq (l : List Int) : intsV l = intVs .i64 (lf l) l.length := by
  apply List.ext_getElem?
  intro i
  unfold intsV intVs lf
  by_cases h : i < l.length
  · simp [h]
  · simp [h, Nat.not_lt.1 h]
def Mk256 (w : World) (m : Nat → Bool) (wr : World) : Prop := wr.rowIs w.heap.size 4 256 (fun i => .bool (m i)) ∧ Below w.heap.size w wr
theorem Mk256.drewN {w wr : World} {m : Nat → Bool} (h : Mk256 w m wr) (k : Nat) : Mk256 w m (wr.drewN k) := ⟨h.1.of_block rfl, below_drewN h.2 k⟩
theorem Mk256.set {w wr : World} {m : Nat → Bool} (h : Mk256 w m wr) (i : Nat) (v : Bool) : Mk256 w (fun b => if b = i then v else m b) (wr.setCell ⟨w.heap.size, i, none⟩ (.bool v)) := by
  refine ⟨(h.1.set i (.bool v)).congr fun b _ => ?_, h.2.setCell (Nat.le_refl _) _⟩
  by_cases e : b = i <;> simp [e]
theorem Mk256.eq {w wr : World} {m m' : Nat → Bool} (h : Mk256 w m wr) (e : m = m') : Mk256 w m' wr := e ▸ h
theorem rngM_step (m : Nat → Bool) {lo k : Nat} (h : lo ≤ k) : (fun b => if b = k then true else rngM m lo k b) = rngM m lo (k + 1) := by
  funext b
  unfold rngM
  by_cases e : b = k
  · subst e; simp [h]
  · have : (b < k) = (b < k + 1) := by simp; omega
    simp [e, this]
def negM (m : Nat → Bool) (neg : Bool) (k : Nat) : Nat → Bool := fun b => if b < k then m b != neg else m b
theorem negM_nil (m : Nat → Bool) (neg : Bool) : negM m neg 0 = m := by funext b; simp [negM]
theorem negM_step (m : Nat → Bool) (k : Nat) : (fun b => if b = k then !(negM m true k k) else negM m true k b) = negM m true (k + 1) := by
  funext b
  unfold negM
  by_cases e : b = k
  · subst e; simp
  · have : (b < k) = (b < k + 1) := by simp; omega
    simp [e, this]
theorem cls_fin {w wr : World} {m : Nat → Bool} {neg : Bool} {k : Nat} {L : List Int} (hM : Mk256 w (negM m neg k) wr) (hz : neg = false → k = 0) (hL : rg (fun b => m b != neg) 256 = L) (hx : ¬ k < 256 ∨ neg = false) :
    Calls Tryz.prog 75 #[.slice (some ⟨w.heap.size, 0, none⟩) 256 256] wr (GivesL L wr) := by
  have h := l2ranges_any (some ⟨w.heap.size, 0, none⟩) (fun b => m b != neg) wr ⟨w.heap.size, rfl, fun i hi => by
    have e : negM m neg k i = (m i != neg) := by
      unfold negM
      rcases hx with hx | hx
      · rw [if_pos (by omega)]
      · rw [hz hx, if_neg (by omega), hx]
        simp
    exact (hM.1.cell hi).trans (by rw [e])⟩
  rw [hL] at h
  exact h
theorem cls_end {w wr : World} {m : Nat → Bool} {L : List Int} (hM : Mk256 w m wr) (e : Ending) (W : World) (hg : GivesL L wr e W) : ∃ a2 c2, e = .returned (.slice a2 L.length c2) ∧ Ints (New w W) .i64 W a2 L.length (lf L) ∧ Keep (fun _ => False) w W := by
  obtain ⟨a2, c2, e, P, k1, k2, k3⟩ := hg
  rw [intsV_eq] at k1
  have hsz := hM.2.size
  exact ⟨a2, c2, e, (own_lists k1).wide (fun b hb => ⟨by have := (k2 b hb).1; omega, (k2 b hb).2⟩), Below.kept (hM.2.trans (k3.mono hsz))⟩
set_option maxHeartbeats 400000 in
set_option maxRecDepth 100000 in
theorem l2class_any (Q : Nat → Prop) (t : Tx) (a : Option Addr) (c i : Nat) (w : World) (hT : TxA Q w a t) (hi : i < t.n) :
    Calls Tryz.prog 54 #[.slice a t.n c, .int .i64 i] w (ScanIs .i64 (clsT t i) i w) := by
  have hmk := run_make_row' (P := Tryz.prog) 135 4 (.bool false) 1 Tryz.underlying135 info4 rfl .i64 .i64 256 (by omega) (by omega)
  simp only [show ((256 : Nat) : Int) = 256 from rfl] at hmk
  have hle := t.le
  have HT : Hid (TxA Q w a t) := hT
  have HM0 : Hid (Mk256 w (fun _ => false) (w.alloc (.cells (madeCells #[.bool false] 256) 4))) := ⟨World.rowIs_made w _ 256 4, (Below.refl _ w).alloc (Nat.le_refl _) _⟩
  clear hT
  obtain ⟨neg, hneg⟩ : ∃ r, negC t i = r := ⟨_, rfl⟩
  obtain ⟨j0, hj0⟩ : ∃ r, begC t i = r := ⟨_, rfl⟩
  have HJ : Hid (j0 = if neg = true then i + 2 else i + 1) := by show j0 = _; rw [← hj0, begC, hneg]
  have HN : Hid (neg = decide (i + 1 < t.n ∧ t.T (i + 1) = 94)) := hneg ▸ rfl
  have HJ2 : Hid (i < j0 ∧ j0 ≤ t.n ∧ j0 ≤ i + 2) := by
    have h := HJ.out
    have h' := HN.out
    show i < j0 ∧ _
    by_cases e : neg = true
    · rw [if_pos e] at h
      rw [e] at h'
      have := of_decide_eq_true h'.symm
      omega
    · rw [if_neg e] at h
      omega
  obtain ⟨r, hr⟩ : ∃ r, clsF t (t.n + 2 - i) j0 (fun _ => false) = r := ⟨_, rfl⟩
  have HR : Hid (clsF t (t.n + 2 - i) j0 (fun _ => false) = r) := hr
  have HC : Hid (clsT t i = clsR neg r) := by
    show clsT t i = _
    unfold clsT
    rw [hj0, hneg, hr]
  clear hneg hj0 hr
  rw [HC.out]
  clear HC
  go_enter Tryz.func54, Tryz.ntmps54
  go_upto_region 3 with fail
  clear hmk
  generalize w.alloc (.cells (madeCells #[.bool false] 256) 4) = W1 at *
  go_cut [8] from 16 to 115 (fun v wc => v = .bool neg ∧ W1 = wc)
  case first =>
    by_cases h1 : i + 1 < t.n
    · have h1' : (i : Int) + 1 < t.n := by omega
      obtain ⟨b, off, rfl, _, hcell⟩ := (HT.out.later HM0.out.2).at h1
      have k0 := hcell (i + 1) h1
      have b0 := t.byt (i + 1)
      clear hcell
      go_wp2
      go_meet
      case rel => exact ⟨by rw [HN.out]; congr 1; rw [Bool.eq_iff_iff]; simp [h1], rfl⟩
    · have h1' : ¬ (i : Int) + 1 < t.n := by omega
      go_wp2
      go_meet
      case rel => exact ⟨by rw [HN.out]; simp [h1], rfl⟩
  case rest =>
    obtain ⟨rfl, rfl⟩ := hcut
    go_upto_if 30 with fail
    go_cut [7] from 16 to 115 (fun v wc => v = .int .i64 (j0 : Int) ∧ W1 = wc)
    case first =>
      cases neg with
      | true =>
        go_wp2
        go_meet
        case rel => exact ⟨by rw [HJ.out]; simp; omega, rfl⟩
      | false =>
        go_wp2
        go_meet
        case rel => exact ⟨by rw [HJ.out]; simp, rfl⟩
    case rest =>
      obtain ⟨rfl, rfl⟩ := hcut
      go_wp2
      go_loopw [7] (fun u wr => ∃ (f j : Nat) (m : Nat → Bool), j ≤ t.n ∧ i < j ∧ t.n - j < f ∧ u = .int .i64 j ∧ Mk256 w m wr ∧ clsF t f j m = r) (fun u _ => t.n - (intOf u).toNat)
      case atStart => exact ⟨t.n + 2 - i, j0, fun _ => false, HJ2.out.2.1, HJ2.out.1, by have := HJ2.out; omega, rfl, HM0.out, HR.out⟩
      case round =>
        obtain ⟨f, j, m, hj, hij, hf, rfl, hM, hs⟩ := hrel
        obtain ⟨f, rfl⟩ : ∃ q, f = q + 1 := ⟨f - 1, by omega⟩
        have HM : Hid (Mk256 w m wr) := hM
        have HTR : Hid (TxA Q wr a t) := HT.out.later hM.2
        have HS : Hid (clsF t (f + 1) j m = r) := hs
        clear hM hs HM0 HR HJ HN HJ2
        by_cases hq : j < t.n ∧ t.T j = 93
        · obtain ⟨hq1, hq2⟩ := hq
          obtain ⟨b, off, rfl, _, hcell⟩ := HTR.out.at hq1
          have k0 := hcell j hq1
          rw [hq2] at k0
          have hq1' : (j : Int) < t.n := by omega
          have e := HS.out
          rw [clsF, if_pos ⟨hq1, hq2⟩] at e
          obtain ⟨L, hL⟩ : ∃ L, rg (fun b => m b != neg) 256 = L := ⟨_, rfl⟩
          have HCR : Hid (clsR neg r = some (L, j + 1)) := by show _ = _; rw [← e, clsR, hL]
          have HL : Hid (rg (fun b => m b != neg) 256 = L) := hL
          clear hcell HS e hL
          go_wp2
          go_loopw [15] (fun u w' => ∃ k : Nat, k ≤ 256 ∧ u = .int .i64 k ∧ Mk256 w (negM m neg k) w' ∧ (neg = false → k = 0)) (fun u _ => 256 - (intOf u).toNat)
          case atStart => exact ⟨0, by omega, rfl, HM.out.eq (negM_nil m neg).symm, fun _ => rfl⟩
          case round =>
            obtain ⟨k, hk, rfl, hM, hz⟩ := hrel
            have HM2 : Hid (Mk256 w (negM m neg k) wr) := hM
            have HSZ : Hid (∀ v, Mk256 w (fun b => if b = k then v else negM m neg k b) (wr.setCell ⟨w.heap.size, k, none⟩ (.bool v))) := fun v => hM.set k v
            have HFIN : Hid ((¬ k < 256 ∨ neg = false) → Calls Tryz.prog 75 #[.slice (some ⟨w.heap.size, 0, none⟩) 256 256] wr (GivesL L wr)) := cls_fin hM hz HL.out
            have HEND : Hid (∀ e W, GivesL L wr e W → ∃ a2 c2, e = .returned (.slice a2 L.length c2) ∧ Ints (New w W) .i64 W a2 L.length (lf L) ∧ Keep (fun _ => False) w W) := cls_end hM
            cases neg with
            | true =>
              by_cases hlt : k < 256
              · have hlt' : (k : Int) < 256 := by omega
                have c2 := hM.1.cell hlt
                have f2 := hM.1.frozen k
                have HST : Hid (Mk256 w (negM m true (k + 1)) (wr.setCell ⟨w.heap.size, k, none⟩ (.bool (!(negM m true k k))))) := (HSZ.out _).eq (negM_step m k)
                clear hM hz HSZ HFIN HEND
                generalize negM m true k k = bv at *
                go_wp2
                go_roundw
                case rel => exact ⟨k + 1, by omega, by go_num, HST.out, fun q => Bool.noConfusion q⟩
                case measure => simp [intOf]; omega
              · have hlt' : ¬ (k : Int) < 256 := by omega
                clear hM hz HSZ
                go_wp2_with fail
                refine (HFIN.out (.inl hlt)).mono ?_
                intro e W hg
                obtain ⟨a2, c2, rfl, hI, hK⟩ := HEND.out e W hg
                clear hg
                have HI : Hid (Ints (New w W) .i64 W a2 L.length (lf L)) := hI
                have HK : Hid (Keep (fun _ => False) w W) := hK
                clear hI hK
                go_wp2
                go_ret2
                rw [HCR.out]
                exact ⟨HK.out, a2, c2, by congr 3, HI.out⟩
            | false =>
              obtain rfl := hz rfl
              clear hM hz HSZ
              go_wp2_with fail
              refine (HFIN.out (by simp)).mono ?_
              intro e W hg
              obtain ⟨a2, c2, rfl, hI, hK⟩ := HEND.out e W hg
              clear hg
              have HI : Hid (Ints (New w W) .i64 W a2 L.length (lf L)) := hI
              have HK : Hid (Keep (fun _ => False) w W) := hK
              clear hI hK
              go_wp2
              go_ret2
              rw [HCR.out]
              exact ⟨HK.out, a2, c2, by congr 3, HI.out⟩
        · have HQ : Hid (¬ (j < t.n ∧ t.T j = 93)) := hq
          obtain ⟨x1, x2, x3⟩ := chr_rng t j true hj
          have HC : Hid (∀ w, TxA Q w a t → Calls Tryz.prog 74 #[.slice a t.n c, .int .i64 j, .bool true] w (RetII (chr t j true).1 ((chr t j true).2 : Nat) w)) := fun w h => l2char_any Q t a c j true w h hj
          have HS2 : Hid ((if (chr t j true).2 = 0 then none
            else if j + (chr t j true).2 < t.n ∧ t.T (j + (chr t j true).2) = 45 then
              (if (chr t (j + (chr t j true).2 + 1) true).2 = 0 ∨ (chr t (j + (chr t j true).2 + 1) true).1 < (chr t j true).1 then none
               else clsF t f (j + (chr t j true).2 + 1 + (chr t (j + (chr t j true).2 + 1) true).2) (rngM m (chr t j true).1.toNat ((chr t (j + (chr t j true).2 + 1) true).1.toNat + 1)))
            else clsF t f (j + (chr t j true).2) (rngM m (chr t j true).1.toNat ((chr t j true).1.toNat + 1))) = r) := by
            have := HS.out
            rw [clsF, if_neg hq] at this
            exact this
          clear HS hq
          generalize chr t j true = p at *
          obtain ⟨pb, pn⟩ := p
          simp only at x1 x2 x3 HC HS2
          obtain ⟨lo, rfl⟩ : ∃ q : Nat, pb = (q : Int) := ⟨pb.toNat, by omega⟩
          by_cases hp : pn = 0
          · subst hp
            have e := HS2.out
            rw [if_pos rfl] at e
            subst e
            by_cases hjn : j < t.n
            · have hjn' : (j : Int) < t.n := by omega
              obtain ⟨b, off, rfl, _, hcell⟩ := HTR.out.at hjn
              have k0 := hcell j hjn
              have y1 : (t.T j == 93) = false := by simpa using fun q => HQ.out ⟨hjn, q⟩
              have b0 := t.byt j
              clear hcell
              go_wp2_with fail
              refine (HC.out wr HTR.out).mono ?_
              rintro e W ⟨rfl, mm, rfl⟩
              go_wp2
              go_ret2
              exact ⟨Below.kept (HM.out.drewN mm).2, rfl⟩
            · have hjn' : ¬ (j : Int) < t.n := by omega
              go_wp2_with fail
              refine (HC.out wr HTR.out).mono ?_
              rintro e W ⟨rfl, mm, rfl⟩
              go_wp2
              go_ret2
              exact ⟨Below.kept (HM.out.drewN mm).2, rfl⟩
          · have hp' : ¬ (pn : Int) = 0 := by omega
            have hjn : j < t.n := by omega
            have hjn' : (j : Int) < t.n := by omega
            obtain ⟨b, off, rfl, _, hcell⟩ := HTR.out.at hjn
            have k0 := hcell j hjn
            have y1 : (t.T j == 93) = false := by simpa using fun q => HQ.out ⟨hjn, q⟩
            have b0 := t.byt j
            clear hcell HQ
            go_wp2_with fail
            refine (HC.out wr HTR.out).mono ?_
            rintro e W ⟨rfl, mm, rfl⟩
            go_upto_region 12 with fail
            have HM1 : Hid (Mk256 w m (wr.drewN mm)) := HM.out.drewN mm
            have HT1 : Hid (TxA Q (wr.drewN mm) (some ⟨b, off, none⟩) t) := HTR.out.drew mm
            clear HM HTR HC k0 y1 b0
            generalize wr.drewN mm = W2 at *
            obtain ⟨j1, hj1⟩ : ∃ q, j + pn = q := ⟨_, rfl⟩
            have hj1' : (j : Int) + (pn : Int) = (j1 : Int) := by omega
            have HS3 : Hid ((if j1 < t.n ∧ t.T j1 = 45 then
              (if (chr t (j1 + 1) true).2 = 0 ∨ (chr t (j1 + 1) true).1 < (lo : Int) then none
               else clsF t f (j1 + 1 + (chr t (j1 + 1) true).2) (rngM m lo ((chr t (j1 + 1) true).1.toNat + 1)))
              else clsF t f j1 (rngM m lo (lo + 1))) = r) := by
              have := HS2.out
              rw [if_neg hp, hj1] at this
              simp only [Int.toNat_natCast] at this
              exact this
            clear HS2
            rw [hj1']
            have hjj : j < j1 := by omega
            have hj1n : j1 ≤ t.n := by omega
            clear hj1 hj1' hp hp' x3
            obtain ⟨d, hd⟩ : ∃ d, decide (j1 < t.n ∧ t.T j1 = 45) = d := ⟨_, rfl⟩
            have HD : Hid (decide (j1 < t.n ∧ t.T j1 = 45) = d) := hd
            clear hd
            go_cut [66] from 33 to 94 (fun v wc => v = .bool d ∧ W2 = wc)
            case first =>
              by_cases h1 : j1 < t.n
              · have h1' : (j1 : Int) < t.n := by omega
                obtain ⟨b', off', e, _, hcell⟩ := HT1.out.at h1
                cases e
                have k0 := hcell j1 h1
                have b0 := t.byt j1
                clear hcell
                go_wp2
                go_meet
                case rel => exact ⟨by rw [← HD.out]; congr 1; rw [Bool.eq_iff_iff]; simp [h1], rfl⟩
              · have h1' : ¬ (j1 : Int) < t.n := by omega
                go_wp2
                go_meet
                case rel => exact ⟨by rw [← HD.out]; simp [h1], rfl⟩
            case rest =>
              obtain ⟨rfl, rfl⟩ := hcut
              go_upto_if 66 with fail
              go_cut [7, 11] from 33 to 94 (fun v7 v11 wc => ∃ (j2 hi' : Nat), v7 = .int .i64 (j2 : Int) ∧ v11 = .int .i64 (hi' : Int) ∧ Mk256 w m wc ∧ j1 ≤ j2 ∧ j2 ≤ t.n ∧ lo ≤ hi' ∧ hi' ≤ 255 ∧ clsF t f j2 (rngM m lo (hi' + 1)) = r)
              case first =>
                cases d with
                | false =>
                  have e := HS3.out
                  rw [if_neg (of_decide_eq_false HD.out)] at e
                  have HE : Hid (clsF t f j1 (rngM m lo (lo + 1)) = r) := e
                  clear e HS3 HD
                  go_wp2
                  go_meet
                  case rel => exact ⟨j1, lo, rfl, rfl, HM1.out, Nat.le_refl _, hj1n, Nat.le_refl _, by omega, HE.out⟩
                | true =>
                  have hdd := of_decide_eq_true HD.out
                  have hj1l := hdd.1
                  have e := HS3.out
                  rw [if_pos hdd] at e
                  have HE : Hid ((if (chr t (j1 + 1) true).2 = 0 ∨ (chr t (j1 + 1) true).1 < (lo : Int) then none else clsF t f (j1 + 1 + (chr t (j1 + 1) true).2) (rngM m lo ((chr t (j1 + 1) true).1.toNat + 1))) = r) := e
                  clear e HS3 HD hdd
                  obtain ⟨z1, z2, z3⟩ := chr_rng t (j1 + 1) true (by omega)
                  have HC : Hid (∀ w, TxA Q w (some ⟨b, off, none⟩) t → Calls Tryz.prog 74 #[.slice (some ⟨b, off, none⟩) t.n c, .int .i64 ((j1 : Int) + 1), .bool true] w (RetII (chr t (j1 + 1) true).1 ((chr t (j1 + 1) true).2 : Nat) w)) := fun w h => by
                    have := l2char_any Q t (some ⟨b, off, none⟩) c (j1 + 1) true w h (by omega)
                    rwa [show (((j1 + 1 : Nat) : Int)) = (j1 : Int) + 1 by omega] at this
                  generalize chr t (j1 + 1) true = p at *
                  obtain ⟨qb, qn⟩ := p
                  simp only at z1 z2 z3 HC HE
                  obtain ⟨hi', rfl⟩ : ∃ q : Nat, qb = (q : Int) := ⟨qb.toNat, by omega⟩
                  go_wp2_with fail
                  refine (HC.out _ HT1.out).mono ?_
                  rintro e W ⟨rfl, m2, rfl⟩
                  have HM2 : Hid (Mk256 w m (W2.drewN m2)) := HM1.out.drewN m2
                  clear HM1 HT1 HC
                  generalize W2.drewN m2 = W3 at *
                  by_cases hqn : qn = 0
                  · subst hqn
                    have e := HE.out
                    rw [if_pos (.inl rfl)] at e
                    subst e
                    go_wp2
                    go_ret2
                    exact ⟨Below.kept HM2.out.2, rfl⟩
                  have hqn' : ¬ (qn : Int) = 0 := by omega
                  by_cases hlt : (hi' : Int) < lo
                  · have e := HE.out
                    rw [if_pos (.inr hlt)] at e
                    subst e
                    go_wp2
                    go_ret2
                    exact ⟨Below.kept HM2.out.2, rfl⟩
                  · have e := HE.out
                    rw [if_neg (fun q => q.elim hqn hlt), Int.toNat_natCast] at e
                    have HE2 : Hid (clsF t f (j1 + 1 + qn) (rngM m lo (hi' + 1)) = r) := e
                    clear e HE
                    have y1 : ((qn : Int) == 0) = false := by simpa using hqn
                    have y2 : decide ((hi' : Int) < (lo : Int)) = false := by simpa using hlt
                    have y3 : (lo : Int) ≤ hi' := by omega
                    go_wp2
                    go_meet
                    case rel => exact ⟨j1 + 1 + qn, hi', by congr 1; omega, rfl, HM2.out, by omega, z3, by omega, by omega, HE2.out⟩
              case rest =>
                obtain ⟨j2, hi', rfl, rfl, hM2, g1, g2, g3, g4, g5⟩ := hcut
                have HM2 : Hid (Mk256 w m wc) := hM2
                have HG : Hid (clsF t f j2 (rngM m lo (hi' + 1)) = r) := g5
                clear hM2 g5 HM1 HT1 HS3 HD
                go_wp2
                go_loopw [14] (fun u w' => ∃ k : Nat, lo ≤ k ∧ k ≤ hi' + 1 ∧ u = .int .i64 k ∧ Mk256 w (rngM m lo k) w') (fun u _ => 256 - (intOf u).toNat)
                case atStart => exact ⟨lo, Nat.le_refl _, by omega, rfl, HM2.out.eq (rngM_nil m lo).symm⟩
                case round =>
                  obtain ⟨k, hk1, hk2, rfl, hM3⟩ := hrel
                  by_cases hlt : k ≤ hi'
                  · have hlt' : (k : Int) ≤ hi' := by omega
                    have hk256 : k < 256 := by omega
                    have hk256' : (k : Int) < 256 := by omega
                    have c2 := hM3.1.cell hk256
                    have f2 := hM3.1.frozen k
                    have HST : Hid (Mk256 w (rngM m lo (k + 1)) (wr.setCell ⟨w.heap.size, k, none⟩ (.bool true))) := (hM3.set k true).eq (rngM_step m hk1)
                    clear hM3
                    generalize rngM m lo k k = bv at *
                    go_wp2
                    go_roundw
                    case rel => exact ⟨k + 1, by omega, by omega, by go_num, HST.out⟩
                    case measure => simp [intOf]; omega
                  · have hlt' : ¬ (k : Int) ≤ hi' := by omega
                    obtain rfl : k = hi' + 1 := by omega
                    have HM3 : Hid (Mk256 w (rngM m lo (hi' + 1)) wr) := hM3
                    clear hM3
                    go_wp2
                    go_roundw
                    case rel => exact ⟨f, j2, _, g2, by omega, by omega, rfl, HM3.out, HG.out⟩
                    case measure => simp [intOf]; omega
end
end Go.Proofs.YteoddjobpmmgeaaGreat
