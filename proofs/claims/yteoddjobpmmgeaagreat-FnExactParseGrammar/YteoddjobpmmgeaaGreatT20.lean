import Derived.Test.YteoddjobpmmgeaaGreatT19
set_option linter.unusedVariables false
set_option linter.unusedSimpArgs false
namespace Go.Proofs.YteoddjobpmmgeaaGreat
section
open Go.RowKit
open M (OpD NodeD Gr)
theorem or16F : ∀ h l : Fin 16, bits BinOp.or IntKind.u8 ((h.val : Int) * 16) (l.val : Int) = (h.val : Int) * 16 + l.val := by decide +kernel
theorem or16 {h l : Int} (h0 : 0 ≤ h) (h1 : h ≤ 15) (l0 : 0 ≤ l) (l1 : l ≤ 15) : bits BinOp.or IntKind.u8 (h * 16) l = h * 16 + l := by
  have := or16F ⟨h.toNat, by omega⟩ ⟨l.toNat, by omega⟩
  simp only [show ((h.toNat : Nat) : Int) = h by omega, show ((l.toNat : Nat) : Int) = l by omega] at this
  exact this
def escM (t : Tx) (i : Nat) : Option (Int × Nat) :=
  if i < t.n then
    (if t.T i = 110 then some (10, i + 1) else if t.T i = 116 then some (9, i + 1) else if t.T i = 114 then some (13, i + 1) else if escP (t.T i) then some (t.T i, i + 1)
     else if t.T i = 120 then (match hexM t (i + 1) with | none => none | some (h, j) => match hexM t j with | none => none | some (l, j') => some (h * 16 + l, j'))
     else none)
  else none
theorem insM_some {t : Tx} {i : Nat} {c : Int} {j : Nat} (h : insM t i = some (c, j)) : i < t.n ∧ t.T i = c ∧ j = i + 1 := by
  unfold insM at h
  split at h
  · injection h with h
    injection h with h1 h2
    exact ⟨by assumption, h1, h2.symm⟩
  · cases h
theorem insM_none {t : Tx} {i : Nat} (h : insM t i = none) : ¬ i < t.n := fun q => by unfold insM at h; rw [if_pos q] at h; cases h
theorem hexM_some {t : Tx} {i : Nat} {c : Int} {j : Nat} (h : hexM t i = some (c, j)) : i < t.n ∧ j = i + 1 ∧ 0 ≤ c ∧ c ≤ 15 ∧ hexi (t.T i) = c := by
  unfold hexM at h
  split at h
  · rename_i hl
    cases hx : hexv (t.T i) with
    | none => rw [hx] at h; cases h
    | some x =>
      rw [hx] at h
      injection h with h
      injection h with h1 h2
      have := (hexv_is hx).1
      exact ⟨hl, h2.symm, by omega, by omega, by rw [hexi_some hx]; exact h1⟩
  · cases h
theorem hexM_none {t : Tx} {i : Nat} (h : hexM t i = none) : t.n ≤ i ∨ hexi (t.T i) = -1 := by
  unfold hexM at h
  split at h
  · cases hx : hexv (t.T i) with
    | none => exact .inr (hexi_none hx)
    | some x => rw [hx] at h; cases h
  · exact .inl (by omega)
set_option maxHeartbeats 4000000 in
set_option maxRecDepth 100000 in
theorem escape_any (rb : Nat) (t : Tx) (r : Rv) (i : Nat) (fr : Int) (w : World) (hB : RB rb t r i w) (hT : TxQ rb w r.ta t) (hi : i ≤ t.n) :
    Calls Tryz.prog 91 #[.pointer (some ⟨rb, 0, none⟩), .int .i64 fr] w (ScIs (escM t i) fr rb t r w) := by
  have HT : Hid (TxQ rb w r.ta t) := hT
  go_enter Tryz.func91, Tryz.ntmps91
  go_wp2_with fail
  refine (inside_any rb t r i fr w hB hT hi).mono ?_
  clear hB hT
  rintro e W ⟨hk, ⟨c, j, hres, rfl, hB'⟩ | ⟨hres, rfl⟩⟩
  · obtain ⟨hlt, hc, rfl⟩ := insM_some hres
    have HK : Hid (Keep (fun b => b = rb) w W) := hk
    have HB : Hid (RB rb t r (i + 1) W) := hB'
    have HE : Hid (escM t i = (if c = 110 then some (10, i + 1) else if c = 116 then some (9, i + 1) else if c = 114 then some (13, i + 1) else if escP c then some (c, i + 1)
     else if c = 120 then (match hexM t (i + 1) with | none => none | some (h, j) => match hexM t j with | none => none | some (l, j') => some (h * 16 + l, j'))
     else none)) := by
      show _ = _
      unfold escM
      rw [if_pos hlt, hc]
    clear hk hB' hres hc
    rcases (show c = 110 ∨ c = 116 ∨ c = 114 ∨ c = 92 ∨ c = 34 ∨ c = 91 ∨ c = 93 ∨ c = 45 ∨ c = 94 ∨ c = 120 ∨ (¬ c = 110 ∧ ¬ c = 116 ∧ ¬ c = 114 ∧ ¬ c = 92 ∧ ¬ c = 34 ∧ ¬ c = 91 ∧ ¬ c = 93 ∧ ¬ c = 45 ∧ ¬ c = 94 ∧ ¬ c = 120) by omega) with rfl | rfl | rfl | rfl | rfl | rfl | rfl | rfl | rfl | rfl | ⟨h1, h2, h3, h4, h5, h6, h7, h8, h9, h10⟩
    case inr.inr.inr.inr.inr.inr.inr.inr.inr.inl =>
      have HE2 : Hid (escM t i = (match hexM t (i + 1) with | none => none | some (h, j) => match hexM t j with | none => none | some (l, j') => some (h * 16 + l, j'))) := HE.out
      clear HE
      go_wp2_with fail
      refine (hexDigit_any rb t r (i + 1) fr W HB.out (HT.out.keep HK.out) hlt).mono ?_
      rintro e W2 ⟨hk2, ⟨h, j, hres, rfl, hB2⟩ | ⟨hres, rfl⟩⟩
      · obtain ⟨l1, rfl, l3, l4, _⟩ := hexM_some hres
        have HK2 : Hid (Keep (fun b => b = rb) w W2) := HK.out.trans hk2
        have HB2 : Hid (RB rb t r (i + 1 + 1) W2) := hB2
        have HR : Hid (hexM t (i + 1) = some (h, i + 1 + 1)) := hres
        clear hk2 hB2 hres
        go_wp2_with fail
        refine (hexDigit_any rb t r (i + 1 + 1) fr W2 HB2.out (HT.out.keep HK2.out) l1).mono ?_
        rintro e W3 ⟨hk3, ⟨l, j, hres, rfl, hB3⟩ | ⟨hres, rfl⟩⟩
        · obtain ⟨m1, rfl, m3, m4, _⟩ := hexM_some hres
          have HFI : Hid (ScIs (escM t i) fr rb t r w (.returned (.int .u8 (h * 16 + l))) W3) := ScIs.good (HK2.out.trans hk3) (by rw [HE2.out, HR.out]; simp only; rw [hres]) hB3
          clear hk3 hB3 hres
          go_wp2
          go_ret
          rw [← or16 l3 l4 m3 m4] at HFI
          exact HFI.out
        · go_wp2
          exact ⟨rfl, ScIs.fail (HK2.out.trans hk3) (by rw [HE2.out, HR.out]; simp only; rw [hres])⟩
      · go_wp2
        exact ⟨rfl, ScIs.fail (HK.out.trans hk2) (by rw [HE2.out, hres])⟩
    case inr.inr.inr.inr.inr.inr.inr.inr.inr.inr =>
      have e1 : (c == 110) = false := by simpa using h1
      have e2 : (c == 116) = false := by simpa using h2
      have e3 : (c == 114) = false := by simpa using h3
      have e4 : (c == 92) = false := by simpa using h4
      have e5 : (c == 34) = false := by simpa using h5
      have e6 : (c == 91) = false := by simpa using h6
      have e7 : (c == 93) = false := by simpa using h7
      have e8 : (c == 45) = false := by simpa using h8
      have e9 : (c == 94) = false := by simpa using h9
      have e10 : (c == 120) = false := by simpa using h10
      have HN : Hid (escM t i = none) := by
        show _ = _
        rw [HE.out]
        simp [escP, h1, h2, h3, h4, h5, h6, h7, h8, h9, h10]
      clear h1 h2 h3 h4 h5 h6 h7 h8 h9 h10 HE
      go_wp2
      exact ⟨rfl, ScIs.fail HK.out HN.out⟩
    all_goals (
      go_wp2
      go_ret
      exact ScIs.good HK.out HE.out HB.out)
  · have hlt := insM_none hres
    go_wp2
    exact ⟨rfl, ScIs.fail hk (by unfold escM; rw [if_neg hlt])⟩
def chM (t : Tx) (i : Nat) (cls : Bool) : Option (Int × Nat) := if (chr t i cls).2 = 0 then none else some ((chr t i cls).1, i + (chr t i cls).2)
theorem esc_link (t : Tx) {i : Nat} (hlt : i < t.n) (h92 : t.T i = 92) : (if (esc t i).2 = 0 then none else some ((esc t i).1, i + (esc t i).2)) = escM t (i + 1) := by
  have key : ∀ (x : Int × Nat) (y : Option (Int × Nat)), esc t i = x → escM t (i + 1) = y → (if x.2 = 0 then none else some (x.1, i + x.2)) = y → (if (esc t i).2 = 0 then none else some ((esc t i).1, i + (esc t i).2)) = escM t (i + 1) := fun x y h1 h2 h3 => by rw [h1, h2]; exact h3
  by_cases h1 : i + 1 < t.n
  · have hn : ¬ (t.n ≤ i + 1 ∨ t.T i ≠ 92) := fun q => q.elim (fun q => by omega) (fun q => q h92)
    by_cases c1 : t.T (i + 1) = 110
    · exact key (10, 2) (some (10, i + 2)) (by unfold esc; rw [if_neg hn, if_pos c1]) (by unfold escM; rw [if_pos h1, if_pos c1]) rfl
    by_cases c2 : t.T (i + 1) = 116
    · exact key (9, 2) (some (9, i + 2)) (by unfold esc; rw [if_neg hn, if_neg c1, if_pos c2]) (by unfold escM; rw [if_pos h1, if_neg c1, if_pos c2]) rfl
    by_cases c3 : t.T (i + 1) = 114
    · exact key (13, 2) (some (13, i + 2)) (by unfold esc; rw [if_neg hn, if_neg c1, if_neg c2, if_pos c3]) (by unfold escM; rw [if_pos h1, if_neg c1, if_neg c2, if_pos c3]) rfl
    by_cases c4 : escP (t.T (i + 1))
    · exact key (t.T (i + 1), 2) (some (t.T (i + 1), i + 2)) (by unfold esc; rw [if_neg hn, if_neg c1, if_neg c2, if_neg c3, if_pos c4]) (by unfold escM; rw [if_pos h1, if_neg c1, if_neg c2, if_neg c3, if_pos c4]) rfl
    by_cases c5 : t.T (i + 1) = 120
    · have hM : escM t (i + 1) = (match hexM t (i + 1 + 1) with | none => none | some (h, j) => match hexM t j with | none => none | some (l, j') => some (h * 16 + l, j')) := by
        unfold escM
        rw [if_pos h1, if_neg c1, if_neg c2, if_neg c3, if_neg c4, if_pos c5]
      have hE : ∀ p, ¬ p → (t.T (i + 1) = 120 ∧ i + 3 < t.n ∧ 0 ≤ hexi (t.T (i + 2)) ∧ 0 ≤ hexi (t.T (i + 3)) → p) → esc t i = (0, 0) := fun p hp himp => by
        unfold esc
        rw [if_neg hn, if_neg c1, if_neg c2, if_neg c3, if_neg c4, if_neg (fun q => hp (himp q))]
      cases ha : hexM t (i + 1 + 1) with
      | none =>
        have h0 := hexM_none ha
        refine key (0, 0) none (hE False (fun q => q) (fun q => ?_)) (by rw [hM, ha]) rfl
        obtain ⟨_, q1, q2, q3⟩ := q
        rcases h0 with q | q
        · omega
        · rw [show i + 1 + 1 = i + 2 from rfl] at q; omega
      | some p =>
        obtain ⟨h, j⟩ := p
        obtain ⟨a1, rfl, a3, a4, a5⟩ := hexM_some ha
        cases hb : hexM t (i + 1 + 1 + 1) with
        | none =>
          have h0 := hexM_none hb
          refine key (0, 0) none (hE False (fun q => q) (fun q => ?_)) (by rw [hM, ha]; simp only; rw [hb]) rfl
          obtain ⟨_, q1, q2, q3⟩ := q
          rcases h0 with q | q
          · omega
          · rw [show i + 1 + 1 + 1 = i + 3 from rfl] at q; omega
        | some p =>
          obtain ⟨l, j⟩ := p
          obtain ⟨b1, rfl, b3, b4, b5⟩ := hexM_some hb
          have e1 : hexi (t.T (i + 2)) = h := a5
          have e2 : hexi (t.T (i + 3)) = l := b5
          refine key (h * 16 + l, 4) (some (h * 16 + l, i + 4)) ?_ (by rw [hM, ha]; simp only; rw [hb]) rfl
          unfold esc
          rw [if_neg hn, if_neg c1, if_neg c2, if_neg c3, if_neg c4, if_pos ⟨c5, by omega, by omega, by omega⟩, e1, e2]
    · exact key (0, 0) none (by unfold esc; rw [if_neg hn, if_neg c1, if_neg c2, if_neg c3, if_neg c4, if_neg (fun q => c5 q.1)]) (by unfold escM; rw [if_pos h1, if_neg c1, if_neg c2, if_neg c3, if_neg c4, if_neg c5]) rfl
  · exact key (0, 0) none (by unfold esc; rw [if_pos (.inl (by omega))]) (by unfold escM; rw [if_neg h1]) rfl
theorem idx1F : ∀ c : Fin 256, Lib.indexByte [10] (c.val.toUInt8) = if c.val = 10 then 0 else -1 := by decide +kernel
theorem idx4F : ∀ c : Fin 256, (0 ≤ Lib.indexByte [93, 45, 94, 10] (c.val.toUInt8)) = (c.val = 93 ∨ c.val = 45 ∨ c.val = 94 ∨ c.val = 10) := by
  intro c
  rw [eq_iff_iff]
  revert c
  decide +kernel
def bsC (cls : Bool) : ByteArray := if cls then ⟨#[93, 45, 94, 10]⟩ else ⟨#[10]⟩
def barC (cls : Bool) (c : Int) : Prop := c = 10 ∨ (cls = true ∧ (c = 93 ∨ c = 45 ∨ c = 94))
theorem idx_iff (cls : Bool) {c : Int} (h0 : 0 ≤ c) (h1 : c ≤ 255) : 0 ≤ Lib.indexByte (bsC cls).data.toList c.toNat.toUInt8 ↔ barC cls c := by
  cases cls with
  | false =>
    show 0 ≤ Lib.indexByte [10] c.toNat.toUInt8 ↔ _
    have h := idx1F ⟨c.toNat, by omega⟩
    simp only at h
    rw [h]
    unfold barC
    by_cases e : c.toNat = 10
    · rw [if_pos e]
      exact ⟨fun _ => .inl (by omega), fun _ => by omega⟩
    · rw [if_neg e]
      exact ⟨fun q => by omega, fun q => by rcases q with q | q; omega; exact absurd q.1 (by decide)⟩
  | true =>
    show 0 ≤ Lib.indexByte [93, 45, 94, 10] c.toNat.toUInt8 ↔ _
    have h := idx4F ⟨c.toNat, by omega⟩
    simp only at h
    rw [h]
    unfold barC
    simp only [true_and]
    omega
theorem idx_call (cls : Bool) (c : Int) (w : World) : Calls Tryz.prog 92 #[.string (bsC cls), .int .u8 c] w fun e w' => e = .returned (.int .i64 (Lib.indexByte (bsC cls).data.toList c.toNat.toUInt8)) ∧ w' = w :=
  Any.strings_IndexByte Tryz.lays92 (bsC cls) c w
theorem chM_esc (t : Tx) {i : Nat} (cls : Bool) (hlt : i < t.n) (h92 : t.T i = 92) : chM t i cls = escM t (i + 1) := by
  rw [← esc_link t hlt h92]
  have e : chr t i cls = esc t i := by
    unfold chr
    rw [if_neg (by rintro (q | q) <;> omega), if_pos h92]
  unfold chM
  rw [e]
theorem chM_bar (t : Tx) {i : Nat} {cls : Bool} (hlt : i < t.n) (h92 : t.T i ≠ 92) (hb : barC cls (t.T i)) : chM t i cls = none := by
  have e : chr t i cls = (0, 0) := by
    unfold chr
    by_cases h10 : t.T i = 10
    · rw [if_pos (.inr h10)]
    · have hq := hb.resolve_left h10
      rw [if_neg (by rintro (q | q); omega; exact h10 q), if_neg h92, if_pos hq]
  unfold chM
  rw [e]
  rfl
theorem chM_one (t : Tx) {i : Nat} {cls : Bool} (hlt : i < t.n) (h92 : t.T i ≠ 92) (hb : ¬ barC cls (t.T i)) (h34 : cls = false → t.T i ≠ 34) : chM t i cls = some (t.T i, i + 1) := by
  have e : chr t i cls = (t.T i, 1) := by
    unfold chr
    unfold barC at hb
    rw [if_neg (by rintro (q | q); omega; exact hb (.inl q)), if_neg h92, if_neg (fun q => hb (.inr q)), if_neg (fun q => h34 q.1 q.2)]
  unfold chM
  rw [e]
  rfl
theorem chM_end (t : Tx) {i : Nat} (cls : Bool) (h : ¬ i < t.n) : chM t i cls = none := by
  have e : chr t i cls = (0, 0) := by
    unfold chr
    rw [if_pos (.inl (by omega))]
  unfold chM
  rw [e]
  rfl
set_option maxHeartbeats 2000000 in
set_option maxRecDepth 100000 in
theorem character_any (cls : Bool) (rb : Nat) (t : Tx) (r : Rv) (i : Nat) (fr : Int) (w : World) (hB : RB rb t r i w) (hT : TxQ rb w r.ta t) (hi : i ≤ t.n) (h34 : cls = false → i < t.n → t.T i ≠ 34) :
    Calls Tryz.prog 79 #[.pointer (some ⟨rb, 0, none⟩), .int .i64 fr, .string (bsC cls)] w (ScIs (chM t i cls) fr rb t r w) := by
  have HT : Hid (TxQ rb w r.ta t) := hT
  have HX : Hid (∀ (c : Int) (w : World), Calls Tryz.prog 92 #[.string (bsC cls), .int .u8 c] w fun e w' => e = .returned (.int .i64 (Lib.indexByte (bsC cls).data.toList c.toNat.toUInt8)) ∧ w' = w) := idx_call cls
  have HXI : Hid (∀ c : Int, 0 ≤ c → c ≤ 255 → (0 ≤ Lib.indexByte (bsC cls).data.toList c.toNat.toUInt8 ↔ barC cls c)) := fun c h0 h1 => idx_iff cls h0 h1
  generalize bsC cls = bs at *
  go_enter Tryz.func79, Tryz.ntmps79
  go_wp2_with fail
  refine (inside_any rb t r i fr w hB hT hi).mono ?_
  clear hB hT
  rintro e W ⟨hk, ⟨c, j, hres, rfl, hB'⟩ | ⟨hres, rfl⟩⟩
  · obtain ⟨hlt, hc, rfl⟩ := insM_some hres
    have hb := t.byt i
    rw [hc] at hb
    have HK : Hid (Keep (fun b => b = rb) w W) := hk
    have HB : Hid (RB rb t r (i + 1) W) := hB'
    have HC : Hid (t.T i = c) := hc
    clear hk hB' hres hc
    by_cases h92 : c = 92
    · subst h92
      have HE : Hid (chM t i cls = escM t (i + 1)) := chM_esc t cls hlt HC.out
      go_wp2_with fail
      refine (escape_any rb t r (i + 1) fr W HB.out (HT.out.keep HK.out) hlt).mono ?_
      rintro e W2 ⟨hk2, ⟨d, j, hres, rfl, hB2⟩ | ⟨hres, rfl⟩⟩
      · have HFI : Hid (ScIs (chM t i cls) fr rb t r w (.returned (.int .u8 d)) W2) := ScIs.good (HK.out.trans hk2) (by rw [HE.out]; exact hres) hB2
        clear hk2 hB2 hres
        go_wp2
        go_ret
        exact HFI.out
      · go_wp2
        exact ⟨rfl, ScIs.fail (HK.out.trans hk2) (by rw [HE.out]; exact hres)⟩
    · have h92' : (c == 92) = false := by simpa using h92
      have HI := HXI.out c hb.1 hb.2
      have HXC := HX.out c W
      generalize Lib.indexByte bs.data.toList c.toNat.toUInt8 = k at *
      have HXC : Hid (Calls Tryz.prog 92 #[.string bs, .int .u8 c] W fun e w' => e = .returned (.int .i64 k) ∧ w' = W) := HXC
      by_cases hbar : barC cls c
      · have HN : Hid (chM t i cls = none) := chM_bar t hlt (by rw [HC.out]; exact h92) (by rw [HC.out]; exact hbar)
        have hk0 : (0 : Int) ≤ k := HI.2 hbar
        have hk1 : decide (k ≥ 0) = true := decide_eq_true hk0
        clear h92 HI hbar
        go_wp2_with fail
        refine HXC.out.mono ?_
        rintro e W2 ⟨rfl, hw⟩
        subst W2
        go_wp2
        exact ⟨rfl, ScIs.fail HK.out HN.out⟩
      · have HN : Hid (chM t i cls = some (c, i + 1)) := by
          have := chM_one t (cls := cls) hlt (by rw [HC.out]; exact h92) (by rw [HC.out]; exact hbar) (fun q => h34 q hlt)
          rw [HC.out] at this
          exact this
        have hk0 : ¬ (0 : Int) ≤ k := fun q => hbar (HI.1 q)
        have hk1 : decide (k ≥ 0) = false := decide_eq_false hk0
        clear h92 HI hbar
        go_wp2_with fail
        refine HXC.out.mono ?_
        rintro e W2 ⟨rfl, hw⟩
        subst W2
        go_wp2
        go_ret
        exact ScIs.good HK.out HN.out HB.out
  · have hlt := insM_none hres
    go_wp2
    exact ⟨rfl, ScIs.fail hk (chM_end t cls hlt)⟩
end
end Go.Proofs.YteoddjobpmmgeaaGreat
