import Derived.Test.YteoddjobpmmgeaaGreatT10
set_option linter.unusedVariables false
set_option linter.unusedSimpArgs false
namespace Go.Proofs.YteoddjobpmmgeaaGreat
section
open Go.RowKit
open M (OpD NodeD Gr)
def grpT : Int → List Tok → Prop
  | _, [] => False
  | d, x :: r => dstep x.kind d = 0 ∨ grpT (dstep x.kind d) r
theorem grpT_in : ∀ (e : PE) (l : Nat), e.ok l → ∀ (d : Int) (r : List Tok), 0 < d → grpT d r → grpT d (e.tk ++ r) := by
  have one : ∀ (t : Tok) (d : Int) (r : List Tok), t.kind ≠ 40 → t.kind ≠ 41 → grpT d r → grpT d (t :: r) := fun t d r h h' hr => .inr (by rw [dstep_else h h']; exact hr)
  intro e
  induction e with
  | ref t => intro l h d r hd hr; have : t.kind = 110 := h; exact one t d r (by omega) (by omega) hr
  | str t => intro l h d r hd hr; have : t.kind = 34 := h; exact one t d r (by omega) (by omega) hr
  | cls t => intro l h d r hd hr; have : t.kind = 91 := h; exact one t d r (by omega) (by omega) hr
  | dot t => intro l h d r hd hr; have : t.kind = 46 := h; exact one t d r (by omega) (by omega) hr
  | thr c t =>
    intro l h d r hd hr
    obtain ⟨h1, h2⟩ := h
    exact one c d _ (by omega) (by omega) (one t d r (by omega) (by omega) hr)
  | grp o e c ih =>
    intro l h d r hd hr
    obtain ⟨h1, h2, h3⟩ := h
    show grpT d (o :: ((e.tk ++ [c]) ++ r))
    refine .inr ?_
    rw [h1, dstep_o, List.append_assoc]
    refine ih 5 h3 (d + 1) _ (by omega) (.inr ?_)
    rw [h2, dstep_c, show d + 1 - 1 = d by omega]
    exact hr
  | star e t ih =>
    intro l h d r hd hr
    obtain ⟨_, h2, h3⟩ := h
    show grpT d ((e.tk ++ [t]) ++ r)
    rw [List.append_assoc]
    exact ih 0 h3 d _ hd (one t d r (by omega) (by omega) hr)
  | opt e t ih =>
    intro l h d r hd hr
    obtain ⟨_, h2, h3⟩ := h
    show grpT d ((e.tk ++ [t]) ++ r)
    rw [List.append_assoc]
    exact ih 0 h3 d _ hd (one t d r (by omega) (by omega) hr)
  | not t e ih =>
    intro l h d r hd hr
    obtain ⟨_, h2, h3⟩ := h
    exact one t d _ (by omega) (by omega) (ih 2 h3 d r hd hr)
  | amp t e ih =>
    intro l h d r hd hr
    obtain ⟨_, h2, h3⟩ := h
    exact one t d _ (by omega) (by omega) (ih 2 h3 d r hd hr)
  | emp => intro l h d r hd hr; exact hr
  | seq a b iha ihb =>
    intro l h d r hd hr
    obtain ⟨_, h2, h3⟩ := h
    show grpT d ((a.tk ++ b.tk) ++ r)
    rw [List.append_assoc]
    exact iha 3 h2 d _ hd (ihb 2 h3 d r hd hr)
  | alt a t b iha ihb =>
    intro l h d r hd hr
    obtain ⟨_, h1, h2, h3⟩ := h
    show grpT d ((a.tk ++ t :: b.tk) ++ r)
    rw [List.append_assoc]
    exact iha 5 h2 d _ hd (one t d _ (by omega) (by omega) (ihb 4 h3 d r hd hr))
def PartOK (l : List Tok) : Prop := preL l < l.length ∧ (kAt (l.drop (preL l)) 0 = 94 → grpT 0 (l.drop (preL l + 1))) ∧ (¬ kAt (l.drop (preL l)) 0 = 94 → grpT 0 (l.drop (preL l)))
theorem prim_ok (e : PE) (h : e.ok 0) (r : List Tok) : PartOK (e.tk ++ r) := by
  have hp := (prim_len e h r).1
  unfold PartOK
  rw [hp, List.drop_zero, Nat.zero_add]
  have hl : 0 < e.tk.length := (part_head e (PE.ok_mono e (by omega) h) r).2.2
  refine ⟨by rw [List.length_append]; omega, ?_⟩
  cases e with
  | ref t => have : t.kind = 110 := h; exact ⟨fun q => absurd (show t.kind = 94 from q) (by omega), fun _ => .inl (dstep_else (by omega) (by omega) 0)⟩
  | str t => have : t.kind = 34 := h; exact ⟨fun q => absurd (show t.kind = 94 from q) (by omega), fun _ => .inl (dstep_else (by omega) (by omega) 0)⟩
  | cls t => have : t.kind = 91 := h; exact ⟨fun q => absurd (show t.kind = 94 from q) (by omega), fun _ => .inl (dstep_else (by omega) (by omega) 0)⟩
  | dot t => have : t.kind = 46 := h; exact ⟨fun q => absurd (show t.kind = 94 from q) (by omega), fun _ => .inl (dstep_else (by omega) (by omega) 0)⟩
  | thr c t =>
    obtain ⟨h1, h2⟩ := h
    exact ⟨fun _ => .inl (dstep_else (by omega) (by omega) 0), fun q => absurd h1 q⟩
  | grp o e c =>
    obtain ⟨h1, h2, h3⟩ := h
    refine ⟨fun q => absurd (show o.kind = 94 from q) (by omega), fun _ => ?_⟩
    show grpT 0 (o :: ((e.tk ++ [c]) ++ r))
    refine .inr ?_
    rw [h1, dstep_o, List.append_assoc]
    refine grpT_in e 5 h3 _ _ (by omega) (.inl ?_)
    rw [h2, dstep_c]; omega
  | star _ _ => exact absurd h.1 (by omega)
  | opt _ _ => exact absurd h.1 (by omega)
  | not _ _ => exact absurd h.1 (by omega)
  | amp _ _ => exact absurd h.1 (by omega)
  | emp => exact absurd h (by show ¬ (4 ≤ 0); omega)
  | seq _ _ => exact absurd h.1 (by omega)
  | alt _ _ _ => exact absurd h.1 (by omega)
theorem pre_ok (t : Tok) (l : List Tok) (ht : t.kind = 33 ∨ t.kind = 38) (h : PartOK l) : PartOK (t :: l) := by
  obtain ⟨h1, h2, h3⟩ := h
  unfold PartOK
  rw [preL, if_pos ht]
  exact ⟨by rw [List.length_cons]; omega, h2, h3⟩
theorem part_ok : ∀ (e : PE), e.ok 2 → ∀ (r : List Tok), PartOK (e.tk ++ r) := by
  intro e
  induction e with
  | not t e ih => intro h r; exact pre_ok t _ (.inl h.2.1) (ih h.2.2 r)
  | amp t e ih => intro h r; exact pre_ok t _ (.inr h.2.1) (ih h.2.2 r)
  | star e t _ => intro h r; show PartOK ((e.tk ++ [t]) ++ r); rw [List.append_assoc]; exact prim_ok e h.2.2 _
  | opt e t _ => intro h r; show PartOK ((e.tk ++ [t]) ++ r); rw [List.append_assoc]; exact prim_ok e h.2.2 _
  | emp => intro h; exact absurd h (by show ¬ (4 ≤ 2); omega)
  | seq a b _ _ => intro h; exact absurd h.1 (by omega)
  | alt a t b _ _ => intro h; exact absurd h.1 (by omega)
  | ref t => intro h r; exact prim_ok _ h r
  | thr c t => intro h r; exact prim_ok _ h r
  | str t => intro h r; exact prim_ok _ h r
  | cls t => intro h r; exact prim_ok _ h r
  | dot t => intro h r; exact prim_ok _ h r
  | grp o e c _ => intro h r; exact prim_ok _ h r
theorem kAt_get {l : List Tok} {i : Nat} {x : Tok} (h : l[i]? = some x) : kAt l i = x.kind := by unfold kAt; rw [h]
theorem kAt_drop (l : List Tok) (i : Nat) : kAt (l.drop i) 0 = kAt l i := by unfold kAt; rw [List.getElem?_drop, Nat.add_zero]
theorem kAt_drop' (l : List Tok) (i k : Nat) : kAt (l.drop i) k = kAt l (i + k) := by unfold kAt; rw [List.getElem?_drop]
theorem preL_step {l : List Tok} {i : Nat} {x : Tok} (h : l[i]? = some x) : preL (l.drop i) = if x.kind = 33 ∨ x.kind = 38 then preL (l.drop (i + 1)) + 1 else 0 := by rw [drop_cons h, preL]
set_option maxHeartbeats 1000000 in
set_option maxRecDepth 100000 in
theorem l2part_any (Q : Nat → Prop) (l : List Tok) (a : Option Addr) (c : Nat) (w : World) (hT : TksA Q w a l) (hl : l.length ≤ 1048576) (hP : PartOK l) :
    Calls Tryz.prog 35 #[.slice a l.length c] w fun e w' => e = .returned (.int .i64 (partL l : Nat)) ∧ w' = w := by
  obtain ⟨p1, p2, p3⟩ := hP
  obtain ⟨b, off, rfl, hc⟩ := hT.at (i := 0) (by omega)
  have HC : Hid (∀ i, i < l.length → ∃ x, l[i]? = some x ∧ w.cell? ⟨b, off + i * 4, none⟩ = some (.int .u8 x.kind)) := fun i hi => ⟨_, List.getElem?_eq_getElem hi, (hc i _ (List.getElem?_eq_getElem hi)).kind⟩
  clear hc hT
  obtain ⟨i0, hi0⟩ : ∃ i0, preL l = i0 := ⟨_, rfl⟩
  obtain ⟨R, hR⟩ : ∃ R, partL l = R := ⟨_, rfl⟩
  rw [hR]
  unfold partL at hR
  rw [hi0] at p1 p2 p3 hR
  rw [kAt_drop] at p2 p3
  have HR : Hid (i0 + sufL (l.drop i0) (coreL (l.drop i0)) = R) := hR
  have HP2 : Hid (kAt l i0 = 94 → grpT 0 (l.drop (i0 + 1))) := p2
  have HP3 : Hid (¬ kAt l i0 = 94 → grpT 0 (l.drop i0)) := p3
  clear hR p2 p3
  go_enter Tryz.func35, Tryz.ntmps35
  go_wp2
  go_loopw [3] (fun u wr => ∃ i : Nat, i ≤ i0 ∧ u = .int .i64 i ∧ wr = w ∧ i + preL (l.drop i) = i0) (fun u _ => l.length - (intOf u).toNat)
  case atStart => exact ⟨0, by omega, rfl, rfl, by rw [List.drop_zero, hi0]; omega⟩
  case round =>
    obtain ⟨i, hi, rfl, rfl, he⟩ := hrel
    clear hi0
    have hil : i < l.length := by omega
    have hil' : (i : Int) < l.length := by omega
    obtain ⟨x, hx, k0⟩ := HC.out i hil
    have HK : Hid (kAt l i = x.kind) := kAt_get hx
    rw [preL_step hx] at he
    have HE : Hid (i + (if x.kind = 33 ∨ x.kind = 38 then preL (l.drop (i + 1)) + 1 else 0) = i0) := he
    clear he hx
    by_cases hk : x.kind = 33 ∨ x.kind = 38
    · have HE2 : Hid (i + 1 + preL (l.drop (i + 1)) = i0) := by
        have := HE.out
        rw [if_pos hk] at this
        show _ = _
        omega
      clear HE HK
      generalize x.kind = kx at *
      rcases hk with rfl | rfl
      all_goals (
        go_wp2
        go_roundw
        case rel => exact ⟨i + 1, by have := HE2.out; omega, by go_num, by trivial, HE2.out⟩
        case measure => simp [intOf]; omega)
    · have y1 : (x.kind == 33) = false := by simpa using fun q => hk (.inl q)
      have y2 : (x.kind == 38) = false := by simpa using fun q => hk (.inr q)
      obtain rfl : i = i0 := by
        have := HE.out
        rw [if_neg hk] at this
        omega
      clear HE hk hi
      obtain ⟨i1, hi1⟩ : ∃ i1, (if x.kind = 94 then i + 1 else i) = i1 := ⟨_, rfl⟩
      have HI : Hid ((if x.kind = 94 then i + 1 else i) = i1) := hi1
      have HG : Hid (grpT 0 (l.drop i1) ∧ i1 + grpL 0 (l.drop i1) = i + coreL (l.drop i) ∧ i ≤ i1) := by
        have h2 := HP2.out
        have h3 := HP3.out
        rw [HK.out] at h2 h3
        unfold coreL
        rw [kAt_drop, HK.out, List.drop_drop]
        by_cases h : x.kind = 94
        · rw [if_pos h] at hi1
          subst hi1
          rw [if_pos h]
          exact ⟨h2 h, by omega, by omega⟩
        · rw [if_neg h] at hi1
          subst hi1
          rw [if_neg h]
          exact ⟨h3 h, rfl, Nat.le_refl _⟩
      clear hi1 HP2 HP3 HK
      go_upto_if 26 with fail
      go_cut [3] from 21 to 71 (fun v wc => v = .int .i64 (i1 : Int) ∧ wr = wc)
      case first =>
        by_cases h : x.kind = 94
        · have e := HI.out
          rw [if_pos h] at e
          subst e
          generalize x.kind = kx at *
          subst h
          go_wp2
          go_meet
          case rel => exact ⟨by go_num, rfl⟩
        · have e := HI.out
          rw [if_neg h] at e
          have y3 : (x.kind == 94) = false := by simpa using h
          subst e
          go_wp2
          go_meet
          case rel => exact ⟨rfl, rfl⟩
      case rest =>
        obtain ⟨rfl, rfl⟩ := hcut
        obtain ⟨E, hE⟩ : ∃ E, i + coreL (l.drop i) = E := ⟨_, rfl⟩
        have HFIN : Hid ((if kAt l E = 42 ∨ kAt l E = 63 then E + 1 else E) = R) := by
          have := HR.out
          unfold sufL at this
          rw [kAt_drop', hE] at this
          show _ = R
          rw [← this]
          split <;> omega
        have HG2 : Hid (grpT 0 (l.drop i1) ∧ i1 + grpL 0 (l.drop i1) = E) := ⟨HG.out.1, HG.out.2.1.trans hE⟩
        have hlen1 : i1 < l.length := by
          by_cases h : i1 < l.length
          · exact h
          · have := HG.out.1
            rw [List.drop_of_length_le (by omega)] at this
            exact this.elim
        clear HG HI HR hE y1 y2 k0
        go_wp2
        go_loopw [3, 4] (fun v3 v4 w' => ∃ (i2 : Nat) (d : Int), i1 ≤ i2 ∧ i2 < l.length ∧ v3 = .int .i64 i2 ∧ v4 = .int .i64 d ∧ w' = wr ∧ -(i2 : Int) ≤ d ∧ d ≤ i2 ∧ grpT d (l.drop i2) ∧ i2 + grpL d (l.drop i2) = E) (fun v3 _ _ => l.length - (intOf v3).toNat)
        case atStart => exact ⟨i1, 0, Nat.le_refl _, hlen1, rfl, rfl, rfl, by omega, by omega, HG2.out.1, HG2.out.2⟩
        case round =>
          obtain ⟨i2, d, hi2, hl2, rfl, rfl, rfl, hd1, hd2, hg, he⟩ := hrel
          have hl2' : (i2 : Int) < l.length := by omega
          obtain ⟨x2, hx2, k2⟩ := HC.out i2 hl2
          rw [drop_cons hx2] at hg he
          have HT2 : Hid (grpT d (x2 :: l.drop (i2 + 1))) := hg
          have HE : Hid (i2 + grpL d (x2 :: l.drop (i2 + 1)) = E) := he
          clear hg he HG2 hx2
          by_cases h40 : x2.kind = 40
          · have hds : dstep x2.kind d = d + 1 := by rw [h40]; rfl
            by_cases hd0 : d + 1 = 0
            · have hd0' : dstep x2.kind d = 0 := by rw [hds]; exact hd0
              obtain rfl : i2 + 1 = E := by have := HE.out; rw [grpL, if_pos hd0'] at this; exact this
              have HF := HFIN.out
              have HF : Hid ((if kAt l (i2 + 1) = 42 ∨ kAt l (i2 + 1) = 63 then i2 + 1 + 1 else i2 + 1) = R) := HF
              clear HFIN HE HT2
              rw [h40] at k2
              clear h40
              by_cases hin : i2 + 1 < l.length
              · have hin' : (i2 : Int) + 1 < l.length := by omega
                obtain ⟨y, hy, k9⟩ := HC.out (i2 + 1) hin
                have hky := kAt_get hy
                have e := HF.out
                rw [hky] at e
                clear HF hy hky
                generalize y.kind = ky at *
                by_cases z1 : ky = 42
                · subst z1
                  rw [if_pos (.inl rfl)] at e
                  subst e
                  go_wp2
                  go_ret
                  exact ⟨ret_int (by omega), rfl⟩
                by_cases z2 : ky = 63
                · subst z2
                  rw [if_pos (.inr rfl)] at e
                  subst e
                  go_wp2
                  go_ret
                  exact ⟨ret_int (by omega), rfl⟩
                · rw [if_neg (fun q => q.elim z1 z2)] at e
                  subst e
                  have z1' : (ky == 42) = false := by simpa using z1
                  have z2' : (ky == 63) = false := by simpa using z2
                  go_wp2
                  go_ret
                  exact ⟨ret_int (by omega), rfl⟩
              · have hin' : ¬ (i2 : Int) + 1 < l.length := by omega
                have e := HF.out
                rw [show kAt l (i2 + 1) = 0 by unfold kAt; rw [List.getElem?_eq_none (by omega)], if_neg (by omega)] at e
                subst e
                clear HF
                go_wp2
                go_ret
                exact ⟨ret_int (by omega), rfl⟩
            · have hd1 : ((d + 1) == 0) = false := by simpa using hd0
              have HE2 : Hid (i2 + 1 + grpL (d + 1) (l.drop (i2 + 1)) = E) := by
                have := HE.out
                rw [grpL, hds, if_neg hd0] at this
                show _ = _
                omega
              have HT3 : Hid (grpT (d + 1) (l.drop (i2 + 1))) := by
                have := HT2.out
                rw [grpT, hds] at this
                exact this.resolve_left hd0
              have hlen2 : i2 + 1 < l.length := by
                by_cases h : i2 + 1 < l.length
                · exact h
                · have := HT3.out
                  rw [List.drop_of_length_le (by omega)] at this
                  exact this.elim
              clear HE HT2 hds
              rw [h40] at k2
              clear h40
              go_wp2
              go_roundw
              case rel => exact ⟨i2 + 1, _, by omega, hlen2, by go_num, rfl, by trivial, by omega, by omega, HT3.out, HE2.out⟩
              case measure => simp [intOf]; omega
          by_cases h41 : x2.kind = 41
          · have hds : dstep x2.kind d = d - 1 := by rw [h41]; rfl
            by_cases hd0 : d - 1 = 0
            · have hd0' : dstep x2.kind d = 0 := by rw [hds]; exact hd0
              obtain rfl : i2 + 1 = E := by have := HE.out; rw [grpL, if_pos hd0'] at this; exact this
              have HF := HFIN.out
              have HF : Hid ((if kAt l (i2 + 1) = 42 ∨ kAt l (i2 + 1) = 63 then i2 + 1 + 1 else i2 + 1) = R) := HF
              clear HFIN HE HT2
              rw [h41] at k2
              clear h41 h40
              by_cases hin : i2 + 1 < l.length
              · have hin' : (i2 : Int) + 1 < l.length := by omega
                obtain ⟨y, hy, k9⟩ := HC.out (i2 + 1) hin
                have hky := kAt_get hy
                have e := HF.out
                rw [hky] at e
                clear HF hy hky
                generalize y.kind = ky at *
                by_cases z1 : ky = 42
                · subst z1
                  rw [if_pos (.inl rfl)] at e
                  subst e
                  go_wp2
                  go_ret
                  exact ⟨ret_int (by omega), rfl⟩
                by_cases z2 : ky = 63
                · subst z2
                  rw [if_pos (.inr rfl)] at e
                  subst e
                  go_wp2
                  go_ret
                  exact ⟨ret_int (by omega), rfl⟩
                · rw [if_neg (fun q => q.elim z1 z2)] at e
                  subst e
                  have z1' : (ky == 42) = false := by simpa using z1
                  have z2' : (ky == 63) = false := by simpa using z2
                  go_wp2
                  go_ret
                  exact ⟨ret_int (by omega), rfl⟩
              · have hin' : ¬ (i2 : Int) + 1 < l.length := by omega
                have e := HF.out
                rw [show kAt l (i2 + 1) = 0 by unfold kAt; rw [List.getElem?_eq_none (by omega)], if_neg (by omega)] at e
                subst e
                clear HF
                go_wp2
                go_ret
                exact ⟨ret_int (by omega), rfl⟩
            · have hd1 : ((d - 1) == 0) = false := by simpa using hd0
              have HE2 : Hid (i2 + 1 + grpL (d - 1) (l.drop (i2 + 1)) = E) := by
                have := HE.out
                rw [grpL, hds, if_neg hd0] at this
                show _ = _
                omega
              have HT3 : Hid (grpT (d - 1) (l.drop (i2 + 1))) := by
                have := HT2.out
                rw [grpT, hds] at this
                exact this.resolve_left hd0
              have hlen2 : i2 + 1 < l.length := by
                by_cases h : i2 + 1 < l.length
                · exact h
                · have := HT3.out
                  rw [List.drop_of_length_le (by omega)] at this
                  exact this.elim
              clear HE HT2 hds
              rw [h41] at k2
              clear h41 h40
              go_wp2
              go_roundw
              case rel => exact ⟨i2 + 1, _, by omega, hlen2, by go_num, rfl, by trivial, by omega, by omega, HT3.out, HE2.out⟩
              case measure => simp [intOf]; omega
          · have hds : dstep x2.kind d = d := dstep_else h40 h41 d
            have y1 : (x2.kind == 40) = false := by simpa using h40
            have y2 : (x2.kind == 41) = false := by simpa using h41
            by_cases hd0 : d = 0
            · have hd0' : dstep x2.kind d = 0 := by rw [hds]; exact hd0
              obtain rfl : i2 + 1 = E := by have := HE.out; rw [grpL, if_pos hd0'] at this; exact this
              have HF := HFIN.out
              have HF : Hid ((if kAt l (i2 + 1) = 42 ∨ kAt l (i2 + 1) = 63 then i2 + 1 + 1 else i2 + 1) = R) := HF
              clear HFIN HE HT2
              clear h40 h41
              by_cases hin : i2 + 1 < l.length
              · have hin' : (i2 : Int) + 1 < l.length := by omega
                obtain ⟨y, hy, k9⟩ := HC.out (i2 + 1) hin
                have hky := kAt_get hy
                have e := HF.out
                rw [hky] at e
                clear HF hy hky
                generalize y.kind = ky at *
                by_cases z1 : ky = 42
                · subst z1
                  rw [if_pos (.inl rfl)] at e
                  subst e
                  go_wp2
                  go_ret
                  exact ⟨ret_int (by omega), rfl⟩
                by_cases z2 : ky = 63
                · subst z2
                  rw [if_pos (.inr rfl)] at e
                  subst e
                  go_wp2
                  go_ret
                  exact ⟨ret_int (by omega), rfl⟩
                · rw [if_neg (fun q => q.elim z1 z2)] at e
                  subst e
                  have z1' : (ky == 42) = false := by simpa using z1
                  have z2' : (ky == 63) = false := by simpa using z2
                  go_wp2
                  go_ret
                  exact ⟨ret_int (by omega), rfl⟩
              · have hin' : ¬ (i2 : Int) + 1 < l.length := by omega
                have e := HF.out
                rw [show kAt l (i2 + 1) = 0 by unfold kAt; rw [List.getElem?_eq_none (by omega)], if_neg (by omega)] at e
                subst e
                clear HF
                go_wp2
                go_ret
                exact ⟨ret_int (by omega), rfl⟩
            · have hd1 : ((d) == 0) = false := by simpa using hd0
              have HE2 : Hid (i2 + 1 + grpL (d) (l.drop (i2 + 1)) = E) := by
                have := HE.out
                rw [grpL, hds, if_neg hd0] at this
                show _ = _
                omega
              have HT3 : Hid (grpT (d) (l.drop (i2 + 1))) := by
                have := HT2.out
                rw [grpT, hds] at this
                exact this.resolve_left hd0
              have hlen2 : i2 + 1 < l.length := by
                by_cases h : i2 + 1 < l.length
                · exact h
                · have := HT3.out
                  rw [List.drop_of_length_le (by omega)] at this
                  exact this.elim
              clear HE HT2 hds
              clear h40 h41
              go_wp2
              go_roundw
              case rel => exact ⟨i2 + 1, _, by omega, hlen2, by go_num, rfl, by trivial, by omega, by omega, HT3.out, HE2.out⟩
              case measure => simp [intOf]; omega
end
section
open Go.RowKit
open M (OpD NodeD Gr)
theorem Mk.from {D : List OpD} {w w1 w' : World} {e : Ending} (k : Keep (fun _ => False) w w1) (h : Mk D w1 e w') : Mk D w e w' := by
  obtain ⟨a, c, h1, h2, h3⟩ := h
  exact ⟨a, c, h1, h2.wide (fun b hb => ⟨Nat.le_trans k.size hb.1, hb.2⟩), k.trans h3⟩
structure Nms (Q : Nat → Prop) (w : World) (ra la : Option Addr) (rs ls : List (List Int)) : Prop where
  r : NmsA Q w ra rs
  l : NmsA Q w la ls
  rb : ∀ y ∈ rs, BytL y
  lb : ∀ y ∈ ls, BytL y
  rl : rs.length ≤ 1048576
  ll : ls.length ≤ 1048576
theorem Nms.later {Q : Nat → Prop} {w w' : World} {ra la : Option Addr} {rs ls : List (List Int)} (h : Nms Q w ra la rs ls) (t : Below w.heap.size w w') : Nms Q w' ra la rs ls :=
  ⟨h.r.later t, h.l.later t, h.rb, h.lb, h.rl, h.ll⟩
set_option maxHeartbeats 1000000 in
set_option maxRecDepth 100000 in
theorem bp_ref (Q : Nat → Prop) (t : Tok) (a ra la : Option Addr) (c rc lc : Nat) (rs ls : List (List Int)) (w : World) (hT : TksA Q w a [t]) (hN : Nms Q w ra la rs ls) (hk : t.kind = 110) (hb : BytL t.nm) (hc : 1 ≤ c) :
    Calls Tryz.prog 36 #[.slice a 1 c, .slice ra rs.length rc, .slice la ls.length lc] w (Mk (leafD 2 (findF t.nm rs 0)) w) := by
  obtain ⟨b, off, rfl, hcell⟩ := hT.at (i := 0) (by simp)
  have hC := hcell 0 t rfl
  have k0 := hC.kind
  obtain ⟨na, nc, k2, hI⟩ := hC.nm
  simp only [Nat.zero_mul, Nat.add_zero] at k0 k2
  rw [hk] at k0
  have HF : Hid (Calls Tryz.prog 15 #[.slice ra rs.length rc, .slice na t.nm.length nc] w fun e w' => e = .returned (.int .i64 (findF t.nm rs 0)) ∧ ∃ m, w' = w.drewN m) := l2find_any Q Q rs t.nm ra na rc nc w hN.r hI hN.rb hb hN.rl
  clear hC hcell hT hN hI
  generalize findF t.nm rs 0 = x at *
  go_enter Tryz.func36, Tryz.ntmps36
  go_wp2_with fail
  refine HF.out.mono ?_
  rintro e W ⟨rfl, m, rfl⟩
  go_wp2_with fail
  refine (l2leaf_any 2 x (w.drewN m)).mono ?_
  intro e W hM
  have HM : Hid (Mk (leafD 2 x) w e W) := hM.from (keep_drewN w m)
  clear hM
  obtain ⟨a1, c1, rfl, h2, h3⟩ := HM.out
  clear h2 h3
  go_wp2
  go_ret
  exact HM.out
set_option maxHeartbeats 1000000 in
set_option maxRecDepth 100000 in
theorem bp_dot (Q : Nat → Prop) (t : Tok) (a ra la : Option Addr) (c rc lc nr nl : Nat) (w : World) (hT : TksA Q w a [t]) (hk : t.kind = 46) (hc : 1 ≤ c) :
    Calls Tryz.prog 36 #[.slice a 1 c, .slice ra nr rc, .slice la nl lc] w (Mk (setD [0, 255]) w) := by
  obtain ⟨b, off, rfl, hcell⟩ := hT.at (i := 0) (by simp)
  have hC := hcell 0 t rfl
  have k0 := hC.kind
  simp only [Nat.zero_mul, Nat.add_zero] at k0
  rw [hk] at k0
  clear hC hcell hT
  have HS : Hid (Calls Tryz.prog 57 #[.slice (some ⟨w.heap.size, 0, none⟩) 2 2] (w.alloc (.cells #[.int .i64 0, .int .i64 255] 3)) (Mk (setD [0, 255]) (w.alloc (.cells #[.int .i64 0, .int .i64 255] 3)))) := by
    refine l2set_any (fun _ => True) (some ⟨w.heap.size, 0, none⟩) 2 [0, 255] _ (.inr ⟨w.heap.size, 0, rfl, trivial, fun i hi => ?_⟩) (by simp)
    have hb := blk_new w (.cells #[.int .i64 0, .int .i64 255] 3) _ rfl
    match i, hi with
    | 0, _ => exact blk_cell hb rfl
    | 1, _ => exact blk_cell hb rfl
  go_enter Tryz.func36, Tryz.ntmps36
  go_wp2_with fail
  refine HS.out.mono ?_
  intro e W hM
  have HM : Hid (Mk (setD [0, 255]) w e W) := hM.from (Keep.alloc _ _ _)
  clear hM
  obtain ⟨a1, c1, rfl, h2, h3⟩ := HM.out
  clear h2 h3
  go_wp2
  go_ret
  exact HM.out
set_option maxHeartbeats 1000000 in
set_option maxRecDepth 100000 in
theorem bp_cls (Q : Nat → Prop) (t : Tok) (a ra la : Option Addr) (c rc lc nr nl : Nat) (w : World) (hT : TksA Q w a [t]) (hk : t.kind = 91) (hs : t.set.length ≤ 1048576) (hc : 1 ≤ c) :
    Calls Tryz.prog 36 #[.slice a 1 c, .slice ra nr rc, .slice la nl lc] w (Mk (setD t.set) w) := by
  obtain ⟨b, off, rfl, hcell⟩ := hT.at (i := 0) (by simp)
  have hC := hcell 0 t rfl
  have k0 := hC.kind
  obtain ⟨na, nc, k3, hI⟩ := hC.set
  simp only [Nat.zero_mul, Nat.add_zero] at k0 k3
  rw [hk] at k0
  have HS : Hid (Calls Tryz.prog 57 #[.slice na t.set.length nc] w (Mk (setD t.set) w)) := l2set_any Q na nc t.set w hI hs
  clear hC hcell hT hI
  go_enter Tryz.func36, Tryz.ntmps36
  go_wp2_with fail
  refine HS.out.mono ?_
  intro e W hM
  have HM : Hid (Mk (setD t.set) w e W) := hM
  clear hM
  obtain ⟨a1, c1, rfl, h2, h3⟩ := HM.out
  clear h2 h3
  go_wp2
  go_ret
  exact HM.out
set_option maxHeartbeats 1000000 in
set_option maxRecDepth 100000 in
theorem bp_thr (Q : Nat → Prop) (ct t : Tok) (a ra la : Option Addr) (c rc lc : Nat) (rs ls : List (List Int)) (w : World) (hT : TksA Q w a [ct, t]) (hN : Nms Q w ra la rs ls) (hk : ct.kind = 94) (hk' : t.kind = 110) (hb : BytL t.nm) (hc : 2 ≤ c) :
    Calls Tryz.prog 36 #[.slice a 2 c, .slice ra rs.length rc, .slice la ls.length lc] w (Mk (leafD 3 (findF t.nm ls 0)) w) := by
  obtain ⟨b, off, rfl, hcell⟩ := hT.at (i := 0) (by simp)
  have k0 := (hcell 0 ct rfl).kind
  have hC := hcell 1 t rfl
  have k1 := hC.kind
  obtain ⟨na, nc, k2, hI⟩ := hC.nm
  simp only [Nat.zero_mul, Nat.add_zero, Nat.one_mul] at k0 k1 k2
  rw [hk] at k0
  rw [hk'] at k1
  have HF : Hid (Calls Tryz.prog 15 #[.slice la ls.length lc, .slice na t.nm.length nc] w fun e w' => e = .returned (.int .i64 (findF t.nm ls 0)) ∧ ∃ m, w' = w.drewN m) := l2find_any Q Q ls t.nm la na lc nc w hN.l hI hN.lb hb hN.ll
  clear hC hcell hT hN hI
  generalize findF t.nm ls 0 = x at *
  go_enter Tryz.func36, Tryz.ntmps36
  go_wp2_with fail
  refine HF.out.mono ?_
  rintro e W ⟨rfl, m, rfl⟩
  go_wp2_with fail
  refine (l2leaf_any 3 x (w.drewN m)).mono ?_
  intro e W hM
  have HM : Hid (Mk (leafD 3 x) w e W) := hM.from (keep_drewN w m)
  clear hM
  obtain ⟨a1, c1, rfl, h2, h3⟩ := HM.out
  clear h2 h3
  go_wp2
  go_ret
  exact HM.out
end
section
open Go.RowKit
open M (OpD NodeD Gr)
theorem BodP.nil (w w' : World) : BodP (New w w') w' (.slice none 0 0) [] := ⟨fun _ => 0, [], ⟨.inl ⟨rfl, rfl, rfl⟩, fun i x hx => by simp at hx⟩, rfl⟩
theorem BodP.later {w W W' : World} {v : Value} {D : List OpD} (h : BodP (New w W) W v D) (k : Keep (fun _ => False) W W') : BodP (New w W) W' v D := h.on (fun b hb => k.block b hb.2 (fun q => q))
theorem bodA {ops : Array Oper} {rest : List Oper} {o : Oper} {a : Act} {P' : Exit → Act → World → Prop} {w W1 W2 : World} (hgd : o.guard = none) (s x : Operand) (ho : o.op = .call { callee := .builtin .append, args := #[s, x], argTypes := #[48, 48] })
    {v y : Value} {D D' : List OpD} (hs : a.eval s = v) (hx : a.eval x = y) (h1 : BodP (New w W1) W1 v D) (k1 : Keep (fun _ => False) w W1) (h2 : BodP (New W1 W2) W2 y D') (k2 : Keep (fun _ => False) W1 W2) (hlen : D.length + D'.length ≤ 16777216) (hne : 0 < D'.length)
    (h : ∀ a' c' n' W3, Hid (n' = (D ++ D').length) → Hid (BodP (New w W3) W3 (.slice a' n' c') (D ++ D')) → Hid (Keep (fun _ => False) w W3) → wpList Tryz.prog ops P' rest (a.put o.dst (.slice a' n' c')) W3) : wpList Tryz.prog ops P' (o :: rest) a W2 := by
  obtain ⟨L, l, hb, hl⟩ := h1
  obtain ⟨L2, l2, hb2, hl2⟩ := h2
  have e1 : l.length = D.length := by rw [← hl, List.length_map]
  have e2 : l2.length = D'.length := by rw [← hl2, List.length_map]
  obtain ⟨ya, yc, rfl⟩ := own_shape hb2.own
  refine appE hgd s x 48 48 ho hs hx elem48 (Q := fun b => New w W1 b ∧ L b = 0) (n := l.length) (cs := cellsO l) (m := l2.length) (news := cellsO l2) (hb.own.on (fun b hb => k2.block b hb.1.2 (fun q => q))) (own_src' Tryz.underlying48 hb2.own (cellsO_one _)) (by omega) ?_
  intro v3 W3 hown hgrew hsz
  obtain ⟨a3, c3, rfl⟩ := own_shape hown
  have hB := Bod.grow hb k1.size k2 hb2.sets hown hgrew hsz (by omega)
  exact h a3 c3 _ W3 (by show _ = _; rw [List.length_append, e1, e2]) ⟨_, _, hB, by rw [List.map_append, hl, hl2]⟩ (keep_new (k1.trans k2) hgrew (fun b q => q.1.1))
theorem bodS {ops : Array Oper} {rest : List Oper} {o : Oper} {a : Act} {P' : Exit → Act → World → Prop} {w W1 W2 : World} (hgd : o.guard = none) (s x : Operand) (ho : o.op = .call { callee := .builtin .append, args := #[s, x], argTypes := #[48, 48] })
    {v : Value} {D : List OpD} {k z : Int} {ty : TypeId} (hs : a.eval s = v) (hx : a.eval x = .slice (some ⟨W2.heap.size, 0, none⟩) 1 1) (h1 : BodP (New w W1) W1 v D) (k1 : Keep (fun _ => False) w W1) (k2 : Keep (fun _ => False) W1 W2) (hlen : D.length + 1 ≤ 16777216)
    (h : ∀ a' c' n' W3, Hid (n' = (D ++ [opd k z]).length) → Hid (BodP (New w W3) W3 (.slice a' n' c') (D ++ [opd k z])) → Hid (Keep (fun _ => False) w W3) → wpList Tryz.prog ops P' rest (a.put o.dst (.slice a' n' c')) W3) : wpList Tryz.prog ops P' (o :: rest) a (W2.alloc (.cells #[.int .i64 k, .slice none 0 0, .int .i64 z] ty)) := by
  obtain ⟨L, l, hb, hl⟩ := h1
  have e1 : l.length = D.length := by rw [← hl, List.length_map]
  have k3 : Keep (fun _ => False) W1 (W2.alloc (.cells #[.int .i64 k, .slice none 0 0, .int .i64 z] ty)) := k2.trans (Keep.alloc _ _ _)
  refine appE hgd s x 48 48 ho hs hx elem48 (Q := fun b => New w W1 b ∧ L b = 0) (n := l.length) (cs := cellsO l) (m := 1) (news := cellsO [⟨opd k z, none, 0⟩]) (hb.own.on (fun b hb => k3.block b hb.1.2 (fun q => q))) (src_new (World.alloc_heap_new W2 _)) (by omega) ?_
  intro v3 W3 hown hgrew hsz
  obtain ⟨a', c', e, hB, hK⟩ := mk_snoc k z hb k1 k3 hl rfl hown hgrew hsz
  injection e with e
  subst e
  exact h a' c' _ W3 rfl hB hK
end
end Go.Proofs.YteoddjobpmmgeaaGreat
