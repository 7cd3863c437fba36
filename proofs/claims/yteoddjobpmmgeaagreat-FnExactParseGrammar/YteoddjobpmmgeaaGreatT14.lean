import Derived.Test.YteoddjobpmmgeaaGreatT13
set_option linter.unusedVariables false
set_option linter.unusedSimpArgs false
namespace Go.Proofs.YteoddjobpmmgeaaGreat
section
open Go.RowKit
open M (OpD NodeD Gr)
def seqD : List OpD → List (List Tok × List OpD) → List OpD
  | D, [] => D
  | D, p :: r => seqD (D ++ p.2 ++ [opd 4 0]) r
theorem seqD_len : ∀ (r : List (List Tok × List OpD)) (D : List OpD), D.length ≤ (seqD D r).length
  | [], D => Nat.le_refl _
  | p :: r, D => by
    have := seqD_len r (D ++ p.2 ++ [opd 4 0])
    rw [List.length_append, List.length_append] at this
    rw [seqD]
    omega
def flatT (ps : List (List Tok × List OpD)) : List Tok := ps.flatMap (·.1)
def PsOK (P : List Tok → List OpD → Prop) : List (List Tok × List OpD) → Prop
  | [] => True
  | p :: r => (partL (p.1 ++ flatT r) = p.1.length ∧ PartOK (p.1 ++ flatT r) ∧ 0 < p.1.length ∧ 0 < p.2.length ∧ P p.1 p.2) ∧ PsOK P r
set_option maxHeartbeats 1000000 in
set_option maxRecDepth 100000 in
theorem bb_seq (Q : Nat → Prop) (ra la : Option Addr) (rc lc nr nl : Nat) (p0 : List Tok × List OpD) (ps : List (List Tok × List OpD)) (D : List OpD) (w : World) (hD : seqD p0.2 ps = D) (hDl : D.length ≤ 1000000) (hbar : barS 0 0 (-1) (flatT (p0 :: ps)) = -1) (hl : (flatT (p0 :: ps)).length ≤ 1048576)
    (hP : PsOK (fun l D => BPc 36 Q ra la rc lc nr nl l D w) (p0 :: ps)) : BPc 17 Q ra la rc lc nr nl (flatT (p0 :: ps)) D w := by
  intro a c w' kw hT hc
  have hpos : 0 < (flatT (p0 :: ps)).length := by
    have := hP.1.2.2.1
    show 0 < (p0.1 ++ flatT ps).length
    rw [List.length_append]; omega
  obtain ⟨b, off, rfl, hcell⟩ := hT.at (i := 0) hpos
  obtain ⟨L, hL⟩ : ∃ L, flatT (p0 :: ps) = L := ⟨_, rfl⟩
  rw [hL] at hc hbar hl hpos hcell ⊢
  have HC : Hid (∀ i, i < L.length → ∃ x, L[i]? = some x ∧ w'.cell? ⟨b, off + i * 4, none⟩ = some (.int .u8 x.kind)) := fun i hi => ⟨_, List.getElem?_eq_getElem hi, (hcell i _ (List.getElem?_eq_getElem hi)).kind⟩
  have HT : Hid (∀ W k n, Keep (fun _ => False) w' W → TksA Q W (some ⟨b, off + k * 4, none⟩) ((L.drop k).take n)) := fun W k n hk => (TksA.sub hcell k n).later hk.bel
  have HP : Hid (PsOK (fun l D => BPc 36 Q ra la rc lc nr nl l D w') (p0 :: ps)) := by
    have go : ∀ qs, PsOK (fun l D => BPc 36 Q ra la rc lc nr nl l D w) qs → PsOK (fun l D => BPc 36 Q ra la rc lc nr nl l D w') qs := fun qs => by
      induction qs with
      | nil => exact fun _ => trivial
      | cons p r ih => exact fun h => ⟨⟨h.1.1, h.1.2.1, h.1.2.2.1, h.1.2.2.2.1, fun a c W hk => h.1.2.2.2.2 a c W (kw.trans hk)⟩, ih h.2⟩
    exact go _ hP
  clear hcell hT hP kw
  obtain ⟨B, hB⟩ : ∃ B : Int, barS 0 0 (-1) L = B := ⟨_, rfl⟩
  have HBE : Hid (B = -1) := hB.symm.trans hbar
  clear hbar
  go_enter Tryz.func17, Tryz.ntmps17
  go_wp2
  go_loopw [7, 8, 9] (fun v7 v8 v9 wr => ∃ (i : Nat) (d bar : Int), i ≤ L.length ∧ v7 = .int .i64 bar ∧ v8 = .int .i64 d ∧ v9 = .int .i64 i ∧ wr = w' ∧ -(i : Int) ≤ d ∧ d ≤ i ∧ barS i d bar (L.drop i) = B) (fun _ _ v9 _ => L.length - (intOf v9).toNat)
  case atStart => exact ⟨0, 0, -1, by omega, rfl, rfl, rfl, rfl, by omega, by omega, hB⟩
  case round =>
    obtain ⟨i, d, bar, hi, rfl, rfl, rfl, hwr, hd1, hd2, he⟩ := hrel
    obtain rfl := hwr.symm
    clear hB
    by_cases hlt : i < L.length
    · have hlt' : (i : Int) < (L.length : Int) := by omega
      obtain ⟨x, hx, k0⟩ := HC.out i hlt
      rw [barS_step hx] at he
      have HE : Hid (barS (i + 1) (dstep x.kind d) (if x.kind = 47 ∧ d = 0 then i else bar) (L.drop (i + 1)) = B) := he
      clear he hx HC HP
      by_cases h40 : x.kind = 40
      · have e := HE.out
        rw [h40, dstep_o, if_neg (by omega)] at e
        rw [h40] at k0
        have HE2 : Hid (barS (i + 1) (d + 1) bar (L.drop (i + 1)) = B) := e
        clear e HE
        go_wp2
        go_roundw
        case rel => exact ⟨i + 1, d + 1, bar, by omega, rfl, by go_num, by go_num, by trivial, by omega, by omega, HE2.out⟩
        case measure => simp [intOf]; omega
      have y1 : (x.kind == 40) = false := by simpa using h40
      by_cases h41 : x.kind = 41
      · have e := HE.out
        rw [h41, dstep_c, if_neg (by omega)] at e
        rw [h41] at k0
        have HE2 : Hid (barS (i + 1) (d - 1) bar (L.drop (i + 1)) = B) := e
        clear e HE y1
        go_wp2
        go_roundw
        case rel => exact ⟨i + 1, d - 1, bar, by omega, rfl, by go_num, by go_num, by trivial, by omega, by omega, HE2.out⟩
        case measure => simp [intOf]; omega
      have y2 : (x.kind == 41) = false := by simpa using h41
      have e := HE.out
      rw [dstep_else h40 h41] at e
      by_cases h47 : x.kind = 47 ∧ d = 0
      · rw [if_pos h47] at e
        obtain ⟨q1, rfl⟩ := h47
        rw [q1] at k0
        have HE2 : Hid (barS (i + 1) 0 i (L.drop (i + 1)) = B) := e
        clear e HE y1 y2
        go_wp2
        go_roundw
        case rel => exact ⟨i + 1, 0, i, by omega, rfl, rfl, by go_num, by trivial, by omega, by omega, HE2.out⟩
        case measure => simp [intOf]; omega
      · rw [if_neg h47] at e
        have HE2 : Hid (barS (i + 1) d bar (L.drop (i + 1)) = B) := e
        clear e HE
        by_cases h : x.kind = 47
        · have hd0 : (d == 0) = false := by simpa using fun q => h47 ⟨h, q⟩
          rw [h] at k0
          clear y1 y2 h47 h
          go_wp2
          go_roundw
          case rel => exact ⟨i + 1, d, bar, by omega, rfl, rfl, by go_num, by trivial, by omega, by omega, HE2.out⟩
          case measure => simp [intOf]; omega
        · have y3 : (x.kind == 47) = false := by simpa using h
          go_wp2
          go_roundw
          case rel => exact ⟨i + 1, d, bar, by omega, rfl, rfl, by go_num, by trivial, by omega, by omega, HE2.out⟩
          case measure => simp [intOf]; omega
    · have hlt' : ¬ (i : Int) < (L.length : Int) := by omega
      have e : bar = B := by
        rw [List.drop_of_length_le (by omega), barS] at he
        exact he
      rw [HBE.out] at e
      subst e
      clear he HC HBE
      have hz : ¬ (L.length : Int) = 0 := by omega
      have HLL : Hid (flatT (p0 :: ps) = L) := hL
      have HDD : Hid (seqD p0.2 ps = D) := hD
      clear hL hD
      go_wp2_with fail
      go_loopw [12, 13] (fun v12 v13 W => ∃ (i : Nat) (rest : List (List Tok × List OpD)) (Dk : List OpD) (n1 : Nat) (a1 : Option Addr) (c1 : Nat), i ≤ L.length ∧ v13 = .int .i64 i ∧ v12 = .slice a1 n1 c1 ∧ n1 = Dk.length ∧ L.drop i = flatT rest ∧ ((i = 0 ∧ Dk = [] ∧ rest = p0 :: ps) ∨ (0 < i ∧ seqD Dk rest = D)) ∧ PsOK (fun l D => BPc 36 Q ra la rc lc nr nl l D w') rest ∧ BodP (New w' W) W (.slice a1 n1 c1) Dk ∧ Keep (fun _ => False) w' W) (fun _ v13 _ => L.length - (intOf v13).toNat)
      case atStart => exact ⟨0, p0 :: ps, [], 0, none, 0, by omega, rfl, rfl, rfl, by rw [List.drop_zero, HLL.out], .inl ⟨rfl, rfl, rfl⟩, HP.out, BodP.nil _ _, Keep.refl _ _⟩
      case round =>
        obtain ⟨j, rest, Dk, n1, a1, c1, hj, rfl, rfl, hn1, hdr, hst, hok, hB1, hK1⟩ := hrel
        have HN : Hid (n1 = Dk.length) := hn1
        have HB1 : Hid (BodP (New w' wr) wr (.slice a1 n1 c1) Dk) := hB1
        have HK1 : Hid (Keep (fun _ => False) w' wr) := hK1
        have HST : Hid ((j = 0 ∧ Dk = [] ∧ rest = p0 :: ps) ∨ (0 < j ∧ seqD Dk rest = D)) := hst
        clear hn1 hB1 hK1 hst HP
        by_cases hjl : j < L.length
        · have hjl' : (j : Int) < (L.length : Int) := by omega
          cases rest with
          | nil =>
            have : (L.drop j).length = 0 := by rw [hdr]; rfl
            rw [List.length_drop] at this
            omega
          | cons p r =>
            obtain ⟨⟨q1, q2, q3, q4, q5⟩, hok'⟩ := hok
            have hdr1 : L.drop j = p.1 ++ flatT r := hdr
            have hdl : (L.drop j).length = p.1.length + (flatT r).length := by rw [hdr1, List.length_append]
            rw [List.length_drop] at hdl
            have hdr2 : L.drop (j + p.1.length) = flatT r := by rw [← List.drop_drop, hdr1, List.drop_left]
            have HPT : Hid (Calls Tryz.prog 35 #[.slice (some ⟨b, off + j * 4, none⟩) (L.length - j) (c - j)] wr fun e w1 => e = .returned (.int .i64 (p.1.length : Nat)) ∧ w1 = wr) := by
              have h := l2part_any Q (L.drop j) (some ⟨b, off + j * 4, none⟩) (c - j) wr (by
                have := HT.out wr j (L.drop j).length HK1.out
                rwa [List.take_length] at this) (by rw [List.length_drop]; omega) (by rw [hdr1]; exact q2)
              rw [List.length_drop, hdr1, q1] at h
              exact h
            have HBP : Hid (Calls Tryz.prog 36 #[.slice (some ⟨b, off + j * 4, none⟩) p.1.length (c - j), .slice ra nr rc, .slice la nl lc] wr (Mk p.2 wr)) := by
              refine q5 _ (c - j) wr HK1.out ?_ (by omega)
              have := HT.out wr j p.1.length HK1.out
              rwa [hdr1, List.take_left] at this
            have hjm : j + p.1.length ≤ L.length := by omega
            clear q1 q2 q5 hdr hdr1 hdl
            have hcj : ¬ c - j = 0 := by omega
            have hcj' : ¬ c = j := by omega
            have hq : j + p.1.length - j = p.1.length := by omega
            have hjp : (j : Int) + (p.1.length : Int) ≤ (c : Int) := by omega
            have hjp2 : (j : Int) ≤ (j : Int) + (p.1.length : Int) := by omega
            have HOK : Hid (PsOK (fun l D => BPc 36 Q ra la rc lc nr nl l D w') r) := hok'
            have HDR : Hid (L.drop (j + p.1.length) = flatT r) := hdr2
            have HDL : Hid (Dk.length + p.2.length + 1 ≤ 16777216) := by
              show Dk.length + p.2.length + 1 ≤ 16777216
              rcases HST.out with ⟨_, h1, h2⟩ | ⟨_, h2⟩
              · injection h2 with h2 h3
                subst h2 h3 h1
                have := seqD_len r p.2
                rw [HDD.out] at this
                simp
                omega
              · rw [seqD] at h2
                have := seqD_len r (Dk ++ p.2 ++ [opd 4 0])
                rw [h2, List.length_append, List.length_append, List.length_singleton] at this
                omega
            clear hok' hdr2
            go_wp2_with fail
            refine HPT.out.mono ?_
            rintro e W ⟨rfl, hw⟩
            subst W
            go_wp2_with fail
            refine HBP.out.mono ?_
            rintro e W4 ⟨a2, c2, rfl, hB2, hK2⟩
            have HB2 : Hid (BodP (New wr W4) W4 (.slice a2 p.2.length c2) p.2) := hB2
            have HK2 : Hid (Keep (fun _ => False) wr W4) := hK2
            clear hB2 hK2 HPT HBP
            by_cases hj0 : j = 0
            · subst hj0
              go_wp2_with (at_builtin; refine bodA rfl _ _ rfl rfl rfl HB1.out HK1.out HB2.out HK2.out (by have := HDL.out; omega) q4 ?_; intro a3 c3 n3 W5 hn3 hb3 hk3)
              go_roundw
              case rel =>
                rcases HST.out with ⟨_, h1, h2⟩ | ⟨h1, _⟩
                · injection h2 with h2 h3
                  refine ⟨p.1.length, r, Dk ++ p.2, n3, a3, c3, by omega, by simp, rfl, hn3.out, by have := HDR.out; rwa [Nat.zero_add] at this, .inr ⟨q3, ?_⟩, HOK.out, hb3.out, hk3.out⟩
                  rw [h1, h2, h3, List.nil_append]
                  exact HDD.out
                · omega
              case measure => simp [intOf]; omega
            · have hj1 : (0 : Int) < (j : Int) := by omega
              go_wp2_with (first | (at_builtin; refine bodA rfl _ _ rfl rfl rfl HB1.out HK1.out HB2.out HK2.out (by have := HDL.out; omega) q4 ?_; intro a3 c3 n3 W5 hn3 hb3 hk3) | (at_builtin; refine bodS (W1 := W5) (W2 := W5) rfl _ _ rfl rfl rfl hb3.out hk3.out (Keep.refl _ _) (by have := HDL.out; rw [List.length_append]; omega) ?_; intro a4 c4 n4 W6 hn4 hb4 hk4))
              go_roundw
              case rel =>
                rcases HST.out with ⟨h1, _⟩ | ⟨_, h2⟩
                · exact absurd h1 hj0
                · exact ⟨j + p.1.length, r, Dk ++ p.2 ++ [opd 4 0], n4, a4, c4, by omega, by simp, rfl, hn4.out, HDR.out, .inr ⟨by omega, by rw [seqD] at h2; exact h2⟩, HOK.out, hb4.out, hk4.out⟩
              case measure => simp [intOf]; omega
        · have hjl' : ¬ (j : Int) < (L.length : Int) := by omega
          cases rest with
          | cons p r =>
            have h3 := hok.1.2.2.1
            have : (L.drop j).length = (p.1 ++ flatT r).length := by rw [hdr]; rfl
            rw [List.length_drop, List.length_append] at this
            omega
          | nil =>
            have e : Dk = D := by
              rcases HST.out with ⟨h1, _, h2⟩ | ⟨_, h2⟩
              · omega
              · exact h2
            go_wp2
            go_ret
            have h1 := HB1.out
            rw [HN.out, e] at h1
            exact ⟨a1, c1, by rw [HN.out, e]; rfl, h1, HK1.out⟩
end
section
open Go.RowKit
open M (OpD NodeD Gr)
set_option maxHeartbeats 1000000 in
set_option maxRecDepth 100000 in
theorem bb_emp (Q : Nat → Prop) (ra la : Option Addr) (rc lc nr nl : Nat) (w : World) : BPc 17 Q ra la rc lc nr nl [] (leafD 0 0) w := by
  intro a c w' kw hT hc
  show Calls Tryz.prog 17 #[.slice a 0 c, _, _] w' _
  clear hT hc kw
  go_enter Tryz.func17, Tryz.ntmps17
  go_wp2
  go_loopw [7, 8, 9] (fun v7 v8 v9 wr => v7 = .int .i64 (-1) ∧ v8 = .int .i64 0 ∧ v9 = .int .i64 0 ∧ w' = wr) (fun _ _ _ _ => 0)
  case atStart => exact ⟨rfl, rfl, rfl, rfl⟩
  case round =>
    obtain ⟨rfl, rfl, rfl, rfl⟩ := hrel
    go_wp2_with fail
    refine (l2leaf_any 0 0 _).mono ?_
    intro e W hM
    have HM : Hid (Mk (leafD 0 0) w' e W) := hM
    clear hM
    obtain ⟨a2, c2, rfl, h2, h3⟩ := HM.out
    clear h2 h3
    go_wp2
    go_ret
    exact HM.out
def TokOK (t : Tok) : Prop := BytL t.nm ∧ t.nm.length ≤ 400000 ∧ t.set.length ≤ 1048576
theorem seqD_snoc : ∀ (ps : List (List Tok × List OpD)) (D : List OpD) (q : List Tok × List OpD), seqD D (ps ++ [q]) = seqD D ps ++ q.2 ++ [opd 4 0]
  | [], D, q => rfl
  | p :: r, D, q => by rw [List.cons_append, seqD, seqD, seqD_snoc r]
theorem flatT_app (a b : List (List Tok × List OpD)) : flatT (a ++ b) = flatT a ++ flatT b := by simp [flatT]
theorem ops_pos (rs ls : List (List Int)) : ∀ e : PE, 0 < (e.ops rs ls).length := by
  intro e
  cases e with
  | str t =>
    show 0 < (strOps t.nm).length
    cases t.nm with
    | nil => simp [strOps, leafD]
    | cons x r => rw [strOps, strOps_len]; simp [setD]; omega
  | grp o e c => exact ops_pos rs ls e
  | _ => simp [PE.ops, leafD, setD, unD, binD] <;> omega
theorem SmD.sub {D D' : List OpD} (h : SmD D) (hl : D'.length ≤ D.length) (hs : ∀ x ∈ D', x ∈ D) : SmD D' := ⟨Nat.le_trans hl h.1, fun x hx => h.2 x (hs x hx)⟩
theorem build_any (Q : Nat → Prop) (ra la : Option Addr) (rc lc : Nat) (rs ls : List (List Int)) (w : World) (hN : Nms Q w ra la rs ls) : ∀ e : PE, (∀ t ∈ e.tk, TokOK t) → e.tk.length ≤ 1048000 → SmD (e.ops rs ls) →
    (e.ok 2 → BPc 36 Q ra la rc lc rs.length ls.length e.tk (e.ops rs ls) w) ∧ (e.ok 5 → BPc 17 Q ra la rc lc rs.length ls.length e.tk (e.ops rs ls) w) ∧
    (e.ok 3 → ∃ p0 ps, flatT (p0 :: ps) = e.tk ∧ seqD p0.2 ps = e.ops rs ls ∧ ∀ qs, PsOK (fun l D => BPc 36 Q ra la rc lc rs.length ls.length l D w) qs → kAt (flatT qs) 0 ≠ 42 → kAt (flatT qs) 0 ≠ 63 → PsOK (fun l D => BPc 36 Q ra la rc lc rs.length ls.length l D w) (p0 :: ps ++ qs)) := by
  have fromParts : ∀ e : PE, e.tk.length ≤ 1048000 → SmD (e.ops rs ls) → e.ok 4 → (∃ p0 ps, flatT (p0 :: ps) = e.tk ∧ seqD p0.2 ps = e.ops rs ls ∧ ∀ qs, PsOK (fun l D => BPc 36 Q ra la rc lc rs.length ls.length l D w) qs → kAt (flatT qs) 0 ≠ 42 → kAt (flatT qs) 0 ≠ 63 → PsOK (fun l D => BPc 36 Q ra la rc lc rs.length ls.length l D w) (p0 :: ps ++ qs)) → BPc 17 Q ra la rc lc rs.length ls.length e.tk (e.ops rs ls) w := fun e hl hD h4 ⟨p0, ps, e1, e2, e3⟩ => by
    have hp := e3 [] trivial (by show (0 : Int) ≠ 42; omega) (by show (0 : Int) ≠ 63; omega)
    rw [List.append_nil] at hp
    have hb := bar_none e h4
    rw [← e1] at hb hl ⊢
    exact bb_seq Q ra la rc lc rs.length ls.length p0 ps _ w e2 hD.1 hb (by omega) hp
  have one : ∀ e : PE, e.ok 2 → BPc 36 Q ra la rc lc rs.length ls.length e.tk (e.ops rs ls) w → ∃ p0 ps, flatT (p0 :: ps) = e.tk ∧ seqD p0.2 ps = e.ops rs ls ∧ ∀ qs, PsOK (fun l D => BPc 36 Q ra la rc lc rs.length ls.length l D w) qs → kAt (flatT qs) 0 ≠ 42 → kAt (flatT qs) 0 ≠ 63 → PsOK (fun l D => BPc 36 Q ra la rc lc rs.length ls.length l D w) (p0 :: ps ++ qs) := fun e h2 hb =>
    ⟨(e.tk, e.ops rs ls), [], by simp [flatT], rfl, fun qs hq h1 h3 => ⟨⟨part_len e h2 _ h1 h3, part_ok e h2 _, (part_head e h2 []).2.2, ops_pos rs ls e, hb⟩, hq⟩⟩
  have part : ∀ e : PE, e.tk.length ≤ 1048000 → SmD (e.ops rs ls) → (∀ l, e.ok l → l ≤ 5 → e.ok 2) → (e.ok 2 → BPc 36 Q ra la rc lc rs.length ls.length e.tk (e.ops rs ls) w) → (e.ok 2 → BPc 36 Q ra la rc lc rs.length ls.length e.tk (e.ops rs ls) w) ∧ (e.ok 5 → BPc 17 Q ra la rc lc rs.length ls.length e.tk (e.ops rs ls) w) ∧
    (e.ok 3 → ∃ p0 ps, flatT (p0 :: ps) = e.tk ∧ seqD p0.2 ps = e.ops rs ls ∧ ∀ qs, PsOK (fun l D => BPc 36 Q ra la rc lc rs.length ls.length l D w) qs → kAt (flatT qs) 0 ≠ 42 → kAt (flatT qs) 0 ≠ 63 → PsOK (fun l D => BPc 36 Q ra la rc lc rs.length ls.length l D w) (p0 :: ps ++ qs)) := fun e hl hD hdown hb =>
    ⟨hb, fun h5 => fromParts e hl hD (PE.ok_mono e (by omega) (hdown 5 h5 (by omega))) (one e (hdown 5 h5 (by omega)) (hb (hdown 5 h5 (by omega)))), fun h3 => one e (hdown 3 h3 (by omega)) (hb (hdown 3 h3 (by omega)))⟩
  intro e
  induction e with
  | ref t => exact fun ht hl hD => part _ hl hD (fun l h _ => h) (fun h a c w' kw hT hc => bp_ref Q t a ra la c rc lc rs ls w' hT (hN.later kw.bel) h (ht t (by simp [PE.tk])).1 hc)
  | thr c t => exact fun ht hl hD => part _ hl hD (fun l h _ => h) (fun h a cc w' kw hT hc => bp_thr Q c t a ra la cc rc lc rs ls w' hT (hN.later kw.bel) h.1 h.2 (ht t (by simp [PE.tk])).1 hc)
  | str t => exact fun ht hl hD => part _ hl hD (fun l h _ => h) (fun h => bp_str Q ra la rc lc rs.length ls.length t w h (ht t (by simp [PE.tk])).2.1 (ht t (by simp [PE.tk])).1)
  | cls t => exact fun ht hl hD => part _ hl hD (fun l h _ => h) (fun h a c w' kw hT hc => bp_cls Q t a ra la c rc lc rs.length ls.length w' hT h (ht t (by simp [PE.tk])).2.2 hc)
  | dot t => exact fun ht hl hD => part _ hl hD (fun l h _ => h) (fun h a c w' kw hT hc => bp_dot Q t a ra la c rc lc rs.length ls.length w' hT h hc)
  | grp o e c ih =>
    intro ht hl hD
    have hlen : (PE.grp o e c).tk.length = e.tk.length + 2 := by simp [PE.tk]
    refine part _ hl hD (fun l h _ => h) (fun h => ?_)
    have := (ih (fun t q => ht t (by simp [PE.tk, q])) (by omega) hD).2.1 h.2.2
    exact bp_grp Q ra la rc lc rs.length ls.length o c e.tk _ w h.1 h.2.1 (by omega) this
  | star e t ih =>
    intro ht hl hD
    have hlen : (PE.star e t).tk.length = e.tk.length + 1 := by simp [PE.tk]
    have hD' : SmD (e.ops rs ls) := hD.sub (by simp [PE.ops, unD]) (fun x hx => by simp [PE.ops, unD, hx])
    refine part _ hl hD (fun l h _ => ⟨by omega, h.2⟩) (fun h => ?_)
    have h2 : e.ok 2 := PE.ok_mono e (by omega) h.2.2
    have := (ih (fun t q => ht t (by simp [PE.tk, q])) (by omega) hD').1 h2
    have hp := prim_len e h.2.2 []
    have hh := part_head e h2 []
    rw [List.append_nil] at hp hh
    have hk : ¬ (kAt e.tk 0 = 33 ∨ kAt e.tk 0 = 38) := fun q => by
      cases hq : e.tk with
      | nil => rw [hq] at hh; simp at hh
      | cons x r =>
        rw [hq] at hp q
        have hp1 := hp.1
        rw [preL, if_pos (show x.kind = 33 ∨ x.kind = 38 from q)] at hp1
        omega
    exact bp_star Q ra la rc lc rs.length ls.length t e.tk _ w h.2.1 (by omega) hh.2.2 (fun q => hk (.inl q)) (fun q => hk (.inr q)) hD' this
  | opt e t ih =>
    intro ht hl hD
    have hlen : (PE.opt e t).tk.length = e.tk.length + 1 := by simp [PE.tk]
    have hD' : SmD (e.ops rs ls) := hD.sub (by simp [PE.ops, binD]) (fun x hx => by simp [PE.ops, binD, hx])
    refine part _ hl hD (fun l h _ => ⟨by omega, h.2⟩) (fun h => ?_)
    have h2 : e.ok 2 := PE.ok_mono e (by omega) h.2.2
    have := (ih (fun t q => ht t (by simp [PE.tk, q])) (by omega) hD').1 h2
    have hp := prim_len e h.2.2 []
    have hh := part_head e h2 []
    rw [List.append_nil] at hp hh
    have hk : ¬ (kAt e.tk 0 = 33 ∨ kAt e.tk 0 = 38) := fun q => by
      cases hq : e.tk with
      | nil => rw [hq] at hh; simp at hh
      | cons x r =>
        rw [hq] at hp q
        have hp1 := hp.1
        rw [preL, if_pos (show x.kind = 33 ∨ x.kind = 38 from q)] at hp1
        omega
    exact bp_opt Q ra la rc lc rs.length ls.length t e.tk _ w h.2.1 (by omega) hh.2.2 (fun q => hk (.inl q)) (fun q => hk (.inr q)) hD' this
  | not t e ih =>
    intro ht hl hD
    have hlen : (PE.not t e).tk.length = e.tk.length + 1 := by simp [PE.tk]
    have hD' : SmD (e.ops rs ls) := hD.sub (by simp [PE.ops, unD]) (fun x hx => by simp [PE.ops, unD, hx])
    refine part _ hl hD (fun l h _ => ⟨by omega, h.2⟩) (fun h => ?_)
    have := (ih (fun t q => ht t (by simp [PE.tk, q])) (by omega) hD').1 h.2.2
    exact bp_not Q ra la rc lc rs.length ls.length t e.tk _ w h.2.1 (by omega) (part_head e h.2.2 []).2.2 hD' this
  | amp t e ih =>
    intro ht hl hD
    have hlen : (PE.amp t e).tk.length = e.tk.length + 1 := by simp [PE.tk]
    have hD' : SmD (e.ops rs ls) := hD.sub (by simp [PE.ops, unD]) (fun x hx => by simp [PE.ops, unD, hx])
    have hD2 : SmD (unD 7 (e.ops rs ls)) := hD.sub (by simp [PE.ops, unD]) (fun x hx => by simp [PE.ops, unD] at hx ⊢; rcases hx with h | h <;> simp [h])
    refine part _ hl hD (fun l h _ => ⟨by omega, h.2⟩) (fun h => ?_)
    have := (ih (fun t q => ht t (by simp [PE.tk, q])) (by omega) hD').1 h.2.2
    exact bp_amp Q ra la rc lc rs.length ls.length t e.tk _ w h.2.1 (by omega) (part_head e h.2.2 []).2.2 hD' hD2 this
  | emp => exact fun _ _ _ => ⟨fun h => absurd h (by show ¬ (4 ≤ 2); omega), fun _ => bb_emp Q ra la rc lc rs.length ls.length w, fun h => absurd h (by show ¬ (4 ≤ 3); omega)⟩
  | seq a b iha ihb =>
    intro ht hl hD
    have hlen : (PE.seq a b).tk.length = a.tk.length + b.tk.length := by simp [PE.tk]
    have hDa : SmD (a.ops rs ls) := hD.sub (by simp [PE.ops, binD]) (fun x hx => by simp [PE.ops, binD, hx])
    have hDb : SmD (b.ops rs ls) := hD.sub (by simp [PE.ops, binD]; omega) (fun x hx => by simp [PE.ops, binD, hx])
    have parts : a.ok 3 → b.ok 2 → ∃ p0 ps, flatT (p0 :: ps) = (PE.seq a b).tk ∧ seqD p0.2 ps = (PE.seq a b).ops rs ls ∧ ∀ qs, PsOK (fun l D => BPc 36 Q ra la rc lc rs.length ls.length l D w) qs → kAt (flatT qs) 0 ≠ 42 → kAt (flatT qs) 0 ≠ 63 → PsOK (fun l D => BPc 36 Q ra la rc lc rs.length ls.length l D w) (p0 :: ps ++ qs) := fun ha hb => by
      obtain ⟨p0, ps, e1, e2, e3⟩ := (iha (fun t q => ht t (by simp [PE.tk, q])) (by omega) hDa).2.2 ha
      have hbb := (ihb (fun t q => ht t (by simp [PE.tk, q])) (by omega) hDb).1 hb
      refine ⟨p0, ps ++ [(b.tk, b.ops rs ls)], ?_, ?_, fun qs hq h1 h2 => ?_⟩
      · rw [← List.cons_append, flatT_app, e1]; simp [flatT, PE.tk]
      · rw [seqD_snoc, e2]; rfl
      · have hq' : PsOK (fun l D => BPc 36 Q ra la rc lc rs.length ls.length l D w) ((b.tk, b.ops rs ls) :: qs) := ⟨⟨part_len b hb _ h1 h2, part_ok b hb _, (part_head b hb []).2.2, ops_pos rs ls b, hbb⟩, hq⟩
        have hh := part_head b hb (flatT qs)
        have := e3 _ hq' hh.1 hh.2.1
        rw [← List.cons_append, List.append_assoc]
        exact this
    exact ⟨fun h => absurd h.1 (by omega), fun h => fromParts _ hl hD ⟨by omega, h.2⟩ (parts h.2.1 h.2.2), fun h => parts h.2.1 h.2.2⟩
  | alt a t b iha ihb =>
    intro ht hl hD
    have hlen : (PE.alt a t b).tk.length = a.tk.length + (b.tk.length + 1) := by simp [PE.tk]
    have hDa : SmD (a.ops rs ls) := hD.sub (by simp [PE.ops, binD]) (fun x hx => by simp [PE.ops, binD, hx])
    have hDb : SmD (b.ops rs ls) := hD.sub (by simp [PE.ops, binD]; omega) (fun x hx => by simp [PE.ops, binD, hx])
    refine ⟨fun h => absurd h.1 (by omega), fun h => ?_, fun h => absurd h.1 (by omega)⟩
    have ha := (iha (fun t q => ht t (by simp [PE.tk, q])) (by omega) hDa).2.1 h.2.2.1
    have hb := (ihb (fun t q => ht t (by simp [PE.tk, q])) (by omega) hDb).2.1 (PE.ok_mono b (by omega) h.2.2.2)
    have hx := hDa.1
    have hy := hDb.1
    exact bb_alt Q ra la rc lc rs.length ls.length t a.tk b.tk _ _ w (by omega) (bar_alt a t b h) (ops_pos rs ls b) (by omega) ha hb
end
end Go.Proofs.YteoddjobpmmgeaaGreat
