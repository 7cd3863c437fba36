/-
  Walks: the specification's PrintGrammar.
-/
import Derived.Test.YtjpcojabdjldbaaSTxt
import Derived.Test.YtjpcojabdjldbaaByteM
namespace Go.Proofs.Ytjpcojabdjldbaa
open Go.RowKit
open M (OpD NodeD Gr TX b1)
set_option linter.unusedVariables false
set_option linter.unusedSimpArgs false

/-- The text that is printed of a grammar. -/
def Txt (g : Gr) (s : ByteArray) : Prop := (M.Valid g ∧ s = gText g) ∨ (¬ M.Valid g ∧ s = ByteArray.empty)
theorem txt_some (g : Gr) : ∃ s, Txt g s ∧ s.size ≤ 2700000 := by
  by_cases h : M.Valid g
  · exact ⟨_, .inl ⟨h, rfl⟩, labsT_bd h g.nb (Nat.le_refl _)⟩
  · exact ⟨_, .inr ⟨h, rfl⟩, by simp⟩

def spI (W1 : World) (n : Nat) (f : Nat → ByteArray) (ov iv : Value) (wr : World) : Prop := ∃ k : Nat, k ≤ n ∧ iv = .int .i64 (k : Int) ∧ ov = .string (f k) ∧ Below W1.heap.size W1 wr
def SPrintIs (s : ByteArray) (w : World) (e : Ending) (w' : World) : Prop := ∃ a c, e = .returned (.slice a s.size c) ∧ Ints (New w w') .u8 w' a s.size (bT s) ∧ Below w.heap.size w w'

theorem RuleX.body_cap {Q : Nat → Prop} {w : World} {b o : Nat} {d : NodeD} (h : RuleX Q w b o d) : ∃ na nc ba bc, w.cell? ⟨b, o, none⟩ = some (.slice na d.nl nc) ∧ Ints Q .u8 w na d.nl d.name ∧ w.cell? ⟨b, o + 1, none⟩ = some (.slice ba d.bl bc) ∧ OpsA Q w ba d.bl d.body ∧ d.bl ≤ bc := by
  obtain ⟨⟨⟨na, nc, c0, hn⟩, ⟨a0, c0', k0, hb0⟩⟩, ⟨ba, bc, c1, hcap⟩⟩ := h
  rw [c1] at k0
  simp at k0
  obtain ⟨rfl, rfl⟩ := k0
  exact ⟨na, nc, _, _, c0, hn, c1, hb0, hcap⟩
theorem LabX.body_cap {Q : Nat → Prop} {w : World} {b o : Nat} {d : NodeD} (h : LabX Q w b o d) : ∃ na nc ba bc, w.cell? ⟨b, o, none⟩ = some (.slice na d.nl nc) ∧ Ints Q .u8 w na d.nl d.name ∧ w.cell? ⟨b, o + 1, none⟩ = some (.bool d.has) ∧ w.cell? ⟨b, o + 2, none⟩ = some (.slice ba d.bl bc) ∧ OpsA Q w ba d.bl d.body ∧ d.bl ≤ bc := by
  obtain ⟨⟨⟨na, nc, c0, hn⟩, hh, ⟨a0, c0', k0, hb0⟩⟩, ⟨ba, bc, c1, hcap⟩⟩ := h
  rw [c1] at k0
  simp at k0
  obtain ⟨rfl, rfl⟩ := k0
  exact ⟨na, nc, _, _, c0, hn, hh, c1, hb0, hcap⟩

set_option maxRecDepth 100000 in
set_option maxHeartbeats 16000000 in
theorem sprint_any (Q : Nat → Prop) (ra la : Option Addr) (rc lc : Nat) (g : Gr) (s : ByteArray) (w : World) (hG : GramX Q w ra la g) (hs : SmallG g) (hT : Txt g s) :
    Calls Try.prog 18 #[.agg #[.slice ra g.nr rc, .slice la g.nb lc]] w (SPrintIs s w) := by
  have HG : Hid (GramX Q w ra la g) := hG
  have HS : Hid (SmallG g) := hs
  have HT : Hid (Txt g s) := hT
  clear hG hs hT
  go_enter Try.func18, Try.ntmps18
  go_wp2_with fail
  refine (svalid_any Q ra la rc lc g _ (HG.out.later (bel1 w _)).plain HS.out).mono ?_
  rintro e W1 ⟨⟨r, rfl, hr⟩, hb⟩
  have g0 := cell_on (a := ⟨w.heap.size, 0, none⟩) (v := .slice ra g.nr rc) (cN w.heap.size rfl rfl) hb
  have g1 := cell_on (a := ⟨w.heap.size, 1, none⟩) (v := .slice la g.nb lc) (cN w.heap.size rfl rfl) hb
  have B1 : Hid (Below w.heap.size w W1) := bel_tr (bel1 w _) hb
  have hw1 : w.heap.size < W1.heap.size := lt_of_cell g0
  clear hb
  cases r with
  | false =>
    have HV : Hid (s = ByteArray.empty) := by
      rcases HT.out with ⟨q, _⟩ | ⟨_, q⟩
      · exact absurd (hr.2 q) (by decide)
      · exact q
    clear hr
    go_wp2
    go_ret
    exact ⟨none, 0, by rw [HV.out]; rfl, .inl (by rw [HV.out]; rfl), B1.out⟩
  | true =>
    have HV : Hid (M.Valid g) := hr.1 rfl
    have HSG : Hid (s = gText g) := by
      rcases HT.out with ⟨_, q⟩ | ⟨q, _⟩
      · exact q
      · exact absurd (hr.1 rfl) q
    clear hr
    have h1 := HV.out.r2
    have h2 := HV.out.l2
    have HG1 : Hid (GramX Q W1 ra la g) := HG.out.later B1.out
    have G0 : Hid (W1.cell? ⟨w.heap.size, 0, none⟩ = some (.slice ra g.nr rc)) := g0
    have G1 : Hid (W1.cell? ⟨w.heap.size, 1, none⟩ = some (.slice la g.nb lc)) := g1
    go_wp2
    go_loopw [3, 4] (fun ov iv wr => spI W1 g.nr (rulesT g) ov iv wr) (fun _ iv _ => g.nr - (intOf iv).toNat)
    case atStart => exact ⟨0, Nat.zero_le _, rfl, rfl, Below.refl _ _⟩
    case round =>
      obtain ⟨k, hk, rfl, rfl, hbel⟩ := hrel
      have HB1 : Hid (Below W1.heap.size W1 wr) := hbel
      have y0 := cell_on G0.out hbel
      have y1 := cell_on G1.out hbel
      clear g0 g1 hbel
      by_cases hlt : k < g.nr
      · have hlt' : (k : Int) < (g.nr : Int) := by omega
        rcases HG1.out.rules with q | ⟨b, off, rfl, hq, hR⟩
        · omega
        obtain ⟨na, nc, ba, bc, c0, hn, c1, hb, hcap⟩ := (hR k hlt).body_cap
        obtain ⟨ι, hne, F, hF, hF'⟩ := family wr
        have hBW : ∀ n, Below W1.heap.size W1 (F n) := fun n => bel_tr HB1.out (hF n)
        have f0 : ∀ n, (F n).cell? ⟨w.heap.size, 0, none⟩ = some (.slice (some ⟨b, off, none⟩) g.nr rc) := fun n => cell_on y0 (hF n)
        have f1 : ∀ n, (F n).cell? ⟨w.heap.size, 1, none⟩ = some (.slice la g.nb lc) := fun n => cell_on y1 (hF n)
        have f2 : ∀ n, (F n).cell? ⟨b, off + k * 2, none⟩ = some (.slice na (g.rule k).nl nc) := fun n => cell_on c0 (hBW n)
        have f3 : ∀ n, (F n).cell? ⟨b, off + k * 2 + 1, none⟩ = some (.slice ba (g.rule k).bl bc) := fun n => cell_on c1 (hBW n)
        have hcv : ∀ n, (convert 22 9 (.slice na (g.rule k).nl nc)).run Try.prog (F n) = .ok (.string (rname g k)) (F n) := fun n => conv_run Q na (g.rule k).nl nc (g.rule k).name _ (hn.later (hBW n))
        have HC : Hid (∃ n, wr.drew = F n) := hF' _ (Below.refl _ wr).drew
        have HFA : Hid (∀ n, Below wr.heap.size wr (F n)) := hF
        have HFB : Hid (∀ W, Below wr.heap.size wr W → ∃ n, W = F n) := hF'
        have HBW : Hid (∀ n, Below W1.heap.size W1 (F n)) := hBW
        have HN : Hid (∀ n, OpsA Q (F n) ba (g.rule k).bl (g.rule k).body) := fun n => hb.later (hBW n)
        have HGF : Hid (∀ n, GramA Q (F n) (some ⟨b, off, none⟩) la g) := fun n => (HG1.out.later (hBW n)).plain
        have HBO : Hid (M.BodyOK g.nr g.nb (g.rule k).bl (g.rule k).body) := HV.out.rb k hlt
        have HCP : Hid ((g.rule k).bl ≤ bc) := hcap
        have HLB : Hid ((g.rule k).bl ≤ 2000) := rbl_bd HV.out hlt
        have hs1 := (rname_size HV.out hlt).2
        have hs2 := tree_size HV.out (HV.out.rb k hlt)
        have hs3 := rulesT_bd HV.out k hk
        have hs4 := rbl_bd HV.out hlt
        have HRT : Hid (rulesT g (k + 1) = rulesT g k ++ (rname g k ++ ⟨#[32, 61, 32]⟩ ++ (treeB g (g.rule k).bl (g.rule k).body).text ++ ⟨#[32, 59, 10]⟩)) := rfl
        have HTT : Hid (∀ n, Calls Try.prog 50 #[.agg #[.slice (some ⟨b, off, none⟩) g.nr rc, .slice la g.nb lc], .slice ba (g.rule k).bl bc] (F n) (GivesS (treeB g (g.rule k).bl (g.rule k).body).text (F n))) := fun n => l2text_body Q (some ⟨b, off, none⟩) la ba rc lc (g.rule k).bl bc g HV.out (g.rule k).body (F n) HLB.out HCP.out (HN.out n) HBO.out (HGF.out n)
        clear hF hF' hBW hR hn hb hcap c0 c1 hq
        generalize (treeB g (g.rule k).bl (g.rule k).body).text = tt at *
        generalize rname g k = nm at *
        generalize rulesT g k = rt at *
        have w1 : ¬ 9223372036854775807 < nm.size + 3 := by omega
        have w2 : ¬ 9223372036854775807 < nm.size + 3 + tt.size := by omega
        have w3 : ¬ 9223372036854775807 < nm.size + 3 + tt.size + 3 := by omega
        have w4 : ¬ 9223372036854775807 < rt.size + (nm.size + 3 + tt.size + 3) := by omega
        go_wp2_with fail
        refine region_family F (by kernel_rfl) (by kernel_rfl) HC.out ?_
        repeat (go_big_quiet_step (first | (go_at_call 50; exact str_in (HFA.out _) HFB.out (HTT.out _))))
        refine wpQuiet_nil ?_
        rintro _ ⟨nq, rfl⟩
        go_wp2
        go_roundw
        case rel => exact ⟨k + 1, by omega, by go_num, by rw [HRT.out], HBW.out nq⟩
        case measure => simp [intOf]; omega
      · obtain rfl : k = g.nr := by omega
        go_wp2
        go_loopw [3, 5] (fun ov iv wr => spI W1 g.nb (labsT g) ov iv wr) (fun _ iv _ => g.nb - (intOf iv).toNat)
        case atStart => exact ⟨0, Nat.zero_le _, rfl, rfl, HB1.out⟩
        case round =>
          clear y0 y1 hk hlt
          obtain ⟨k, hk, rfl, rfl, hbel⟩ := hrel
          have HBL : Hid (Below W1.heap.size W1 wr) := hbel
          have y0 := cell_on G0.out hbel
          have y1 := cell_on G1.out hbel
          clear hbel
          by_cases hlt : k < g.nb
          · have hlt' : (k : Int) < (g.nb : Int) := by omega
            rcases HG1.out.labs with q | ⟨b, off, rfl, hq, hR⟩
            · omega
            obtain ⟨na, nc, ba, bc, c0, hn, ch, c1, hb, hcap⟩ := (hR k hlt).body_cap
            have HST : Hid (labsT g (k + 1) = if (g.lab k).has then labsT g k ++ (b1 94 ++ lineT (lname g k) (ltree g k)) else labsT g k) := rfl
            have d0 := cell_on ch HBL.out
            cases hh : (g.lab k).has with
            | false =>
              rw [hh] at HST d0
              clear hR hn hb hcap hq ch c0 c1
              go_wp2
              go_roundw
              case rel => exact ⟨k + 1, by omega, by go_num, by rw [HST.out]; rfl, HBL.out⟩
              case measure => simp [intOf]; omega
            | true =>
              rw [hh] at HST d0
              obtain ⟨ι, hne, F, hF, hF'⟩ := family wr
              have hBW : ∀ n, Below W1.heap.size W1 (F n) := fun n => bel_tr HBL.out (hF n)
              have f0 : ∀ n, (F n).cell? ⟨w.heap.size, 0, none⟩ = some (.slice ra g.nr rc) := fun n => cell_on y0 (hF n)
              have f1 : ∀ n, (F n).cell? ⟨w.heap.size, 1, none⟩ = some (.slice (some ⟨b, off, none⟩) g.nb lc) := fun n => cell_on y1 (hF n)
              have f2 : ∀ n, (F n).cell? ⟨b, off + k * 3, none⟩ = some (.slice na (g.lab k).nl nc) := fun n => cell_on c0 (hBW n)
              have f3 : ∀ n, (F n).cell? ⟨b, off + k * 3 + 2, none⟩ = some (.slice ba (g.lab k).bl bc) := fun n => cell_on c1 (hBW n)
              have hcv : ∀ n, (convert 22 9 (.slice na (g.lab k).nl nc)).run Try.prog (F n) = .ok (.string (lname g k)) (F n) := fun n => conv_run Q na (g.lab k).nl nc (g.lab k).name _ (hn.later (hBW n))
              have HC : Hid (∃ n, wr.drew = F n) := hF' _ (Below.refl _ wr).drew
              have HFA : Hid (∀ n, Below wr.heap.size wr (F n)) := hF
              have HFB : Hid (∀ W, Below wr.heap.size wr W → ∃ n, W = F n) := hF'
              have HBW : Hid (∀ n, Below W1.heap.size W1 (F n)) := hBW
              have HN : Hid (∀ n, OpsA Q (F n) ba (g.lab k).bl (g.lab k).body) := fun n => hb.later (hBW n)
              have HGF : Hid (∀ n, GramA Q (F n) ra (some ⟨b, off, none⟩) g) := fun n => (HG1.out.later (hBW n)).plain
              have HBO : Hid (M.BodyOK g.nr g.nb (g.lab k).bl (g.lab k).body) := HV.out.lb k hlt hh
              have HCP : Hid ((g.lab k).bl ≤ bc) := hcap
              have HLB : Hid ((g.lab k).bl ≤ 2000) := lbl_bd HV.out hlt
              have hs1 := (lname_size HV.out hlt).2
              have hs2 := tree_size HV.out (HV.out.lb k hlt hh)
              have hs3 := labsT_bd HV.out k hk
              have hs4 := lbl_bd HV.out hlt
              have HRT : Hid (labsT g (k + 1) = labsT g k ++ (⟨#[94]⟩ ++ lname g k ++ ⟨#[32, 61, 32]⟩ ++ (treeB g (g.lab k).bl (g.lab k).body).text ++ ⟨#[32, 59, 10]⟩)) := by
                show _ = _
                rw [HST.out, if_pos rfl]
                unfold lineT ltree
                simp only [ByteArray.append_assoc]
                rfl
              have HTT : Hid (∀ n, Calls Try.prog 50 #[.agg #[.slice ra g.nr rc, .slice (some ⟨b, off, none⟩) g.nb lc], .slice ba (g.lab k).bl bc] (F n) (GivesS (treeB g (g.lab k).bl (g.lab k).body).text (F n))) := fun n => l2text_body Q ra (some ⟨b, off, none⟩) ba rc lc (g.lab k).bl bc g HV.out (g.lab k).body (F n) HLB.out HCP.out (HN.out n) HBO.out (HGF.out n)
              clear hF hF' hBW hR hn hb hcap c0 c1 hq hh ch HST
              generalize (treeB g (g.lab k).bl (g.lab k).body).text = tt at *
              generalize lname g k = nm at *
              generalize labsT g k = rt at *
              have w0 : ¬ 9223372036854775807 < 1 + nm.size := by omega
              have w1 : ¬ 9223372036854775807 < 1 + nm.size + 3 := by omega
              have w2 : ¬ 9223372036854775807 < 1 + nm.size + 3 + tt.size := by omega
              have w3 : ¬ 9223372036854775807 < 1 + nm.size + 3 + tt.size + 3 := by omega
              have w4 : ¬ 9223372036854775807 < rt.size + (1 + nm.size + 3 + tt.size + 3) := by omega
              go_wp2_with fail
              refine region_family F (by kernel_rfl) (by kernel_rfl) HC.out ?_
              repeat (go_big_quiet_step (first | (go_at_call 50; exact str_in (HFA.out _) HFB.out (HTT.out _))))
              refine wpQuiet_nil ?_
              rintro _ ⟨nq, rfl⟩
              go_wp2
              go_roundw
              case rel => exact ⟨k + 1, by omega, by go_num, by rw [HRT.out], HBW.out nq⟩
              case measure => simp [intOf]; omega
          · obtain rfl : k = g.nb := by omega
            have HSE : Hid (labsT g g.nb = s) := HSG.out.symm
            obtain ⟨a, c, W', hrun, hI, hB⟩ := to_bytes wr (labsT g g.nb)
            rw [HSE.out] at hrun hI ⊢
            have HI : Hid (Ints (fun b => b = wr.heap.size) .u8 W' a s.size (bT s)) := hI
            have HBW : Hid (Below wr.heap.size wr W') := hB
            clear hI hB
            go_wp2
            go_ret
            refine ⟨a, c, rfl, ?_, bel_tr B1.out (bel_tr HBL.out HBW.out)⟩
            rcases HI.out with q | ⟨x, o, e1, rfl, hc⟩
            · exact .inl q
            · by_cases e0 : s.size = 0
              · exact .inl e0
              · exact .inr ⟨wr.heap.size, o, e1, ⟨Nat.le_trans B1.out.size HBL.out.size, lt_of_cell (hc 0 (by omega))⟩, hc⟩

end Go.Proofs.Ytjpcojabdjldbaa
