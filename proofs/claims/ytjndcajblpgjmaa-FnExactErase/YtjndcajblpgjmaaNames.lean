/-
  Walks: the names of a grammar.
-/
import Derived.Test.YtjndcajblpgjmaaMeant
import Derived.Test.YtjndcajblpgjmaaName
import Derived.Maps.Own
import Derived.Maps.OwnOps
import Derived.Maps.OwnSet
import Derived.Maps.Views
import Derived.OwnWalk
import Derived.StringKeys
namespace Go.Proofs.Ytjndcajblpgjmaa
open Go.RowKit Go.Maps
open M (OpD NodeD Gr)
set_option linter.unusedVariables false

theorem law9 : Keyed Try.prog 9 := string_keyed Try.underlying9
theorem zero3 (w : World) : (zeroValue 3).run Try.prog w = .ok (.int .i64 0) w := by kernel_rfl

def NamesOK (g : Gr) : Prop :=
  (∀ i, i < g.nr → M.NameB (g.rule i).nl (g.rule i).name ∧ ∀ j, j < i → ¬ M.SameName (g.rule i) (g.rule j)) ∧
  (∀ i, i < g.nb → M.NameB (g.lab i).nl (g.lab i).name ∧ (0 < i → M.LessName (g.lab (i - 1)) (g.lab i)))

/-- The map holds just the names of the first k rules. -/
def HasNames (D : DataW Unit) (R : Nat → NodeD) (k : Nat) : Prop := ∀ l : List UInt8, (Maps.has D (.string l) = true ↔ ∃ j, j < k ∧ u8s (R j).nl (R j).name = l)

theorem HasNames.start (R : Nat → NodeD) : HasNames (.map []) R 0 := fun l => ⟨fun h => by simp [Maps.has] at h, fun ⟨j, hj, _⟩ => absurd hj (Nat.not_lt_zero _)⟩
theorem HasNames.step {D : DataW Unit} {R : Nat → NodeD} {k : Nat} (h : HasNames D R k) (hD : IsMap D) (d : DataW Unit) : HasNames (D.put (.string (u8s (R k).nl (R k).name)) d) R (k + 1) := fun l => by
  by_cases e : u8s (R k).nl (R k).name = l
  · subst e
    rw [has_put_same hD (by trivial)]
    exact ⟨fun _ => ⟨k, by omega, rfl⟩, fun _ => rfl⟩
  · rw [has_put_other (by intro q; injection q with q; exact e q.symm), h l]
    constructor
    · rintro ⟨j, hj, q⟩; exact ⟨j, by omega, q⟩
    · rintro ⟨j, hj, q⟩
      refine ⟨j, ?_, q⟩
      by_cases ej : j = k
      · subst ej; exact absurd q e
      · omega

theorem same_iff (a b : NodeD) (ha : Byt a.nl a.name) (hb : Byt b.nl b.name) : u8s a.nl a.name = u8s b.nl b.name ↔ M.SameName a b := u8s_eq _ _ _ _ ha hb

structure NmOwn (w : World) (y : Nat) (ra la : Option Addr) (nr rc nb lc : Nat) (R : Nat → NodeD) (k : Nat) (x : World) : Prop where
  box0 : x.cell? ⟨y, 0, none⟩ = some (.slice ra nr rc)
  box1 : x.cell? ⟨y, 1, none⟩ = some (.slice la nb lc)
  map : ∃ D : DataW Unit, x.ownsMap Try.prog 9 (plainElem Try.prog 3) (y + 1) k D ∧ HasNames D R k
  bel : Below w.heap.size w x
  size : y + 2 ≤ x.heap.size

def namesI (w : World) (ra la : Option Addr) (nr rc nb lc : Nat) (R : Nat → NodeD) (i : Value) (wr : World) : Prop :=
  ∃ k : Nat, k ≤ nr ∧ i = .int .i64 (k : Int) ∧ NmOwn w w.heap.size ra la nr rc nb lc R k wr ∧ ∀ j, j < k → M.NameB (R j).nl (R j).name ∧ ∀ i, i < j → ¬ M.SameName (R j) (R i)

set_option maxHeartbeats 4000000 in
theorem validNames_any (Q : Nat → Prop) (ra la : Option Addr) (rc lc : Nat) (g : Gr) (w : World) (hG : GramA Q w ra la g) (hs : SmallG g) :
    Calls Try.prog 59 #[.agg #[.slice ra g.nr rc, .slice la g.nb lc]] w (SaysB (NamesOK g) w) := by
  obtain ⟨nr, R, nb, L⟩ := g
  obtain ⟨hR, hL⟩ := hG
  obtain ⟨h1, h2, s1, s2⟩ := hs
  simp only at hR hL h1 h2 s1 s2 ⊢
  have HR : Hid (RulesA Q w ra nr R) := hR
  have HL : Hid (LabsA Q w la nb L) := hL
  have S1 : Hid (∀ i, i < nr → SmallN (R i)) := s1
  have S2 : Hid (∀ i, i < nb → SmallN (L i)) := s2
  have hmm := @run_makeMap Try.prog
  clear hR hL s1 s2
  go_enter Try.func59, Try.ntmps59
  go_wp2
  go_loopw [14] (fun i wr => namesI w ra la nr rc nb lc R i wr) (fun i _ => nr - (intOf i).toNat)
  case atStart =>
    have ha := cells2New w (.slice ra nr rc) (.slice la nb lc) 36
    refine ⟨0, Nat.zero_le _, rfl, ⟨cellOn _ ha.1, cellOn _ ha.2, ⟨.map [], ?_, HasNames.start R⟩, bel2 w _ _, by simp⟩, fun j hj => absurd hj (Nat.not_lt_zero _)⟩
    have := World.ownsMap_made (H := Unit) (w.alloc (Obj.cells #[Value.slice ra nr rc, Value.slice la nb lc] 36)) Try.prog 9 (plainElem Try.prog 3)
    rwa [World.size_alloc] at this
  case round =>
    obtain ⟨k, hk, rfl, ho, hall⟩ := hrel
    have HA : Hid (∀ j, j < k → M.NameB (R j).nl (R j).name ∧ ∀ i, i < j → ¬ M.SameName (R j) (R i)) := hall
    clear hall hmm
    have g0 := ho.box0
    have g1 := ho.box1
    have hsz := ho.size
    have l0 : w.heap.size < wr.heap.size := by omega
    have l1 : w.heap.size + 1 < wr.heap.size := by omega
    by_cases hlt : k < nr
    · have hR := HR.out.later ho.bel
      rcases hR with h0 | ⟨b, off, rfl, hq, hR⟩
      · omega
      obtain ⟨⟨na, nc, c0, hn⟩, ⟨ba, bc, c1, hb⟩⟩ := hR k hlt
      clear hb hR
      have hbl : b < wr.heap.size := lt_of_cell c0
      obtain ⟨D, hown, hhas⟩ := ho.map
      have HHAS : Hid (HasNames D R k) := hhas
      have HBX : Hid (Below w.heap.size w wr) := ho.bel
      have hnl := (S1.out k hlt).name
      have HBY : Hid (Byt (R k).nl (R k).name) := (S1.out k hlt).byt
      have HIN : Hid (Ints Q .u8 wr na (R k).nl (R k).name) := hn
      have hconv : ∀ o, (convert 22 9 (.slice na (R k).nl nc)).run Try.prog (wr.alloc o) = .ok (.string (str (R k).nl (R k).name)) (wr.alloc o) := fun o => conv_run Q na (R k).nl nc (R k).name _ (hn.later (bel1 wr o))
      have hlen : (str (R k).nl (R k).name).size ≤ maxLen := by rw [str_size]; unfold maxLen; omega
      have HSD : Hid ((str (R k).nl (R k).name).data.toList = u8s (R k).nl (R k).name) := str_data _ _
      clear hhas hn
      generalize str (R k).nl (R k).name = s at hconv hlen HSD
      have hkey := Go.WideMaps.keyOf_string_mk Try.underlying9 hlen
      have HOW : Hid (wr.ownsMap Try.prog 9 (plainElem Try.prog 3) (w.heap.size + 1) k D) := hown
      have HKEY : Hid (keyOf Try.prog 9 (.string s) = some (.string s.data.toList)) := hkey
      clear hown hkey ho
      have HSAME : Hid (∀ j, j < k → (u8s (R j).nl (R j).name = s.data.toList ↔ M.SameName (R k) (R j))) := fun j hj => by
        rw [HSD.out]
        exact ⟨fun q => (same_iff _ _ HBY.out (S1.out j (by omega)).byt).1 q.symm, fun q => ((same_iff _ _ HBY.out (S1.out j (by omega)).byt).2 q).symm⟩
      have hI : ∀ o, Ints Q .u8 (wr.alloc o) na (R k).nl (R k).name := fun o => HIN.out.later (bel1 wr o)
      have HI : Hid (∀ o, Ints Q .u8 (wr.alloc o) na (R k).nl (R k).name) := hI
      clear hI
      cases hh : Maps.has D (.string s.data.toList) with
      | true =>
        have HH : Hid (Maps.has D (.string s.data.toList) = true) := hh
        go_wp2_with (at_lookup; refine wpList_lookup_own_ok_int _ rfl _ _ 162 rfl 9 3 .i64 law9 Try.underlying162 Try.underlying3 (zero3 _) (w.heap.size + 1) k D rfl (HOW.out.alloc _) _ _ rfl HKEY.out ?_; intro c hat hwc; clear hat hwc)
        go_ret
        refine ⟨⟨false, rfl, iffF fun q => ?_⟩, bel_tr HBX.out (bel1 wr _)⟩
        obtain ⟨j, hj, e⟩ := (HHAS.out _).1 HH.out
        exact (q.1 k hlt).2 j hj ((HSAME.out j hj).1 e)
      | false =>
        have HH : Hid (Maps.has D (.string s.data.toList) = false) := hh
        by_cases he : M.NameB (R k).nl (R k).name
        · have HE : Hid (M.NameB (R k).nl (R k).name) := he
          clear he
          go_wp2_with (first | (at_lookup; refine wpList_lookup_own_ok_int _ rfl _ _ 162 rfl 9 3 .i64 law9 Try.underlying162 Try.underlying3 (zero3 _) (w.heap.size + 1) k D rfl (HOW.out.alloc _) _ _ rfl HKEY.out ?_; intro c hat hwc; clear hat hwc) | (go_at_call 117; refine (isName_any Q na (R k).nl nc (R k).name _ (HI.out _) HBY.out hnl).mono ?_; rintro e W ⟨⟨r, rfl, hr⟩, hw⟩; subst W; obtain rfl : r = true := hr.2 HE.out; clear hr) | (at_mapUpdate; refine wpList_mapUpdate_own _ rfl _ _ _ 162 rfl 9 3 law9 Try.underlying162 _ (w.heap.size + 1) k D rfl (HOW.out.alloc _) (by unfold maxLen; omega) _ _ _ rfl rfl HKEY.out _ [] (plainElem_int Try.underlying3 (WalkArith.wf_i64 (by omega))) ?_; intro w1 hown1 hgrow1; have HO1 : Hid _ := hown1; have HG1 : Hid _ := hgrow1; clear hown1 hgrow1))
          have bb : Below w.heap.size w w1 := (bel_tr HBX.out (bel1 wr _)).grown HG1.out (by simp; omega) (fun r e => by cases e; omega)
          have ss := HG1.out.size
          simp only [World.size_alloc] at ss
          refine ⟨⟨k + 1, by omega, by go_num, ⟨(World.cell?_of_block (HG1.out.block w.heap.size (by simp; omega) (by simp))).trans (cellOn _ g0), (World.cell?_of_block (HG1.out.block w.heap.size (by simp; omega) (by simp))).trans (cellOn _ g1), ⟨_, HO1.out, ?_⟩, bb, by omega⟩, ?_⟩, by simp [intOf]; omega⟩
          · rw [HSD.out]; exact HHAS.out.step HOW.out.isMap _
          · refine all_snoc HA.out ⟨HE.out, fun i hi q => ?_⟩
            have := (HHAS.out _).2 ⟨i, hi, (HSAME.out i hi).2 q⟩
            rw [HH.out] at this
            cases this
        · have HE : Hid (¬ M.NameB (R k).nl (R k).name) := he
          clear he
          go_wp2_with (first | (at_lookup; refine wpList_lookup_own_ok_int _ rfl _ _ 162 rfl 9 3 .i64 law9 Try.underlying162 Try.underlying3 (zero3 _) (w.heap.size + 1) k D rfl (HOW.out.alloc _) _ _ rfl HKEY.out ?_; intro c hat hwc; clear hat hwc) | (go_at_call 117; refine (isName_any Q na (R k).nl nc (R k).name _ (HI.out _) HBY.out hnl).mono ?_; rintro e W ⟨⟨r, rfl, hr⟩, hw⟩; subst W; obtain rfl : r = false := by { cases r; rfl; exact absurd (hr.1 rfl) HE.out }; clear hr))
          go_ret
          exact ⟨⟨false, rfl, iffF fun q => HE.out (q.1 k hlt).1⟩, bel_tr HBX.out (bel1 wr _)⟩
    · obtain rfl : k = nr := by omega
      obtain ⟨W1, eW⟩ : ∃ W1, wr = W1 := ⟨_, rfl⟩
      subst wr
      have HBW : Hid (Below w.heap.size w W1) := ho.bel
      have HL' : Hid (LabsA Q W1 la nb L) := HL.out.later ho.bel
      clear ho HL
      go_wp2
      go_loopw [43] (fun i wr' => rulesI W1 nb (fun j => M.NameB (L j).nl (L j).name ∧ (0 < j → M.LessName (L (j - 1)) (L j))) i wr') (fun i _ => nb - (intOf i).toNat)
      case atStart => exact ⟨0, Nat.zero_le _, rfl, Below.refl _ _, fun j hj => absurd hj (Nat.not_lt_zero _)⟩
      case round =>
        obtain ⟨m, hm, rfl, hbel, hall⟩ := hrel
        have HM : Hid (∀ j, j < m → M.NameB (L j).nl (L j).name ∧ (0 < j → M.LessName (L (j - 1)) (L j))) := hall
        clear hall
        have HBE : Hid (Below W1.heap.size W1 wr) := hbel
        have HBX : Hid (Below w.heap.size w wr) := bel_tr HBW.out hbel
        have e0 : wr.cell? ⟨w.heap.size, 0, none⟩ = some (.slice ra k rc) := cell_on g0 hbel
        have e1 : wr.cell? ⟨w.heap.size, 1, none⟩ = some (.slice la nb lc) := cell_on g1 hbel
        have esz : w.heap.size < wr.heap.size := Nat.lt_of_lt_of_le l0 hbel.size
        clear g0 g1 hsz l0 l1
        by_cases hlt : m < nb
        · have hL := HL'.out.later hbel
          rcases hL with h0 | ⟨b, off, rfl, hq, hL⟩
          · omega
          obtain ⟨⟨na, nc, c0, hn⟩, c1, ⟨ba, bc, c2, hb⟩⟩ := hL m hlt
          have hbl : b < wr.heap.size := lt_of_cell c0
          have hnl := (S2.out m hlt).name
          have HBY : Hid (Byt (L m).nl (L m).name) := (S2.out m hlt).byt
          have hI : ∀ o d, Ints Q .u8 ((wr.alloc o).drewN d) na (L m).nl (L m).name := fun o d => hn.later (below_drewN (bel1 wr o) d)
          have HI : Hid (∀ o d, Ints Q .u8 ((wr.alloc o).drewN d) na (L m).nl (L m).name) := hI
          clear hb hbel hn hI
          by_cases he : M.NameB (L m).nl (L m).name
          · have HE : Hid (M.NameB (L m).nl (L m).name) := he
            have QN : ∀ o d, Calls Try.prog 117 #[.slice na (L m).nl nc] ((wr.alloc o).drewN d) fun e w' => e = .returned (.bool true) ∧ w' = (wr.alloc o).drewN d := fun o d =>
              (isName_any Q na (L m).nl nc (L m).name _ (HI.out o d) HBY.out hnl).mono (fun e W h => by obtain ⟨⟨r, rfl, hr⟩, rfl⟩ := h; rw [hr.2 he]; exact ⟨rfl, rfl⟩)
            have HQN : Hid (∀ o d, Calls Try.prog 117 #[.slice na (L m).nl nc] ((wr.alloc o).drewN d) fun e w' => e = .returned (.bool true) ∧ w' = (wr.alloc o).drewN d) := QN
            clear he QN
            by_cases hz : m = 0
            · subst hz
              clear hL
              simp only [Nat.zero_mul, Nat.add_zero] at c0 c1 c2
              go_wp2_with fail
              go_quiet (first | (go_at_call 117; exact Calls.quiet_of_same (HQN.out _ _)))
              go_wp2
              go_roundw
              case rel => exact ⟨1, by omega, by go_num, bel_tr HBE.out (below_drewN (bel1 wr _) _), all_snoc HM.out ⟨HE.out, fun q => absurd q (Nat.lt_irrefl _)⟩⟩
              case measure => simp [intOf]; omega
            · obtain ⟨p, hp⟩ : ∃ p, m = p + 1 := ⟨m - 1, by omega⟩
              have HP : Hid (m = p + 1) := hp
              have em : (m : Int) - 1 = (p : Int) := by omega
              have hmp : 0 < m := by omega
              have hmp' : (0 : Int) < (m : Int) := by omega
              have hpl : p < nb := by omega
              have hpl' : (p : Int) < (nb : Int) := by omega
              clear hz hp
              obtain ⟨⟨na', nc', d0, hn'⟩, d1, ⟨ba', bc', d2, hb'⟩⟩ := hL p hpl
              have hI' : ∀ o d, Ints Q .u8 ((wr.alloc o).drewN d) na' (L p).nl (L p).name := fun o d => hn'.later (below_drewN (bel1 wr o) d)
              obtain ⟨r, r1, r2, r3, hcmp⟩ := compare_val (L p).nl (L m).nl (L p).name (L m).name (S2.out p hpl).byt HBY.out
              have HC : Hid (∀ o d, Calls Try.prog 118 #[.slice na' (L p).nl nc', .slice na (L m).nl nc] ((wr.alloc o).drewN d) fun e w' => e = .returned (.int .i64 r) ∧ w' = (wr.alloc o).drewN d) := fun o d => hcmp Q na' na nc' nc _ (hI' o d) (HI.out o d)
              have HR3 : Hid (r < 0 ↔ M.LessName (L (m - 1)) (L m)) := by
                show r < 0 ↔ M.LessName (L (m - 1)) (L m)
                rw [show m - 1 = p by have := HP.out; omega]; exact r3
              clear hL hn' hb' hI' hcmp r3
              by_cases hr : r < 0
              · have hr' : ¬ (0 : Int) ≤ r := by omega
                go_wp2_with fail
                go_quiet (first | (go_at_call 117; exact Calls.quiet_of_same (HQN.out _ _)) | (go_at_call 118; exact Calls.quiet_of_same (HC.out _ _)))
                go_wp2
                go_roundw
                case rel => exact ⟨m + 1, by omega, by go_num, bel_tr HBE.out (below_drewN (bel1 wr _) _), all_snoc HM.out ⟨HE.out, fun _ => HR3.out.1 hr⟩⟩
                case measure => simp [intOf]; omega
              · have hr' : (0 : Int) ≤ r := by omega
                go_wp2_with fail
                go_quiet (first | (go_at_call 117; exact Calls.quiet_of_same (HQN.out _ _)) | (go_at_call 118; exact Calls.quiet_of_same (HC.out _ _)))
                go_wp2
                go_ret
                exact ⟨⟨false, rfl, iffF fun q => by have := HR3.out.2 ((q.2 m hlt).2 hmp); omega⟩, bel_tr HBX.out (below_drewN (bel1 wr _) _)⟩
          · have HE : Hid (¬ M.NameB (L m).nl (L m).name) := he
            have QN : ∀ o d, Calls Try.prog 117 #[.slice na (L m).nl nc] ((wr.alloc o).drewN d) fun e w' => e = .returned (.bool false) ∧ w' = (wr.alloc o).drewN d := fun o d =>
              (isName_any Q na (L m).nl nc (L m).name _ (HI.out o d) HBY.out hnl).mono (fun e W h => by
                obtain ⟨⟨r, rfl, hr⟩, rfl⟩ := h
                obtain rfl : r = false := by { cases r; rfl; exact absurd (hr.1 rfl) HE.out }
                exact ⟨rfl, rfl⟩)
            have HQN : Hid (∀ o d, Calls Try.prog 117 #[.slice na (L m).nl nc] ((wr.alloc o).drewN d) fun e w' => e = .returned (.bool false) ∧ w' = (wr.alloc o).drewN d) := QN
            clear he QN hL
            go_wp2_with fail
            go_quiet (first | (go_at_call 117; exact Calls.quiet_of_same (HQN.out _ _)))
            go_wp2
            go_ret
            exact ⟨⟨false, rfl, iffF fun q => HE.out (q.2 m hlt).1⟩, bel_tr HBX.out (below_drewN (bel1 wr _) _)⟩
        · obtain rfl : m = nb := by omega
          go_wp2
          go_ret
          exact ⟨⟨true, rfl, iffT ⟨HA.out, HM.out⟩⟩, HBX.out⟩

end Go.Proofs.Ytjndcajblpgjmaa
