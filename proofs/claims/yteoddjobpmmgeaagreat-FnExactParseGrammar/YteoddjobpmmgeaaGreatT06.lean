import Derived.Test.YteoddjobpmmgeaaGreatT05
import Derived.Test.YteoddjobpmmgeaaGreatT04
set_option linter.unusedVariables false
set_option linter.unusedSimpArgs false
namespace Go.Proofs.YteoddjobpmmgeaaGreat
section
open Go.RowKit
open M (OpD NodeD Gr)
def BufI (k : IntKind) (w0 : World) (z : List Int) (v : Value) (wr : World) : Prop := OwnC (New w0 wr) wr v 1 z.length (intVs k (lf z) z.length) ∧ Keep (fun _ => False) w0 wr
theorem intVs_snoc (k : IntKind) (l : List Int) (x : Int) : intVs k (lf l) l.length ++ [.int k x] = intVs k (lf (l ++ [x])) (l.length + 1) := by
  unfold intVs
  rw [List.range_succ, List.map_append]
  congr 1
  · refine List.map_congr_left fun i hi => ?_
    have := List.mem_range.1 hi
    simp [lf, List.getElem?_append_left this]
  · simp [lf]
theorem BufI.nil {k : IntKind} {w0 wr : World} (h : Keep (fun _ => False) w0 wr) : BufI k w0 [] (.slice none 0 0) wr := ⟨.inl ⟨rfl, rfl, rfl⟩, h⟩
theorem BufI.snoc {k : IntKind} {w0 wr wr' W5 : World} {l : List Int} {v5 : Value} {x : Int} (hk : Keep (fun _ => False) w0 wr) (hk' : Keep (fun _ => False) wr wr') (own : OwnC (fun b => New w0 wr b ∨ wr'.heap.size ≤ b) W5 v5 1 (l.length + 1) (intVs k (lf l) l.length ++ [.int k x])) (g : Grew (New w0 wr) wr' W5) : BufI k w0 (l ++ [x]) v5 W5 := by
  have hlen : (l ++ [x]).length = l.length + 1 := by simp
  refine ⟨?_, keep_new (hk.trans hk') g (fun b q => q.1)⟩
  rw [intVs_snoc] at own
  rw [hlen]
  have zk := hk.size
  have zk' := hk'.size
  rcases own with ⟨_, q, _⟩ | ⟨b, cap, e, hq, h3, h4, h5, h6⟩
  · omega
  refine .inr ⟨b, cap, e, ⟨?_, ?_⟩, h3, h4, h5, h6⟩
  · rcases hq with q | q
    · exact q.1
    · omega
  · have hl : 0 < (intVs k (lf (l ++ [x])) (l.length + 1)).length := by rw [intVs_len]; omega
    have h := h5 0 hl
    rw [List.getElem?_eq_getElem hl] at h
    exact lt_of_cell h
theorem BufI.shape {k : IntKind} {w0 wr : World} {l : List Int} {v : Value} (h : BufI k w0 l v wr) : ∃ a c, v = .slice a l.length c := own_shape h.1
theorem BufI.ints {k : IntKind} {w0 wr : World} {l : List Int} {a : Option Addr} {n c : Nat} (h : BufI k w0 l (.slice a n c) wr) : Ints (New w0 wr) k wr a l.length (lf l) := by
  obtain ⟨a', c', e⟩ := own_shape h.1
  injection e with e1 e2 e3
  subst e1 e2 e3
  exact own_lists h.1
theorem src_u8 (wr : World) (x : Int) : Src Tryz.prog 1 22 (.slice (some ⟨wr.heap.size, 0, none⟩) 1 1) 1 [.int .u8 x] (wr.alloc (.cells #[.int .u8 x] 5)) :=
  src_cells Tryz.underlying22 rfl (fun j u hu => by
    have hb := World.alloc_heap_new wr (.cells #[.int .u8 x] 5)
    simp only [World.cell?, hb]
    rw [← hu]
    simp) (fun u hu => by obtain rfl := List.mem_singleton.1 hu; rfl)
theorem keep_drewN (w : World) (m : Nat) : Keep (fun _ => False) w (w.drewN m) := Keep.of_below (below_drewN (Below.refl w.heap.size w) m) (fun k hk _ => hk)
theorem TxA.keep {Q : Nat → Prop} {t : Tx} {a : Option Addr} {w w' : World} (h : TxA Q w a t) (k : Keep (fun _ => False) w w') : TxA Q w' a t := Ints.later h k.bel
theorem esc_rng (t : Tx) (i : Nat) (hi : i ≤ t.n) : 0 ≤ (esc t i).1 ∧ (esc t i).1 ≤ 255 ∧ i + (esc t i).2 ≤ t.n := by
  have b1 := t.byt (i + 1)
  have z2 := hexi_le (t.T (i + 2))
  have z3 := hexi_le (t.T (i + 3))
  unfold esc
  split
  · simp; omega
  split
  · simp; omega
  split
  · simp; omega
  split
  · simp; omega
  split
  · simp; omega
  split
  · rename_i h; obtain ⟨_, h1, h2, h3⟩ := h; simp; omega
  · simp; omega
theorem chr_rng (t : Tx) (i : Nat) (c : Bool) (hi : i ≤ t.n) : 0 ≤ (chr t i c).1 ∧ (chr t i c).1 ≤ 255 ∧ i + (chr t i c).2 ≤ t.n := by
  have b1 := t.byt i
  have h2 := esc_rng t i hi
  unfold chr
  split
  · simp; omega
  split
  · exact h2
  split
  · simp; omega
  split
  · simp; omega
  · simp; omega
def strF (t : Tx) : Nat → Nat → List Int → Option (List Int × Nat)
  | 0, _, _ => none
  | f + 1, j, z => if j < t.n ∧ t.T j = 34 then some (z, j + 1) else if (chr t j false).2 = 0 then none else strF t f (j + (chr t j false).2) (z ++ [(chr t j false).1])
def strT (t : Tx) (i : Nat) : Option (List Int × Nat) := strF t (t.n - i) (i + 1) []
def ScanIs (k : IntKind) (r : Option (List Int × Nat)) (i : Nat) (w : World) (e : Ending) (w' : World) : Prop :=
  Keep (fun _ => False) w w' ∧ match r with
  | none => e = .returned (.tuple #[.slice none 0 0, .int .i64 0])
  | some (z, j) => ∃ a c, e = .returned (.tuple #[.slice a z.length c, .int .i64 ((j : Int) - i)]) ∧ Ints (New w w') k w' a z.length (lf z)
set_option maxHeartbeats 4000000 in
set_option maxRecDepth 100000 in
theorem l2string_any (Q : Nat → Prop) (t : Tx) (a : Option Addr) (c i : Nat) (w : World) (hT : TxA Q w a t) (hi : i < t.n) :
    Calls Tryz.prog 53 #[.slice a t.n c, .int .i64 i] w (ScanIs .u8 (strT t i) i w) := by
  have hle := t.le
  have HT : Hid (TxA Q w a t) := hT
  clear hT
  obtain ⟨r, hr⟩ : ∃ r, strT t i = r := ⟨_, rfl⟩
  rw [hr]
  go_enter Tryz.func53, Tryz.ntmps53
  go_wp2
  go_loopw [6, 7] (fun v u wr => ∃ (f j : Nat) (z : List Int), j ≤ t.n ∧ i < j ∧ t.n - j < f ∧ u = .int .i64 j ∧ z.length ≤ j ∧ BufI .u8 w z v wr ∧ strF t f j z = r) (fun _ u _ => t.n - (intOf u).toNat)
  case atStart => exact ⟨t.n - i, i + 1, [], by omega, by omega, by omega, by go_num, by simp, BufI.nil (Keep.refl _ _), hr⟩
  case round =>
    obtain ⟨f, j, z, hj, hij, hf, rfl, hz, hbuf, hs⟩ := hrel
    obtain ⟨f, rfl⟩ : ∃ q, f = q + 1 := ⟨f - 1, by omega⟩
    obtain ⟨va, vc, rfl⟩ := hbuf.shape
    have HB : Hid (BufI .u8 w z (.slice va z.length vc) wr) := hbuf
    have HS : Hid ((if j < t.n ∧ t.T j = 34 then some (z, j + 1) else if (chr t j false).2 = 0 then none else strF t f (j + (chr t j false).2) (z ++ [(chr t j false).1])) = r) := hs
    have HTR : Hid (TxA Q wr a t) := HT.out.keep hbuf.2
    clear hbuf hs hr
    by_cases hq : j < t.n ∧ t.T j = 34
    · obtain ⟨hq1, hq2⟩ := hq
      obtain ⟨b, off, rfl, _, hcell⟩ := HTR.out.at hq1
      have k0 := hcell j hq1
      rw [hq2] at k0
      have hq1' : (j : Int) < t.n := by omega
      clear hcell
      go_wp2
      go_ret2
      have e := HS.out
      rw [if_pos ⟨hq1, hq2⟩] at e
      subst e
      exact ⟨HB.out.2, _, _, by congr 3, HB.out.ints⟩
    · have HQ : Hid (¬ (j < t.n ∧ t.T j = 34)) := hq
      obtain ⟨x1, x2, x3⟩ := chr_rng t j false hj
      have HC : Hid (∀ w, TxA Q w a t → Calls Tryz.prog 74 #[.slice a t.n c, .int .i64 j, .bool false] w (RetII (chr t j false).1 ((chr t j false).2 : Nat) w)) := fun w h => l2char_any Q t a c j false w h hj
      have HS2 : Hid ((if (chr t j false).2 = 0 then none else strF t f (j + (chr t j false).2) (z ++ [(chr t j false).1])) = r) := by
        have := HS.out
        rw [if_neg hq] at this
        exact this
      clear HS
      generalize chr t j false = p at *
      obtain ⟨pb, pn⟩ := p
      simp only at x1 x2 x3 HC HS2
      have HE : Hid (∀ W1, Keep (fun _ => False) wr W1 → ¬ pn = 0 → ∀ v5 W5, OwnC (fun b => New w wr b ∨ W1.heap.size ≤ b) W5 v5 1 (z.length + 1) (intVs .u8 (lf z) z.length ++ [.int .u8 pb]) → Grew (New w wr) W1 W5 → ∃ (f j' : Nat) (z : List Int), j' ≤ t.n ∧ i < j' ∧ t.n - j' < f ∧ Value.int .i64 ((j : Int) + pn) = .int .i64 j' ∧ z.length ≤ j' ∧ BufI .u8 w z v5 W5 ∧ strF t f j' z = r) := by
        intro W1 hk1 hp v5 W5 hown hgrew
        have e := HS2.out
        rw [if_neg hp] at e
        exact ⟨f, j + pn, z ++ [pb], x3, by omega, by omega, by simp, by simp; omega, BufI.snoc HB.out.2 hk1 hown hgrew, e⟩
      by_cases hp : pn = 0
      · subst hp
        have e := HS2.out
        rw [if_pos rfl] at e
        subst e
        by_cases hjn : j < t.n
        · have hjn' : (j : Int) < t.n := by omega
          obtain ⟨b, off, rfl, _, hcell⟩ := HTR.out.at hjn
          have k0 := hcell j hjn
          have y1 : (t.T j == 34) = false := by simpa using fun q => HQ.out ⟨hjn, q⟩
          have b0 := t.byt j
          clear hcell
          go_wp2_with fail
          refine (HC.out wr HTR.out).mono ?_
          rintro e W ⟨rfl, m, rfl⟩
          go_wp2
          go_ret2
          exact ⟨HB.out.2.trans (keep_drewN _ _), rfl⟩
        · have hjn' : ¬ (j : Int) < t.n := by omega
          go_wp2_with fail
          refine (HC.out wr HTR.out).mono ?_
          rintro e W ⟨rfl, m, rfl⟩
          go_wp2
          go_ret2
          exact ⟨HB.out.2.trans (keep_drewN _ _), rfl⟩
      · have hp' : ¬ (pn : Int) = 0 := by omega
        by_cases hjn : j < t.n
        · have hjn' : (j : Int) < t.n := by omega
          obtain ⟨b, off, rfl, _, hcell⟩ := HTR.out.at hjn
          have k0 := hcell j hjn
          have y1 : (t.T j == 34) = false := by simpa using fun q => HQ.out ⟨hjn, q⟩
          have b0 := t.byt j
          clear hcell
          go_wp2_with fail
          refine (HC.out wr HTR.out).mono ?_
          rintro e W ⟨rfl, m, rfl⟩
          have HEm := HE.out _ ((keep_drewN wr m).trans (Keep.alloc _ _ (.cells #[.int .u8 pb] 5))) hp
          have HEm : Hid _ := HEm
          have HSR : Hid (Src Tryz.prog 1 22 (.slice (some ⟨(wr.drewN m).heap.size, 0, none⟩) 1 1) 1 [.int .u8 pb] ((wr.drewN m).alloc (.cells #[.int .u8 pb] 5))) := src_u8 _ _
          have HOW : Hid (OwnC (New w wr) ((wr.drewN m).alloc (.cells #[.int .u8 pb] 5)) (.slice va z.length vc) 1 z.length (intVs .u8 (lf z) z.length)) := HB.out.1.on (fun b hb => ((keep_drewN wr m).trans (Keep.alloc _ _ (.cells #[.int .u8 pb] 5))).block b hb.2 (fun q => q))
          go_wp2_with (at_builtin; refine appE rfl _ _ 22 22 rfl rfl rfl elem22 (Q := New w wr) (n := z.length) (cs := intVs .u8 (lf z) z.length) (m := 1) (news := [.int .u8 pb]) HOW.out HSR.out (by omega) ?_; intro v5 W5 hown hgrew hsz; have HF : Hid _ := HEm.out v5 W5 hown hgrew; clear hown hgrew hsz)
          go_roundw
          all_goals first
            | exact HF.out
            | (simp [intOf]; omega)
            | omega
        · omega
end
end Go.Proofs.YteoddjobpmmgeaaGreat
