import Derived.Test.YteoddjobpmmgeaaGreatT31
set_option linter.unusedVariables false
set_option linter.unusedSimpArgs false
namespace Go.Proofs.YteoddjobpmmgeaaGreat
section
open Go.RowKit
open M (OpD NodeD Gr)
def C4 (rb : Nat) (A B D : Nat → Prop) : Nat → Prop := fun b => C3 rb A B b ∨ D b
def BadS (R : Sum Nat (Rl × List Tok)) (p : Nat) : Prop := R = .inl p ∨ ∃ q y l, R = .inr (q, y :: l) ∧ y.kind = 0 ∧ y.at_ = p
def RuIs (rb : Nat) (t : Tx) (r : Rv) (l : List Tok) (qs : List Rl) (A B N D T : Nat → Prop) (w : World) (e : Ending) (w' : World) : Prop :=
  Keep (C4 rb A B D) w w' ∧ ((∃ q l1 v v6 v7 v8 k sa sc i A' B' N' D' T', rdRule t.n l = .inr (q, l1) ∧ e = .returned v ∧ l1.length + 1 ≤ l.length ∧ DS rb t { r with v6 := v6, v7 := v7, v8 := v8 } k sa sc i l1 (qs ++ [q]) A' B' N' D' T' w' ∧ (∀ b, A' b → A b ∨ New w w' b) ∧ (∀ b, B' b → B b ∨ New w w' b) ∧ (∀ b, D' b → D b ∨ New w w' b) ∧ (∀ b, N' b → New w w' b) ∧ (∀ b, T' b → T b ∨ New w w' b)) ∨ (∃ p : Nat, e = .panicked (flt 5 (p : Nat)) ∧ BadS (rdRule t.n l) p))
theorem keep4 {rb : Nat} {A B D : Nat → Prop} {w w' : World} (k : Keep (C3 rb A B) w w') : Keep (C4 rb A B D) w w' := k.mono (fun b q => .inl q)
set_option maxHeartbeats 1000000 in
set_option maxRecDepth 100000 in
theorem readRule_any (rb : Nat) (t : Tx) (r : Rv) (k : Tok) (sa : Option Addr) (sc i : Nat) (l : List Tok) (qs : List Rl) (A B N D T : Nat → Prop) (w : World) (hD : DS rb t r k sa sc i l qs A B N D T w) : Calls Tryz.prog 41 #[.pointer (some ⟨rb, 0, none⟩)] w (RuIs rb t r l qs A B N D T w) := by
  have HD : Hid (DS rb t r k sa sc i l qs A B N D T w) := hD
  have H97 : Hid (∀ k' : Tok, k'.kind ≠ 97 → (kk k'.kind = 97 ↔ k'.kind = 110) ∧ (kk k'.kind = 61 ↔ k'.kind = 61) ∧ (kk k'.kind = 59 ↔ k'.kind = 59)) := fun k' q => ⟨kk_name q, kk_is q (by omega) (by omega), kk_is q (by omega) (by omega)⟩
  have HPA : Hid (∀ (p : Nat) W, Keep (C3 rb A B) w W → BadS (rdRule t.n l) p → RuIs rb t r l qs A B N D T w (.panicked (flt 5 (p : Nat))) W) := fun p W h1 h2 => ⟨keep4 h1, .inr ⟨p, rfl, h2⟩⟩
  clear hD
  go_enter Tryz.func41, Tryz.ntmps41
  go_wp2_with fail
  refine (caret_rs HD.out.st).mono ?_
  rintro e W1 ⟨hk1, ⟨car, l1, k1, sa1, sc1, i1, N1, rfl, hR1, hl1, hN1, hS1⟩ | ⟨x, hR1, rfl⟩⟩
  · have HS1 : Hid (RS rb t r k1 sa1 sc1 i1 l1 (refTs qs) (thrTs qs) A B N1 W1) := hS1
    have HR1 : Hid (rdRule t.n l = rdBody t.n car l1) := hR1
    have HL1 : Hid (l1.length ≤ l.length) := hl1
    have HK1 : Hid (Keep (fun b => b = rb) w W1) := hk1
    generalize hbv : car.isSome = bv
    have HBV : Hid (car.isSome = bv) := hbv
    clear hS1 hk1 hR1 hl1 hN1 hbv
    go_wp2_with fail
    refine (expect_rs HS1.out 110 (by omega) (H97.out k1 HS1.out.kind).1).mono ?_
    rintro e W2 ⟨hk2, ⟨h110, rfl⟩ | ⟨h110, l2, rfl, ⟨k2, sa2, sc2, i2, rfl, hS2⟩ | ⟨y, rfl, hy, rfl⟩⟩⟩
    · have HFI := HPA.out (pos t.n l1) W2 (keep3 (HK1.out.trans hk2)) (.inl (HR1.out.trans (body_no (fun y r' e => by rw [HS1.out.head e]; exact h110))))
      have HFI' : Hid (RuIs rb t r l qs A B N D T w (.panicked (flt 5 (pos t.n l1 : Nat))) W2) := HFI
      clear HFI hk2 h110
      go_wp2
      exact ⟨rfl, HFI'.out⟩
    · have HS2 : Hid (RS rb t r k2 sa2 sc2 i2 l2 (refTs qs) (thrTs qs) A B (New W1 W2) W2) := hS2
      have H110 : Hid (k1.kind = 110) := h110
      have HK2 : Hid (Keep (fun b => b = rb) w W2) := HK1.out.trans hk2
      generalize hsz : str k1.nm.length (lf k1.nm) = sz1
      have HSZ : Hid (str k1.nm.length (lf k1.nm) = sz1) := hsz
      rw [(H97.out k1 HS1.out.kind).1.2 h110]
      clear hS2 hk2 h110 hsz
      go_wp2_with fail
      have HK2a : Hid (Keep (fun _ => False) W2 (W2.alloc (.cells #[.int .u8 97, .int .i64 (k1.at_ : Nat), .string sz1, .slice sa1 k1.set.length sc1] 59))) := Keep.alloc _ _ _
      have HC2 : Hid ((W2.alloc (.cells #[.int .u8 97, .int .i64 (k1.at_ : Nat), .string sz1, .slice sa1 k1.set.length sc1] 59)).heap[W2.heap.size]? = some (.cells #[.int .u8 97, .int .i64 (k1.at_ : Nat), .string sz1, .slice sa1 k1.set.length sc1] 59)) := blk_new W2 _ _ rfl
      obtain ⟨W2a, hW2a⟩ : ∃ W2a, W2a = (W2.alloc (.cells #[.int .u8 97, .int .i64 (k1.at_ : Nat), .string sz1, .slice sa1 k1.set.length sc1] 59)) := ⟨_, rfl⟩
      rw [← hW2a] at HK2a HC2 ⊢
      clear hW2a
      refine (expect_rs (HS2.out.kept HK2a.out) 61 (by omega) (H97.out k2 HS2.out.kind).2.1).mono ?_
      rintro e W3 ⟨hk3, ⟨h61, rfl⟩ | ⟨h61, l3, rfl, ⟨k3, sa3, sc3, i3, rfl, hS3⟩ | ⟨y, rfl, hy, rfl⟩⟩⟩
      · have HFI : Hid (RuIs rb t r l qs A B N D T w (.panicked (flt 5 (pos t.n l2 : Nat))) W3) := HPA.out (pos t.n l2) W3 (keep3 ((HK2.out.trans (keepF HK2a.out)).trans hk3)) (.inl (HR1.out.trans (body_eq H110.out (fun y r' e => by rw [HS2.out.head e]; exact h61))))
        clear hk3 h61
        go_wp2
        exact ⟨rfl, HFI.out⟩
      · have HS3 : Hid (RS rb t r k3 sa3 sc3 i3 l3 (refTs qs) (thrTs qs) A B (New W2a W3) W3) := hS3
        have HK3 : Hid (Keep (fun b => b = rb) w W3) := (HK2.out.trans (keepF HK2a.out)).trans hk3
        have H61 : Hid (k2.kind = 61) := h61
        have HC3 : Hid (W3.heap[W2.heap.size]? = some (.cells #[.int .u8 97, .int .i64 (k1.at_ : Nat), .string sz1, .slice sa1 k1.set.length sc1] 59) ∧ W2.heap.size ≠ rb ∧ W2.heap.size < W3.heap.size ∧ w.heap.size ≤ W2.heap.size ∧ w.heap.size ≤ W2a.heap.size) := by
          have a1 := HS2.out.blk.lt
          have a2 := (Array.getElem?_eq_some_iff.1 HC2.out).1
          have a3 := hk3.size
          exact ⟨(hk3.block _ a2 (by show ¬ W2.heap.size = rb; omega)).trans HC2.out, by omega, by omega, HK2.out.size, by have := HK2.out.size; omega⟩
        generalize Value.agg #[Value.int .u8 (kk k2.kind), Value.int .i64 (k2.at_ : Nat), Value.string (str k2.nm.length (lf k2.nm)), Value.slice sa2 k2.set.length sc2] = vx
        clear hS3 hk3 h61 HC2
        go_wp2_with fail
        refine (readAlt_any (8 * l3.length + 8) rb t r k3 sa3 sc3 i3 l3 (refTs qs) (thrTs qs) A B _ W3 HS3.out (by omega)).mono ?_
        rintro e W4 ⟨hk4, ⟨x, l4, v, v7, v8, k4, sa4, sc4, i4, A4, B4, N4, P, hR, rfl, hO⟩ | ⟨p, rfl, hb⟩⟩
        · have HO : Hid (RdOK rb t r 0 l3 (refTs qs) (thrTs qs) A B (New W2a W3) W3 x l4 v W4 v7 v8 k4 sa4 sc4 i4 A4 B4 N4 P) := hO
          have HR : Hid (rd t.n (8 * l3.length + 8) 5 .emp l3 = .inr (x, l4)) := hR
          have HK4 : Hid (Keep (C3 rb A B) W3 W4) := hk4
          obtain ⟨ty, u, rfl⟩ := TrA.iface x hO.tree
          clear hO hR hk4
          go_wp2_with fail
          refine (expect_rs HO.out.st 59 (by omega) (H97.out k4 HO.out.st.kind).2.2).mono ?_
          rintro e W5 ⟨hk5, ⟨h59, rfl⟩ | ⟨h59, l5, rfl, ⟨k5, sa5, sc5, i5, rfl, hS5⟩ | ⟨y, rfl, hy, rfl⟩⟩⟩
          · have HFI : Hid (RuIs rb t r l qs A B N D T w (.panicked (flt 5 (pos t.n l4 : Nat))) W5) := HPA.out (pos t.n l4) W5 (((keep3 HK3.out).trans HK4.out).trans (keep3 hk5)) (.inl (HR1.out.trans (body_semi H110.out H61.out HR.out (fun y r' e => by rw [HO.out.st.head e]; exact h59))))
            clear hk5 h59
            go_wp2
            exact ⟨rfl, HFI.out⟩
          · generalize Value.agg #[Value.int .u8 (kk k4.kind), Value.int .i64 (k4.at_ : Nat), Value.string (str k4.nm.length (lf k4.nm)), Value.slice sa4 k4.set.length sc4] = vy
            have HO5 : RdOK rb t r 0 l3 (refTs qs) (thrTs qs) A B (New W2a W3) W3 x l5 (.iface ty u) W5 v7 v8 k5 sa5 sc5 i5 A4 B4 (New W4 W5) P := HO.out.step HS3.out.apt.set HS3.out.blk.lt HK4.out.size hk5 hS5 rfl rfl (fun q => q)
            have HKT : Hid (Keep (C3 rb A B) w W5) := ((keep3 HK3.out).trans HK4.out).trans (keep3 hk5)
            have HK6 : Hid (Keep (fun _ => False) W5 (W5.drew.alloc (.cells #[.string sz1, .int .i64 (k1.at_ : Nat), .bool bv, .iface ty u] 87))) := (Keep.drew (fun _ => False) W5).trans (Keep.alloc _ _ _)
            have hz1 := HK3.out.size
            have hz2 := HK4.out.size
            have hz3 := hk5.size
            have hz4 := HC3.out.2.2
            have HLL : Hid (l5.length + 1 ≤ l.length) := by
              have a1 := HL1.out
              have a2 := HO.out.len
              simp only [List.length_cons] at a1 a2
              have a3 : l5.length + 1 ≤ l.length := by omega
              exact a3
            obtain ⟨cs, hcs, hfin⟩ := rule_fin HD.out HO5 HKT.out (by omega) (by omega) (fun b q => ⟨by have := q.1; omega, q.2⟩) (fun b q => by have := q.1; omega) HK6.out HLL.out
            obtain ⟨ra, rc, hv6⟩ := own_shape hcs
            rw [hv6] at hcs
            have HOW : Hid (OwnC D (W5.drew.alloc (.cells #[.string sz1, .int .i64 (k1.at_ : Nat), .bool bv, .iface ty u] 87)) (.slice ra qs.length rc) 4 qs.length cs) := hcs
            have c6 : W5.cell? ⟨rb, 6, none⟩ = some (.slice ra qs.length rc) := by
              have h : W5.cell? ⟨rb, 6, none⟩ = some r.v6 := blk_cell hS5.blk rfl
              rw [hv6] at h
              exact h
            have hC5 : W5.heap[W2.heap.size]? = some (.cells #[.int .u8 97, .int .i64 (k1.at_ : Nat), .string sz1, .slice sa1 k1.set.length sc1] 59) := (hk5.block _ (by omega) HC3.out.2.1).trans ((HK4.out.block _ hz4.1 (fun q => by
              rcases q with q | q | q
              · exact HC3.out.2.1 q
              · have := (HD.out.st.apt.rows _ q).1; omega
              · have := (HD.out.st.apt.thrs _ q).1; omega)).trans HC3.out.1)
            have y1 : W5.cell? ⟨W2.heap.size, 1, none⟩ = some (.int .i64 (k1.at_ : Nat)) := blk_cell hC5 rfl
            have y2 : W5.cell? ⟨W2.heap.size, 2, none⟩ = some (.string sz1) := blk_cell hC5 rfl
            have hlt5 := (Array.getElem?_eq_some_iff.1 hC5).1
            have HSR : Hid (Src Tryz.prog 4 60 (.slice (some ⟨W5.drew.heap.size, 0, none⟩) 1 1) 1 [.string sz1, .int .i64 (k1.at_ : Nat), .bool bv, .iface ty u] (W5.drew.alloc (.cells #[.string sz1, .int .i64 (k1.at_ : Nat), .bool bv, .iface ty u] 87))) := src_df W5.drew _ _ _ _ _
            have hlen : qs.length + 1 ≤ 16777216 := by have := HD.out.len; omega
            have hrb5 : rb < W5.heap.size := hS5.blk.lt
            have HAf : Hid (∀ v6 W7, OwnC (fun b => D b ∨ (W5.drew.alloc (.cells #[.string sz1, .int .i64 (k1.at_ : Nat), .bool bv, .iface ty u] 87)).heap.size ≤ b) W7 v6 4 (qs.length + 1) (cs ++ [.string sz1, .int .i64 (k1.at_ : Nat), .bool bv, .iface ty u]) → Grew (fun b => D b) (W5.drew.alloc (.cells #[.string sz1, .int .i64 (k1.at_ : Nat), .bool bv, .iface ty u] 87)) W7 → (∀ ve, RuIs rb t r l qs A B N D T w (.returned ve) (W7.setCell ⟨rb, 6, none⟩ v6)) ∧ RB rb t (nextR { r with v7 := v7, v8 := v8 } k5 sa5 sc5) i5 W7) := fun v6 W7 ho hg => by
              have he : dfC ⟨car, k1, k2, x, k4⟩ (.iface ty u) = [.string sz1, .int .i64 (k1.at_ : Nat), .bool bv, .iface ty u] := by unfold dfC; rw [HSZ.out, HBV.out]
              have ho2 : OwnC (fun b => D b ∨ (W5.drew.alloc (.cells #[.string sz1, .int .i64 (k1.at_ : Nat), .bool bv, .iface ty u] 87)).heap.size ≤ b) W7 v6 4 (qs.length + 1) (cs ++ dfC ⟨car, k1, k2, x, k4⟩ (.iface ty u)) := by rw [he]; exact ho
              have hD2 := hfin ⟨car, k1, k2, x, k4⟩ v6 W7 rfl ho2 hg
              have b6 := HK6.out.size
              have b7 := hg.size
              refine ⟨fun ve => ⟨?_, .inl ⟨_, _, ve, _, _, _, _, _, _, _, _, _, _, _, _, HR1.out.trans (body_ok H110.out H61.out HR.out h59), rfl, HLL.out, hD2, ?_, ?_, ?_, ?_, ?_⟩⟩, (hg.block rb (by omega) (fun q => (HD.out.da rb q).2.1 rfl)).trans (hS5.kept HK6.out).blk⟩
              · refine ⟨hg.os.trans (HK6.out.os.trans HKT.out.os), hg.tape.trans (HK6.out.tape.trans HKT.out.tape), hg.output.trans (HK6.out.output.trans HKT.out.output), by simp only [size_set]; omega, fun b hb hc => ?_⟩
                exact (Below.heap_setCell _ _ _ _ (fun e => hc (.inl (.inl e)))).trans ((hg.block b (by omega) (fun q => hc (.inr q))).trans ((HK6.out.block b (by omega) (fun e => e)).trans (HKT.out.block b hb (fun q => hc (.inl q)))))
              · exact fun b q => (HO5.ra b q).imp id (fun z => ⟨by have := z.1; omega, by have := z.2; simp only [size_set]; omega⟩)
              · exact fun b q => (HO5.rb' b q).imp id (fun z => ⟨by have := z.1; omega, by have := z.2; simp only [size_set]; omega⟩)
              · exact fun b q => q.imp id (fun z => ⟨by have := z.1; omega, by have := z.2; simp only [size_set]; omega⟩)
              · exact fun b q => ⟨by have := q.1; omega, by have := q.2; simp only [size_set]; omega⟩
              · exact fun b q => q.imp id (fun z => (HO5.rp b z).1.elim (fun y => ⟨by have := y.1; omega, by have := y.2; simp only [size_set]; omega⟩) (fun y => ⟨by have := y.1; omega, by have := y.2; simp only [size_set]; omega⟩))
            clear hfin hcs hC5 hS5 hk5 h59 HO5 hv6 hz1 hz2 hz3 hz4
            go_wp2_with fail
            go_region_law
              (refine stepE rfl (.tmp 19) (.tmp 27) 60 60 rfl (v := .slice ra qs.length rc) (y := .slice (some ⟨W5.drew.heap.size, 0, none⟩) 1 1) (by simp [Act.eval, Act.put]) (by simp [Act.eval, Act.put]) elem60 (Q := D) (n := qs.length) (cs := cs) (m := 1) (news := [.string sz1, .int .i64 (k1.at_ : Nat), .bool bv, .iface ty u]) HOW.out HSR.out hlen ?_
               intro v6 W7 hown4 hgrew4 hsz4
               obtain ⟨hF4, hB4⟩ := HAf.out v6 W7 hown4 hgrew4
               obtain ⟨a4, n4, rfl⟩ := own_shape hown4
               have HFI : Hid (∀ ve, RuIs rb t r l qs A B N D T w (.returned ve) (W7.setCell ⟨rb, 6, none⟩ (.slice a4 (qs.length + 1) n4))) := hF4
               have z6 : W7.cell? ⟨rb, 6, none⟩ = some r.v6 := blk_cell hB4 rfl
               have g6 : W7.frozen? ⟨rb, 6, none⟩ = false := blk_frz hB4
               have lt4 := lt_of_cell z6
               clear hown4 hgrew4 hsz4 hF4 hB4)
            all_goals (
              go_wp2
              exact ⟨rfl, _, results_none rfl _ _ _, HFI.out _⟩)
          · have HFI : Hid (RuIs rb t r l qs A B N D T w (.panicked (flt 5 (y.at_ : Nat))) W5) := HPA.out y.at_ W5 (((keep3 HK3.out).trans HK4.out).trans (keep3 hk5)) (.inr ⟨_, y, [], HR1.out.trans (body_ok H110.out H61.out HR.out h59), hy, rfl⟩)
            clear hk5 h59 hy
            go_wp2
            exact ⟨rfl, HFI.out⟩
        · have HFI : Hid (RuIs rb t r l qs A B N D T w (.panicked (flt 5 (p : Nat))) W4) := HPA.out p W4 ((keep3 HK3.out).trans hk4) (.inl (HR1.out.trans (body_bad H110.out H61.out hb)))
          clear hk4 hb
          go_wp2
          exact ⟨rfl, HFI.out⟩
      · have HFI : Hid (RuIs rb t r l qs A B N D T w (.panicked (flt 5 (y.at_ : Nat))) W3) := HPA.out y.at_ W3 (keep3 ((HK2.out.trans (keepF HK2a.out)).trans hk3)) (.inl (HR1.out.trans (body_bad H110.out h61 (rd_badhead _ _ _ _ _ _ hy))))
        clear hk3 h61 hy
        go_wp2
        exact ⟨rfl, HFI.out⟩
    · have HFI : Hid (RuIs rb t r l qs A B N D T w (.panicked (flt 5 (y.at_ : Nat))) W2) := HPA.out y.at_ W2 (keep3 (HK1.out.trans hk2)) (.inl (HR1.out.trans (body_eq h110 (fun z r' e => by injection e with e1 _; rw [← e1, hy]; omega))))
      clear hk2 h110 hy
      go_wp2
      exact ⟨rfl, HFI.out⟩
  · have HFI : Hid (RuIs rb t r l qs A B N D T w (.panicked (flt 5 (x.at_ : Nat))) W1) := HPA.out x.at_ W1 (keep3 hk1) (.inl hR1)
    clear hk1 hR1
    go_wp2
    exact ⟨rfl, HFI.out⟩
end
end Go.Proofs.YteoddjobpmmgeaaGreat
