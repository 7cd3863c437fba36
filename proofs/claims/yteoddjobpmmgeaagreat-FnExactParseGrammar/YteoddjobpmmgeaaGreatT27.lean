import Derived.Test.YteoddjobpmmgeaaGreatT26
set_option linter.unusedVariables false
set_option linter.unusedSimpArgs false
namespace Go.Proofs.YteoddjobpmmgeaaGreat
section
open Go.RowKit
open M (OpD NodeD Gr)
def RdC (fn : FuncId) (m c d f : Nat) : Prop := ∀ (rb : Nat) (t : Tx) (r : Rv) (k : Tok) (sa : Option Addr) (sc i : Nat) (l rf th : List Tok) (A B N : Nat → Prop) (w : World), RS rb t r k sa sc i l rf th A B N w → 8 * l.length + c < f → Calls Tryz.prog fn #[.pointer (some ⟨rb, 0, none⟩)] w (RdIs (rd t.n f m .emp l) d rb t r l rf th A B N w)
theorem keep3 {rb : Nat} {A B : Nat → Prop} {w w' : World} (k : Keep (fun b => b = rb) w w') : Keep (C3 rb A B) w w' := k.mono (fun b q => .inl q)
theorem new_trans {w w1 w2 : World} (h : w.heap.size ≤ w1.heap.size) {b : Nat} (q : New w1 w2 b) : New w w2 b := ⟨Nat.le_trans h q.1, q.2⟩
theorem new_more {w w1 w2 : World} (h : w1.heap.size ≤ w2.heap.size) {b : Nat} (q : New w w1 b) : New w w2 b := ⟨q.1, Nat.lt_of_lt_of_le q.2 h⟩
theorem RdOK.tlt {rb : Nat} {t : Tx} {r : Rv} {d : Nat} {l rf th : List Tok} {A B N : Nat → Prop} {w : World} {x : PE} {l1 : List Tok} {v : Value} {w1 : World} {v7 v8 : Value} {k : Tok} {sa : Option Addr} {sc i : Nat} {A' B' N' P : Nat → Prop} (h : RdOK rb t r d l rf th A B N w x l1 v w1 v7 v8 k sa sc i A' B' N' P) (hN : ∀ b, N b → b < w.heap.size ∧ b ≠ rb) (hrb : rb < w.heap.size) (hs : w.heap.size ≤ w1.heap.size) : ∀ b, P b → b < w1.heap.size ∧ b ≠ rb := fun b q => by
  rcases (h.rp b q).1 with q | q
  · have := hN b q; exact ⟨by omega, this.2⟩
  · exact ⟨q.2, fun e => by have := q.1; omega⟩
theorem RdOK.step {rb : Nat} {t : Tx} {r : Rv} {d : Nat} {l rf th : List Tok} {A B N : Nat → Prop} {w : World} {x : PE} {l1 : List Tok} {v : Value} {w1 w2 : World} {v7 v8 : Value} {k : Tok} {sa : Option Addr} {sc i : Nat} {A' B' N' P : Nat → Prop} (h : RdOK rb t r d l rf th A B N w x (k :: l1) v w1 v7 v8 k sa sc i A' B' N' P)
    (hN : ∀ b, N b → b < w.heap.size ∧ b ≠ rb) (hrb : rb < w.heap.size) (hs : w.heap.size ≤ w1.heap.size) (hk : Keep (fun b => b = rb) w1 w2) {k2 : Tok} {sa2 : Option Addr} {sc2 i2 : Nat} (hS : RS rb t { r with v7 := v7, v8 := v8 } k2 sa2 sc2 i2 l1 (rf ++ x.refT) (th ++ x.thrT) A' B' (New w1 w2) w2)
    {x2 : PE} {v2 : Value} (hr : x2.refT = x.refT) (ht : x2.thrT = x.thrT) (hT : TrA w2 x v P → TrA w2 x2 v2 P) : RdOK rb t r d l rf th A B N w x2 l1 v2 w2 v7 v8 k2 sa2 sc2 i2 A' B' (New w1 w2) P := by
  have hlt := h.tlt hN hrb hs
  refine ⟨?_, by rw [hr, ht]; exact hS, hT (TrA.on x h.tree (fun b q => hk.block b (hlt b q).1 (hlt b q).2) (fun b q => q)), ?_, ?_, ?_, ?_⟩
  · have := h.len; simp at this; omega
  · exact fun b q => (h.ra b q).imp id (new_more hk.size)
  · exact fun b q => (h.rb' b q).imp id (new_more hk.size)
  · exact fun b q => .inr (new_trans hs q)
  · exact fun b q => ⟨(h.rp b q).1.imp id (new_more hk.size), (h.rp b q).2.1, (h.rp b q).2.2.1, fun z => by have := (hlt b q).1; have := z.1; omega⟩
theorem rd1_bad {n f : Nat} {l : List Tok} {p : Nat} (h : BadR (rd n f 0 .emp l) p) : BadR (rd n (f + 1) 1 .emp l) p := by
  rw [rd]
  rcases h with q | ⟨x, y, l', q, hy, ha⟩
  · rw [q]; exact .inl rfl
  · rw [q]
    simp only [hy]
    exact .inr ⟨x, y, l', rfl, hy, ha⟩
theorem rd1_star {n f : Nat} {l : List Tok} {x : PE} {y : Tok} {r : List Tok} (h : rd n f 0 .emp l = .inr (x, y :: r)) (hy : y.kind = 42) : rd n (f + 1) 1 .emp l = .inr (.star x y, r) := by
  rw [rd, h]
  simp only [hy, if_true]
theorem rd1_opt {n f : Nat} {l : List Tok} {x : PE} {y : Tok} {r : List Tok} (h : rd n f 0 .emp l = .inr (x, y :: r)) (hy : y.kind = 63) : rd n (f + 1) 1 .emp l = .inr (.opt x y, r) := by
  rw [rd, h]
  simp only [hy]
  rfl
theorem rd1_none {n f : Nat} {l : List Tok} {x : PE} {r : List Tok} (h : rd n f 0 .emp l = .inr (x, r)) (hy : ∀ y r', r = y :: r' → y.kind ≠ 42 ∧ y.kind ≠ 63) : rd n (f + 1) 1 .emp l = .inr (x, r) := by
  rw [rd, h]
  cases r with
  | nil => rfl
  | cons y r' =>
    simp only
    rw [if_neg (hy y r' rfl).1, if_neg (hy y r' rfl).2]
set_option maxHeartbeats 1000000 in
set_option maxRecDepth 100000 in
theorem suffix_step {f : Nat} (H0 : RdC 115 0 1 1 f) : RdC 102 1 2 1 (f + 1) := by
  intro rb t r k sa sc i l rf th A B N w hS hf
  have HN : Hid (∀ b, N b → b < w.heap.size ∧ b ≠ rb) := hS.apt.set
  have HRB : Hid (rb < w.heap.size) := hS.blk.lt
  have HC : Hid (Calls Tryz.prog 115 #[.pointer (some ⟨rb, 0, none⟩)] w (RdIs (rd t.n f 0 .emp l) 1 rb t r l rf th A B N w)) := H0 rb t r k sa sc i l rf th A B N w hS (by omega)
  clear hS hf H0
  go_enter Tryz.func102, Tryz.ntmps102
  go_wp2_with fail
  refine HC.out.mono ?_
  clear HC
  rintro e W1 ⟨hk, ⟨x, l1, v, v7, v8, k1, sa1, sc1, i1, A1, B1, N1, P, hR, rfl, hO⟩ | ⟨p, rfl, hb⟩⟩
  · have HO : Hid (RdOK rb t r 1 l rf th A B N w x l1 v W1 v7 v8 k1 sa1 sc1 i1 A1 B1 N1 P) := hO
    have HR : Hid (rd t.n f 0 .emp l = .inr (x, l1)) := hR
    have HK : Hid (Keep (C3 rb A B) w W1) := hk
    obtain ⟨ty, u, rfl⟩ := TrA.iface x hO.tree
    clear hO hR hk
    go_wp2_with fail
    refine (accept_rs HO.out.st 42 (by omega) (by omega) (by omega)).mono ?_
    rintro e W2 (⟨h42, rfl, hw⟩ | ⟨h42, hk2, l2, rfl, ⟨k2, sa2, sc2, i2, rfl, hS2⟩ | ⟨y, rfl, hy, rfl⟩⟩)
    · obtain rfl := hw.symm
      have H42 : Hid (k1.kind ≠ 42) := h42
      clear h42
      go_wp2_with fail
      refine (accept_rs HO.out.st 63 (by omega) (by omega) (by omega)).mono ?_
      rintro e W2 (⟨h63, rfl, hw⟩ | ⟨h63, hk2, l2, rfl, ⟨k2, sa2, sc2, i2, rfl, hS2⟩ | ⟨y, rfl, hy, rfl⟩⟩)
      · obtain rfl := hw.symm
        have HFI : Hid (RdIs (rd t.n (f + 1) 1 .emp l) 1 rb t r l rf th A B N w (.returned (.iface ty u)) W1) := by
          refine ⟨HK.out, .inl ⟨x, l1, _, v7, v8, k1, sa1, sc1, i1, A1, B1, N1, P, rd1_none HR.out (fun y r' e => ?_), rfl, HO.out⟩⟩
          rcases HO.out.st.left with q | q
          · rw [q.1] at e
            injection e with e1 e2
            rw [← e1]
            exact ⟨H42.out, h63⟩
          · rw [q.1] at e; cases e
        clear h63
        go_wp2
        go_ret
        exact HFI.out
      · have HFI : Hid (RdIs (rd t.n (f + 1) 1 .emp l) 1 rb t r l rf th A B N w (.returned (.iface 122 (.agg #[.iface ty u, .iface 150 (.agg #[])]))) W2) :=
          ⟨HK.out.trans (keep3 hk2), .inl ⟨.opt x k1, l2, _, v7, v8, k2, sa2, sc2, i2, A1, B1, _, P, rd1_opt HR.out h63, rfl, HO.out.step HN.out HRB.out HK.out.size hk2 hS2 rfl rfl (fun q => ⟨_, rfl, q⟩)⟩⟩
        clear h63 hk2 hS2
        go_wp2
        go_ret
        exact HFI.out
      · have HFI : Hid (RdIs (rd t.n (f + 1) 1 .emp l) 1 rb t r l rf th A B N w (.panicked (flt 5 (y.at_ : Nat))) W2) :=
          ⟨HK.out.trans (keep3 hk2), .inr ⟨y.at_, rfl, .inr ⟨_, y, [], rd1_opt HR.out h63, hy, rfl⟩⟩⟩
        clear h63 hk2 hy
        go_wp2
        exact ⟨rfl, HFI.out⟩
    · have HFI : Hid (RdIs (rd t.n (f + 1) 1 .emp l) 1 rb t r l rf th A B N w (.returned (.iface 124 (.agg #[.iface ty u]))) W2) :=
        ⟨HK.out.trans (keep3 hk2), .inl ⟨.star x k1, l2, _, v7, v8, k2, sa2, sc2, i2, A1, B1, _, P, rd1_star HR.out h42, rfl, HO.out.step HN.out HRB.out HK.out.size hk2 hS2 rfl rfl (fun q => ⟨_, rfl, q⟩)⟩⟩
      clear h42 hk2 hS2
      go_wp2
      go_ret
      exact HFI.out
    · have HFI : Hid (RdIs (rd t.n (f + 1) 1 .emp l) 1 rb t r l rf th A B N w (.panicked (flt 5 (y.at_ : Nat))) W2) :=
        ⟨HK.out.trans (keep3 hk2), .inr ⟨y.at_, rfl, .inr ⟨_, y, [], rd1_star HR.out h42, hy, rfl⟩⟩⟩
      clear h42 hk2 hy
      go_wp2
      exact ⟨rfl, HFI.out⟩
  · have HFI : Hid (RdIs (rd t.n (f + 1) 1 .emp l) 1 rb t r l rf th A B N w (.panicked (flt 5 (p : Nat))) W1) := ⟨hk, .inr ⟨p, rfl, rd1_bad hb⟩⟩
    clear hk hb
    go_wp2
    exact ⟨rfl, HFI.out⟩
theorem RdOK.pre {rb : Nat} {t : Tx} {r : Rv} {d d0 : Nat} {k0 : Tok} {l rf th : List Tok} {A B N N0 : Nat → Prop} {w0 w : World} {x : PE} {l1 : List Tok} {v : Value} {w1 : World} {v7 v8 : Value} {k : Tok} {sa : Option Addr} {sc i : Nat} {A' B' N' P : Nat → Prop} (h : RdOK rb t r d l rf th A B N w x l1 v w1 v7 v8 k sa sc i A' B' N' P)
    (hN : ∀ b, N b → New w0 w b) (h0 : w0.heap.size ≤ w.heap.size) (hs : w.heap.size ≤ w1.heap.size) (hd : d0 ≤ d + 1) {x2 : PE} {v2 : Value} (hr : x2.refT = x.refT) (ht : x2.thrT = x.thrT) (hT : TrA w1 x v P → TrA w1 x2 v2 P) : RdOK rb t r d0 (k0 :: l) rf th A B N0 w0 x2 l1 v2 w1 v7 v8 k sa sc i A' B' N' P := by
  refine ⟨?_, by rw [hr, ht]; exact h.st, hT h.tree, ?_, ?_, ?_, ?_⟩
  · have := h.len; simp; omega
  · exact fun b q => (h.ra b q).imp id (new_trans h0)
  · exact fun b q => (h.rb' b q).imp id (new_trans h0)
  · exact fun b q => .inr ((h.rn b q).elim (fun z => new_more hs (hN b z)) (new_trans h0))
  · exact fun b q => ⟨.inr ((h.rp b q).1.elim (fun z => new_more hs (hN b z)) (new_trans h0)), (h.rp b q).2⟩
theorem rd1_nil (n : Nat) : ∀ f, rd n f 1 .emp [] = .inl n
  | 0 => by rw [rd]; rfl
  | 1 => by rw [rd, rd]; rfl
  | f + 2 => by rw [rd, rd.eq_def]
theorem rd2_else {n f : Nat} {l : List Tok} (h : ∀ y r, l = y :: r → y.kind ≠ 33 ∧ y.kind ≠ 38) : rd n (f + 1) 2 .emp l = rd n f 1 .emp l := by
  cases l with
  | nil => rw [rd1_nil, rd.eq_def]
  | cons y r =>
    rw [rd.eq_def]
    simp only
    rw [if_neg (h y r rfl).1, if_neg (h y r rfl).2]
theorem rd2_not {n f : Nat} {y : Tok} {r : List Tok} (h : y.kind = 33) : rd n (f + 1) 2 .emp (y :: r) = (match rd n f 2 .emp r with | .inl p => .inl p | .inr (e, r') => .inr (.not y e, r')) := by
  rw [rd.eq_def]
  simp only [h]
  rfl
theorem rd2_amp {n f : Nat} {y : Tok} {r : List Tok} (h : y.kind = 38) : rd n (f + 1) 2 .emp (y :: r) = (match rd n f 2 .emp r with | .inl p => .inl p | .inr (e, r') => .inr (.amp y e, r')) := by
  rw [rd.eq_def]
  simp only [h]
  rfl
theorem bad_map {R : Sum Nat (PE × List Tok)} {p : Nat} (g : PE → PE) (h : BadR R p) : BadR (match (generalizing := false) R with | .inl p => .inl p | .inr (e, r') => .inr (g e, r')) p := by
  rcases h with q | ⟨x, y, l', q, hy, ha⟩
  · rw [q]; exact .inl rfl
  · rw [q]; exact .inr ⟨g x, y, l', rfl, hy, ha⟩
set_option maxHeartbeats 1000000 in
set_option maxRecDepth 100000 in
theorem prefix_step {f : Nat} (H1 : RdC 102 1 2 1 f) (H2 : RdC 94 2 3 1 f) : RdC 94 2 3 1 (f + 1) := by
  intro rb t r k sa sc i l rf th A B N w hS hf
  have HS : Hid (RS rb t r k sa sc i l rf th A B N w) := hS
  have HF : Hid (8 * l.length + 3 < f + 1) := hf
  have G1 : Hid (RdC 102 1 2 1 f) := H1
  have G2 : Hid (RdC 94 2 3 1 f) := H2
  clear hS hf H1 H2
  go_enter Tryz.func94, Tryz.ntmps94
  go_wp2_with fail
  refine (accept_rs HS.out 33 (by omega) (by omega) (by omega)).mono ?_
  rintro e W1 (⟨h33, rfl, hw⟩ | ⟨h33, hk1, l1, rfl, ⟨k1, sa1, sc1, i1, rfl, hS1⟩ | ⟨y, rfl, hy, rfl⟩⟩)
  · obtain rfl := hw.symm
    have H33 : Hid (k.kind ≠ 33) := h33
    clear h33
    go_wp2_with fail
    refine (accept_rs HS.out 38 (by omega) (by omega) (by omega)).mono ?_
    rintro e W1 (⟨h38, rfl, hw⟩ | ⟨h38, hk1, l1, rfl, ⟨k1, sa1, sc1, i1, rfl, hS1⟩ | ⟨y, rfl, hy, rfl⟩⟩)
    · obtain rfl := hw.symm
      have HE : Hid (rd t.n (f + 1) 2 .emp l = rd t.n f 1 .emp l) := rd2_else (fun y r' e => by
        rcases HS.out.left with q | q
        · rw [q.1] at e
          injection e with e1 e2
          rw [← e1]
          exact ⟨H33.out, h38⟩
        · rw [q.1] at e; cases e)
      clear h38
      go_wp2_with fail
      refine (G1.out rb t r k sa sc i l rf th A B N w HS.out (by have := HF.out; omega)).mono ?_
      rintro e W2 hR
      have HFI : Hid (RdIs (rd t.n (f + 1) 2 .emp l) 1 rb t r l rf th A B N w e W2) := by rw [HE.out]; exact hR
      rcases hR with ⟨_, ⟨x, l1, v, v7, v8, k1, sa1, sc1, i1, A1, B1, N1, P, _, rfl, hO⟩ | ⟨p, rfl, _⟩⟩
      · obtain ⟨ty, u, rfl⟩ := TrA.iface x hO.tree
        clear hO
        go_wp2
        go_ret
        exact HFI.out
      · go_wp2
        exact ⟨rfl, HFI.out⟩
    · have HK1 : Hid (Keep (fun b => b = rb) w W1) := hk1
      have H38 : Hid (k.kind = 38) := h38
      have HC : Hid (Calls Tryz.prog 94 #[.pointer (some ⟨rb, 0, none⟩)] W1 (RdIs (rd t.n f 2 .emp l1) 1 rb t r l1 rf th A B (New w W1) W1)) := G2.out rb t r k1 sa1 sc1 i1 l1 rf th A B (New w W1) W1 hS1 (by have := HF.out; simp at this; omega)
      clear hk1 h38 hS1
      go_wp2_with fail
      refine HC.out.mono ?_
      rintro e W2 ⟨hk2, ⟨x, l2, v, v7, v8, k2, sa2, sc2, i2, A2, B2, N2, P, hR, rfl, hO⟩ | ⟨p, rfl, hb⟩⟩
      · obtain ⟨ty, u, rfl⟩ := TrA.iface x hO.tree
        have HFI : Hid (RdIs (rd t.n (f + 1) 2 .emp (k :: l1)) 1 rb t r (k :: l1) rf th A B N w (.returned (.iface 125 (.agg #[.iface 125 (.agg #[.iface ty u])]))) W2) :=
          ⟨(keep3 HK1.out).trans hk2, .inl ⟨.amp k x, l2, _, v7, v8, k2, sa2, sc2, i2, A2, B2, N2, P, by rw [rd2_amp H38.out, hR], rfl, hO.pre (fun b q => q) HK1.out.size hk2.size (by omega) rfl rfl (fun q => ⟨_, rfl, q⟩)⟩⟩
        clear hk2 hO hR
        go_wp2
        go_ret
        exact HFI.out
      · have HFI : Hid (RdIs (rd t.n (f + 1) 2 .emp (k :: l1)) 1 rb t r (k :: l1) rf th A B N w (.panicked (flt 5 (p : Nat))) W2) :=
          ⟨(keep3 HK1.out).trans hk2, .inr ⟨p, rfl, by rw [rd2_amp H38.out]; exact bad_map _ hb⟩⟩
        clear hk2 hb
        go_wp2
        exact ⟨rfl, HFI.out⟩
    · have HFI : Hid (RdIs (rd t.n (f + 1) 2 .emp [k, y]) 1 rb t r [k, y] rf th A B N w (.panicked (flt 5 (y.at_ : Nat))) W1) :=
        ⟨keep3 hk1, .inr ⟨y.at_, rfl, by rw [rd2_amp h38]; exact bad_map _ (rd_badhead _ _ _ _ _ _ hy)⟩⟩
      clear h38 hk1 hy
      go_wp2
      exact ⟨rfl, HFI.out⟩
  · have HK1 : Hid (Keep (fun b => b = rb) w W1) := hk1
    have H33 : Hid (k.kind = 33) := h33
    have HC : Hid (Calls Tryz.prog 94 #[.pointer (some ⟨rb, 0, none⟩)] W1 (RdIs (rd t.n f 2 .emp l1) 1 rb t r l1 rf th A B (New w W1) W1)) := G2.out rb t r k1 sa1 sc1 i1 l1 rf th A B (New w W1) W1 hS1 (by have := HF.out; simp at this; omega)
    clear hk1 h33 hS1
    go_wp2_with fail
    refine HC.out.mono ?_
    rintro e W2 ⟨hk2, ⟨x, l2, v, v7, v8, k2, sa2, sc2, i2, A2, B2, N2, P, hR, rfl, hO⟩ | ⟨p, rfl, hb⟩⟩
    · obtain ⟨ty, u, rfl⟩ := TrA.iface x hO.tree
      have HFI : Hid (RdIs (rd t.n (f + 1) 2 .emp (k :: l1)) 1 rb t r (k :: l1) rf th A B N w (.returned (.iface 125 (.agg #[.iface ty u]))) W2) :=
        ⟨(keep3 HK1.out).trans hk2, .inl ⟨.not k x, l2, _, v7, v8, k2, sa2, sc2, i2, A2, B2, N2, P, by rw [rd2_not H33.out, hR], rfl, hO.pre (fun b q => q) HK1.out.size hk2.size (by omega) rfl rfl (fun q => ⟨_, rfl, q⟩)⟩⟩
      clear hk2 hO hR
      go_wp2
      go_ret
      exact HFI.out
    · have HFI : Hid (RdIs (rd t.n (f + 1) 2 .emp (k :: l1)) 1 rb t r (k :: l1) rf th A B N w (.panicked (flt 5 (p : Nat))) W2) :=
        ⟨(keep3 HK1.out).trans hk2, .inr ⟨p, rfl, by rw [rd2_not H33.out]; exact bad_map _ hb⟩⟩
      clear hk2 hb
      go_wp2
      exact ⟨rfl, HFI.out⟩
  · have HFI : Hid (RdIs (rd t.n (f + 1) 2 .emp [k, y]) 1 rb t r [k, y] rf th A B N w (.panicked (flt 5 (y.at_ : Nat))) W1) :=
      ⟨keep3 hk1, .inr ⟨y.at_, rfl, by rw [rd2_not h33]; exact bad_map _ (rd_badhead _ _ _ _ _ _ hy)⟩⟩
    clear h33 hk1 hy
    go_wp2
    exact ⟨rfl, HFI.out⟩
end
section
open Go.RowKit
open M (OpD NodeD Gr)
theorem RdOK.keep {rb : Nat} {t : Tx} {r : Rv} {d : Nat} {l rf th : List Tok} {A B N : Nat → Prop} {w : World} {x : PE} {l1 : List Tok} {v : Value} {w1 w2 : World} {v7 v8 : Value} {k : Tok} {sa : Option Addr} {sc i : Nat} {A' B' N' P : Nat → Prop} (h : RdOK rb t r d l rf th A B N w x l1 v w1 v7 v8 k sa sc i A' B' N' P)
    (h1 : Keep (C3 rb A B) w w1) (h2 : Keep (C3 rb A' B') w1 w2) : Keep (C3 rb A B) w w2 := by
  refine ⟨h2.os.trans h1.os, h2.tape.trans h1.tape, h2.output.trans h1.output, Nat.le_trans h1.size h2.size, fun b hb hc => ?_⟩
  have hs := h1.size
  refine (h2.block b (by omega) ?_).trans (h1.block b hb hc)
  rintro (q | q | q)
  · exact hc (.inl q)
  · rcases h.ra b q with q | q
    · exact hc (.inr (.inl q))
    · have := q.1; omega
  · rcases h.rb' b q with q | q
    · exact hc (.inr (.inr q))
    · have := q.1; omega
theorem RdOK.two {rb : Nat} {t : Tx} {r : Rv} {d d2 d3 : Nat} {l rf th : List Tok} {A B N : Nat → Prop} {w : World} {x : PE} {l1 : List Tok} {v : Value} {w1 w2 : World} {v7 v8 : Value} {k : Tok} {sa : Option Addr} {sc i : Nat} {A1 B1 N1 P1 : Nat → Prop} (h : RdOK rb t r d l rf th A B N w x l1 v w1 v7 v8 k sa sc i A1 B1 N1 P1)
    (hN : ∀ b, N b → b < w.heap.size ∧ b ≠ rb) (hrb : rb < w.heap.size) (hs : w.heap.size ≤ w1.heap.size) (hk : Keep (C3 rb A1 B1) w1 w2)
    {y : PE} {l2 : List Tok} {v2 : Value} {u7 u8 : Value} {k2 : Tok} {sa2 : Option Addr} {sc2 i2 : Nat} {A2 B2 N2 P2 : Nat → Prop} (h2 : RdOK rb t { r with v7 := v7, v8 := v8 } d2 l1 (rf ++ x.refT) (th ++ x.thrT) A1 B1 N1 w1 y l2 v2 w2 u7 u8 k2 sa2 sc2 i2 A2 B2 N2 P2)
    {z : PE} {ty : TypeId} (hd : d3 ≤ d + d2) (hr : z.refT = x.refT ++ y.refT) (ht : z.thrT = x.thrT ++ y.thrT) (hT : ∀ vz P, TwoA (TrA w2 x) (TrA w2 y) ty vz P → TrA w2 z vz P) :
    RdOK rb t r d3 l rf th A B N w z l2 (.iface ty (.agg #[v, v2])) w2 u7 u8 k2 sa2 sc2 i2 A2 B2 N2 (fun b => P1 b ∨ P2 b) := by
  have hlt := h.tlt hN hrb hs
  have hs2 := hk.size
  have hnC : ∀ b, P1 b → ¬ C3 rb A1 B1 b := fun b q => by
    rintro (z | z | z)
    · exact (hlt b q).2 z
    · exact (h.rp b q).2.1 z
    · exact (h.rp b q).2.2.1 z
  refine ⟨by have := h.len; have := h2.len; omega, by rw [hr, ht, ← List.append_assoc, ← List.append_assoc]; exact h2.st, hT _ _ ⟨v, v2, P1, P2, rfl, fun b q => .inl q, fun b q => .inr q, ?_, TrA.on x h.tree (fun b q => hk.block b (hlt b q).1 (hnC b q)) (fun b q => q), h2.tree⟩, ?_, ?_, ?_, ?_⟩
  · intro b q q2
    rcases (h2.rp b q2).1 with z | z
    · exact (h.rp b q).2.2.2 z
    · have := (hlt b q).1; have := z.1; omega
  · exact fun b q => (h2.ra b q).elim (fun z => (h.ra b z).imp id (new_more hs2)) (fun z => .inr (new_trans hs z))
  · exact fun b q => (h2.rb' b q).elim (fun z => (h.rb' b z).imp id (new_more hs2)) (fun z => .inr (new_trans hs z))
  · exact fun b q => (h2.rn b q).elim (fun z => (h.rn b z).imp id (new_more hs2)) (fun z => .inr (new_trans hs z))
  · rintro b (q | q)
    · refine ⟨(h.rp b q).1.imp id (new_more hs2), fun z => ?_, fun z => ?_, fun z => ?_⟩
      · rcases h2.ra b z with z | z
        · exact (h.rp b q).2.1 z
        · have := (hlt b q).1; have := z.1; omega
      · rcases h2.rb' b z with z | z
        · exact (h.rp b q).2.2.1 z
        · have := (hlt b q).1; have := z.1; omega
      · rcases h2.rn b z with z | z
        · exact (h.rp b q).2.2.2 z
        · have := (hlt b q).1; have := z.1; omega
    · exact ⟨(h2.rp b q).1.elim (fun z => (h.rn b z).imp id (new_more hs2)) (fun z => .inr (new_trans hs z)), (h2.rp b q).2⟩
theorem RdOK.less {rb : Nat} {t : Tx} {r : Rv} {d d2 : Nat} {l rf th : List Tok} {A B N : Nat → Prop} {w : World} {x : PE} {l1 : List Tok} {v : Value} {w1 : World} {v7 v8 : Value} {k : Tok} {sa : Option Addr} {sc i : Nat} {A' B' N' P : Nat → Prop} (h : RdOK rb t r d l rf th A B N w x l1 v w1 v7 v8 k sa sc i A' B' N' P) (hd : d2 ≤ d) : RdOK rb t r d2 l rf th A B N w x l1 v w1 v7 v8 k sa sc i A' B' N' P :=
  ⟨by have := h.len; omega, h.st, h.tree, h.ra, h.rb', h.rn, h.rp⟩
theorem RdOK.none {rb : Nat} {t : Tx} {r : Rv} {k : Tok} {sa : Option Addr} {sc i : Nat} {l rf th : List Tok} {A B N : Nat → Prop} {w : World} (h : RS rb t r k sa sc i l rf th A B N w) : RdOK rb t r 0 l rf th A B N w .emp l empV w r.v7 r.v8 k sa sc i A B N (fun _ => False) :=
  ⟨Nat.le_refl _, by rw [show PE.refT .emp = [] from rfl, show PE.thrT .emp = [] from rfl, List.append_nil, List.append_nil]; exact h, rfl, fun b q => .inl q, fun b q => .inl q, fun b q => .inl q, fun b q => q.elim⟩
theorem RS.kAt {rb : Nat} {t : Tx} {r : Rv} {k : Tok} {sa : Option Addr} {sc i : Nat} {l rf th : List Tok} {A B N : Nat → Prop} {w : World} (h : RS rb t r k sa sc i l rf th A B N w) : kAt l 0 = k.kind := by
  rcases h.left with q | q
  · rw [q.1]; rfl
  · rw [q.1, q.2.1]; rfl
theorem begI_kk {k : Int} (h : k ≠ 97) : (begI (kk k) = true ↔ beg k) := by
  unfold begI beg kk
  rw [decide_eq_true_iff]
  split
  · omega
  · omega
def lenM (t : Tx) (rb : Nat) (w : World) : Nat := match w.cell? ⟨rb, 2, none⟩ with | some (.int _ x) => if x = 0 then 0 else (tokL t (atOf rb w)).length + 1 | _ => 0
theorem RS.lenM {rb : Nat} {t : Tx} {r : Rv} {k : Tok} {sa : Option Addr} {sc i : Nat} {l rf th : List Tok} {A B N : Nat → Prop} {w : World} (h : RS rb t r k sa sc i l rf th A B N w) : lenM t rb w = l.length := by
  have c2 : w.cell? ⟨rb, 2, none⟩ = some (.int .u8 (kk k.kind)) := blk_cell h.blk rfl
  unfold Go.Proofs.YteoddjobpmmgeaaGreat.lenM
  rw [c2, h.blk.at_]
  simp only
  have hk : (kk k.kind = 0 ↔ k.kind = 0) := kk_is h.kind (by omega) (by omega)
  rcases h.left with q | q
  · rw [if_neg (fun z => q.2.1 (hk.1 z)), q.1]
    rfl
  · rw [if_pos (hk.2 (by rw [q.2.1])), q.1]
    rfl
theorem rd4_none {n f : Nat} {l : List Tok} (h : ¬ beg (kAt l 0)) : rd n (f + 1) 4 .emp l = .inr (.emp, l) := by
  rw [rd, if_neg h]
theorem rd4_some {n f : Nat} {l : List Tok} (h : beg (kAt l 0)) : rd n (f + 1) 4 .emp l = (match rd n f 2 .emp l with | .inl p => .inl p | .inr (e, r) => rd n f 3 e r) := by
  rw [rd, if_pos h]
  rfl
theorem rd3_none {n f : Nat} {acc : PE} {l : List Tok} (h : ¬ beg (kAt l 0)) : rd n (f + 1) 3 acc l = .inr (acc, l) := by
  rw [rd, if_neg h]
theorem rd3_some {n f : Nat} {acc : PE} {l : List Tok} (h : beg (kAt l 0)) : rd n (f + 1) 3 acc l = (match rd n f 2 .emp l with | .inl p => .inl p | .inr (e, r) => rd n f 3 (.seq acc e) r) := by
  rw [rd, if_pos h]
  rfl
theorem bad_then {n f m : Nat} {R : Sum Nat (PE × List Tok)} {p : Nat} (g : PE → PE) (h : BadR R p) : BadR (match (generalizing := false) R with | .inl p => .inl p | .inr (e, r) => rd n f m (g e) r) p := by
  rcases h with q | ⟨x, y, l', q, hy, ha⟩
  · rw [q]; exact .inl rfl
  · rw [q, ← ha]; exact rd_badhead n f m (g x) y l' hy
def sqI (F : Nat) (rb : Nat) (t : Tx) (r : Rv) (l rf th : List Tok) (A B N : Nat → Prop) (w : World) (v : Value) (wr : World) : Prop :=
  Keep (C3 rb A B) w wr ∧ ∃ f acc l1 v7 v8 k sa sc i A' B' N' P, f + 1 ≤ F ∧ rd t.n (F + 1) 4 .emp l = rd t.n (f + 1) 3 acc l1 ∧ 8 * l1.length + 4 < f + 1 ∧ RdOK rb t r 1 l rf th A B N w acc l1 v wr v7 v8 k sa sc i A' B' N' P
set_option maxHeartbeats 1000000 in
set_option maxRecDepth 100000 in
theorem seq_step {F : Nat} (H2 : ∀ g, g ≤ F → RdC 94 2 3 1 g) : RdC 83 4 4 0 (F + 1) := by
  intro rb t r k sa sc i l rf th A B N w hS hf
  have HS : Hid (RS rb t r k sa sc i l rf th A B N w) := hS
  have HF : Hid (8 * l.length + 4 < F + 1) := hf
  have G2 : Hid (∀ g, g ≤ F → RdC 94 2 3 1 g) := H2
  have c2 : w.cell? ⟨rb, 2, none⟩ = some (.int .u8 (kk k.kind)) := blk_cell hS.blk rfl
  have HB : Hid (begI (kk k.kind) = true ↔ beg (kAt l 0)) := by rw [hS.kAt]; exact begI_kk hS.kind
  clear hS hf H2
  generalize kk k.kind = c at c2 HB
  by_cases hb : begI c = true
  · have hbe := HB.out.1 hb
    have HBE : Hid (beg (kAt l 0)) := hbe
    have HBG : Hid (Calls Tryz.prog 93 #[.int .u8 c] w fun e w' => e = .returned (.bool true) ∧ w' = w) := (beginsPrefix_any c w).mono (fun e w' q => by rw [hb] at q; exact q)
    clear hbe hb
    go_enter Tryz.func83, Tryz.ntmps83
    go_wp2_with fail
    refine HBG.out.mono ?_
    rintro e W0 ⟨rfl, hw⟩
    obtain rfl := hw.symm
    clear HBG
    go_wp2_with fail
    refine (G2.out F (Nat.le_refl _) rb t r k sa sc i l rf th A B N w HS.out (by have := HF.out; omega)).mono ?_
    rintro e W1 ⟨hk1, ⟨x, l1, v, v7, v8, k1, sa1, sc1, i1, A1, B1, N1, P, hR, rfl, hO⟩ | ⟨p, rfl, hbad⟩⟩
    · have HI : Hid (sqI F rb t r l rf th A B N w v W1) := by
        have h1 := HF.out
        have h2 := hO.len
        obtain ⟨f, rfl⟩ : ∃ f, F = f + 1 := ⟨F - 1, by omega⟩
        exact ⟨hk1, f, x, l1, v7, v8, k1, sa1, sc1, i1, A1, B1, N1, P, Nat.le_refl _, by rw [rd4_some HBE.out, hR], by omega, hO⟩
      clear hR hO hk1 c2
      go_wp2
      go_loopw [3] (sqI F rb t r l rf th A B N w) (fun _ wr => lenM t rb wr)
      case atStart => exact HI.out
      case round =>
        obtain ⟨hk, f, acc, l1, v7, v8, k1, sa1, sc1, i1, A1, B1, N1, P, hf, hE, hfl, hO⟩ := hrel
        obtain ⟨ty3, u3, rfl⟩ := TrA.iface acc hO.tree
        have HO : Hid (RdOK rb t r 1 l rf th A B N w acc l1 (.iface ty3 u3) wr v7 v8 k1 sa1 sc1 i1 A1 B1 N1 P) := hO
        have HE : Hid (rd t.n (F + 1) 4 .emp l = rd t.n (f + 1) 3 acc l1) := hE
        have HFL : Hid (8 * l1.length + 4 < f + 1 ∧ f + 1 ≤ F) := ⟨hfl, hf⟩
        have HK : Hid (Keep (C3 rb A B) w wr) := hk
        have HLM : Hid (lenM t rb wr = l1.length) := hO.st.lenM
        have c2 : wr.cell? ⟨rb, 2, none⟩ = some (.int .u8 (kk k1.kind)) := blk_cell hO.st.blk rfl
        have HB1 : Hid (begI (kk k1.kind) = true ↔ beg (kAt l1 0)) := by rw [hO.st.kAt]; exact begI_kk hO.st.kind
        clear hO hE hfl hf hk HI HB HBE
        generalize kk k1.kind = c1 at c2 HB1
        by_cases hb : begI c1 = true
        · have HBE : Hid (beg (kAt l1 0)) := HB1.out.1 hb
          have HBG : Hid (Calls Tryz.prog 93 #[.int .u8 c1] wr fun e w' => e = .returned (.bool true) ∧ w' = wr) := (beginsPrefix_any c1 wr).mono (fun e w' q => by rw [hb] at q; exact q)
          clear hb
          go_wp2_with fail
          refine HBG.out.mono ?_
          rintro e W0 ⟨rfl, hw⟩
          obtain rfl := hw.symm
          clear HBG
          go_wp2_with fail
          refine (G2.out f (by have := HFL.out; omega) rb t { r with v7 := v7, v8 := v8 } k1 sa1 sc1 i1 l1 (rf ++ acc.refT) (th ++ acc.thrT) A1 B1 N1 wr HO.out.st (by have := HFL.out; omega)).mono ?_
          rintro e W2 ⟨hk2, ⟨y, l2, v2, u7, u8, k2, sa2, sc2, i2, A2, B2, N2, P2, hR, rfl, hO2⟩ | ⟨p, rfl, hbad⟩⟩
          · obtain ⟨ty2, u2, rfl⟩ := TrA.iface y hO2.tree
            have HI2 : Hid (sqI F rb t r l rf th A B N w (.iface 121 (.agg #[.iface ty3 u3, .iface ty2 u2])) W2) := by
              have h1 := HFL.out
              have h2 := hO2.len
              obtain ⟨g, rfl⟩ : ∃ g, f = g + 1 := ⟨f - 1, by omega⟩
              exact ⟨HO.out.keep HK.out hk2, g, .seq acc y, l2, u7, u8, k2, sa2, sc2, i2, A2, B2, N2, _, by omega, by rw [HE.out, rd3_some HBE.out, hR], by omega, HO.out.two HS.out.apt.set HS.out.blk.lt HK.out.size hk2 hO2 (by omega) rfl rfl (fun vz P q => q)⟩
            have HM : Hid (lenM t rb W2 < lenM t rb wr) := by
              rw [HLM.out, hO2.st.lenM]
              have h3 : l2.length < l1.length := by
                have := hO2.len
                omega
              exact h3
            clear hR hO2 hk2 c2
            go_wp2
            go_roundw
            all_goals first
              | exact HI2.out
              | exact HM.out
          · have HFI : Hid (RdIs (rd t.n (F + 1) 4 .emp l) 0 rb t r l rf th A B N w (.panicked (flt 5 (p : Nat))) W2) :=
              ⟨HO.out.keep HK.out hk2, .inr ⟨p, rfl, by rw [HE.out, rd3_some HBE.out]; exact bad_then _ hbad⟩⟩
            clear hk2 hbad
            go_wp2
            exact ⟨rfl, HFI.out⟩
        · have HBE : Hid (¬ beg (kAt l1 0)) := fun q => hb (HB1.out.2 q)
          have HBG : Hid (Calls Tryz.prog 93 #[.int .u8 c1] wr fun e w' => e = .returned (.bool false) ∧ w' = wr) := (beginsPrefix_any c1 wr).mono (fun e w' q => by rw [(Bool.not_eq_true _).mp hb] at q; exact q)
          have HFI : Hid (RdIs (rd t.n (F + 1) 4 .emp l) 0 rb t r l rf th A B N w (.returned (.iface ty3 u3)) wr) :=
            ⟨HK.out, .inl ⟨acc, l1, _, v7, v8, k1, sa1, sc1, i1, A1, B1, N1, P, by rw [HE.out, rd3_none HBE.out], rfl, HO.out.less (by omega)⟩⟩
          clear hb
          go_wp2_with fail
          refine HBG.out.mono ?_
          rintro e W0 ⟨rfl, hw⟩
          obtain rfl := hw.symm
          clear HBG
          go_wp2
          go_ret
          exact HFI.out
    · have HFI : Hid (RdIs (rd t.n (F + 1) 4 .emp l) 0 rb t r l rf th A B N w (.panicked (flt 5 (p : Nat))) W1) :=
        ⟨hk1, .inr ⟨p, rfl, by rw [rd4_some HBE.out]; exact bad_then (fun e => e) hbad⟩⟩
      clear hk1 hbad
      go_wp2
      exact ⟨rfl, HFI.out⟩
  · have HBE : Hid (¬ beg (kAt l 0)) := fun q => hb (HB.out.2 q)
    have HBG : Hid (Calls Tryz.prog 93 #[.int .u8 c] w fun e w' => e = .returned (.bool false) ∧ w' = w) := (beginsPrefix_any c w).mono (fun e w' q => by rw [(Bool.not_eq_true _).mp hb] at q; exact q)
    have HFI : Hid (RdIs (rd t.n (F + 1) 4 .emp l) 0 rb t r l rf th A B N w (.returned empV) w) :=
      ⟨Keep.refl _ _, .inl ⟨.emp, l, _, r.v7, r.v8, k, sa, sc, i, A, B, N, _, rd4_none HBE.out, rfl, RdOK.none HS.out⟩⟩
    clear hb
    go_enter Tryz.func83, Tryz.ntmps83
    go_wp2_with fail
    refine HBG.out.mono ?_
    rintro e W0 ⟨rfl, hw⟩
    obtain rfl := hw.symm
    clear HBG
    go_wp2
    go_ret
    exact HFI.out
end
end Go.Proofs.YteoddjobpmmgeaaGreat
