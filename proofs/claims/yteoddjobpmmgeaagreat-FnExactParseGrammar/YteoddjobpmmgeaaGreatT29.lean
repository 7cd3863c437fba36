import Derived.Test.YteoddjobpmmgeaaGreatT28
set_option linter.unusedVariables false
set_option linter.unusedSimpArgs false
namespace Go.Proofs.YteoddjobpmmgeaaGreat
section
open Go.RowKit
open M (OpD NodeD Gr)
theorem rd0_grp {n f : Nat} {k : Tok} {l : List Tok} (h : k.kind = 40) : rd n (f + 1) 0 .emp (k :: l) = (match rd n f 5 .emp l with | .inl p => .inl p | .inr (e, r') => match r' with | [] => .inl n | y :: r'' => if y.kind = 41 then .inr (.grp k e y, r'') else .inl y.at_) := by
  rw [rd.eq_def]
  simp only [h]
  rfl
theorem rd0_grp_bad {n f : Nat} {k : Tok} {l : List Tok} {p : Nat} (h : k.kind = 40) (hb : BadR (rd n f 5 .emp l) p) : BadR (rd n (f + 1) 0 .emp (k :: l)) p := by
  rw [rd0_grp h]
  rcases hb with q | ⟨x, y, l', q, hy, ha⟩
  · rw [q]; exact .inl rfl
  · rw [q]
    simp only [hy]
    exact .inl (by rw [← ha]; rfl)
theorem rd0_grp_end {n f : Nat} {k : Tok} {l : List Tok} {x : PE} {l2 : List Tok} (h : k.kind = 40) (hb : rd n f 5 .emp l = .inr (x, l2)) (h2 : ∀ y r, l2 = y :: r → y.kind ≠ 41) : rd n (f + 1) 0 .emp (k :: l) = .inl (pos n l2) := by
  rw [rd0_grp h, hb]
  cases l2 with
  | nil => rfl
  | cons y r =>
    simp only
    rw [if_neg (h2 y r rfl)]
    rfl
theorem rd0_grp_ok {n f : Nat} {k y : Tok} {l : List Tok} {x : PE} {l2 : List Tok} (h : k.kind = 40) (hb : rd n f 5 .emp l = .inr (x, y :: l2)) (h2 : y.kind = 41) : rd n (f + 1) 0 .emp (k :: l) = .inr (.grp k x y, l2) := by
  rw [rd0_grp h, hb]
  simp only
  rw [if_pos h2]
theorem rd0_none {n f : Nat} {l : List Tok} (h : ∀ y r, l = y :: r → y.kind ≠ 110 ∧ y.kind ≠ 34 ∧ y.kind ≠ 91 ∧ y.kind ≠ 46 ∧ y.kind ≠ 94 ∧ y.kind ≠ 40) : rd n (f + 1) 0 .emp l = .inl (pos n l) := by
  cases l with
  | nil => rw [rd.eq_def]; rfl
  | cons y r =>
    obtain ⟨h1, h2, h3, h4, h5, h6⟩ := h y r rfl
    rw [rd.eq_def]
    simp only
    rw [if_neg h1, if_neg h2, if_neg h3, if_neg h4, if_neg h5, if_neg h6]
    rfl
theorem RS.head {rb : Nat} {t : Tx} {r : Rv} {k : Tok} {sa : Option Addr} {sc i : Nat} {l rf th : List Tok} {A B N : Nat → Prop} {w : World} (h : RS rb t r k sa sc i l rf th A B N w) {y : Tok} {l' : List Tok} (e : l = y :: l') : y = k := by
  rcases h.left with q | q
  · rw [q.1] at e
    injection e with e1 e2
    exact e1.symm
  · rw [q.1] at e; cases e
set_option maxHeartbeats 1000000 in
set_option maxRecDepth 100000 in
theorem prim_grp {F : Nat} (H5 : RdC 66 5 6 0 F) (rb : Nat) (t : Tx) (r : Rv) (k : Tok) (sa : Option Addr) (sc i : Nat) (l rf th : List Tok) (A B N : Nat → Prop) (w : World) (hS : RS rb t r k sa sc i l rf th A B N w) (hf : 8 * l.length + 1 < F + 1) (h1 : k.kind ≠ 110) (h2 : k.kind ≠ 34) (h3 : k.kind ≠ 91) (h4 : k.kind ≠ 46) (h5 : k.kind ≠ 94) : Calls Tryz.prog 115 #[.pointer (some ⟨rb, 0, none⟩)] w (RdIs (rd t.n (F + 1) 0 .emp l) 1 rb t r l rf th A B N w) := by
  have HS : Hid (RS rb t r k sa sc i l rf th A B N w) := hS
  have HF : Hid (8 * l.length + 1 < F + 1) := hf
  have G5 : Hid (RdC 66 5 6 0 F) := H5
  have HX : Hid (k.kind ≠ 40 → rd t.n (F + 1) 0 .emp l = .inl (pos t.n l)) := fun h6 => rd0_none (fun y r' e => by rw [hS.head e]; exact ⟨h1, h2, h3, h4, h5, h6⟩)
  have hrb := hS.blk.lt
  have c2 : w.cell? ⟨rb, 2, none⟩ = some (.int .u8 (kk k.kind)) := blk_cell hS.blk rfl
  have c3 : w.cell? ⟨rb, 3, none⟩ = some (.int .i64 (k.at_ : Nat)) := blk_cell hS.blk rfl
  have c4 : w.cell? ⟨rb, 4, none⟩ = some (.string (str k.nm.length (lf k.nm))) := blk_cell hS.blk rfl
  have c5 : w.cell? ⟨rb, 5, none⟩ = some (.slice sa k.set.length sc) := blk_cell hS.blk rfl
  have e1 : (kk k.kind == 97) = false := beq_eq_false_iff_ne.2 (fun q => h1 ((kk_name hS.kind).1 q))
  have e2 : (kk k.kind == 34) = false := beq_eq_false_iff_ne.2 (fun q => h2 ((kk_is hS.kind (by omega) (by omega)).1 q))
  have e3 : (kk k.kind == 91) = false := beq_eq_false_iff_ne.2 (fun q => h3 ((kk_is hS.kind (by omega) (by omega)).1 q))
  have e4 : (kk k.kind == 46) = false := beq_eq_false_iff_ne.2 (fun q => h4 ((kk_is hS.kind (by omega) (by omega)).1 q))
  have e5 : (kk k.kind == 94) = false := beq_eq_false_iff_ne.2 (fun q => h5 ((kk_is hS.kind (by omega) (by omega)).1 q))
  have H40 : Hid (∀ k' : Tok, k'.kind ≠ 97 → (kk k'.kind = 40 ↔ k'.kind = 40) ∧ (kk k'.kind = 41 ↔ k'.kind = 41)) := fun k' q => ⟨kk_is q (by omega) (by omega), kk_is q (by omega) (by omega)⟩
  clear hS hf H5 h1 h2 h3 h4 h5
  generalize str k.nm.length (lf k.nm) = sz at *
  obtain ⟨c, hc⟩ : ∃ c, c = kk k.kind := ⟨_, rfl⟩
  rw [← hc] at c2 e1 e2 e3 e4 e5
  clear hc
  go_enter Tryz.func115, Tryz.ntmps115
  go_wp2_with fail
  obtain ⟨W0, hW0⟩ : ∃ W0, W0 = w.alloc (.cells #[.int .u8 c, .int .i64 (k.at_ : Nat), .string sz, .slice sa k.set.length sc] 59) := ⟨_, rfl⟩
  have HK0 : Hid (Keep (fun _ => False) w W0) := by rw [hW0]; exact Keep.alloc _ _ _
  rw [← hW0]
  clear hW0 c2 c3 c4 c5 e1 e2 e3 e4 e5
  have HS0 : Hid (RS rb t r k sa sc i l rf th A B N W0) := HS.out.kept HK0.out
  refine (expect_rs HS0.out 40 (by omega) (H40.out k HS.out.kind).1).mono ?_
  rintro e W1 ⟨hk1, ⟨h40, rfl⟩ | ⟨h40, l1, rfl, ⟨k1, sa1, sc1, i1, rfl, hS1⟩ | ⟨y, rfl, hy, rfl⟩⟩⟩
  · have HFI : Hid (RdIs (rd t.n (F + 1) 0 .emp l) 1 rb t r l rf th A B N w (.panicked (flt 5 (pos t.n l : Nat))) W1) := ⟨keep3 ((keepF HK0.out).trans hk1), .inr ⟨_, rfl, .inl (HX.out h40)⟩⟩
    clear hk1 h40
    go_wp2
    exact ⟨rfl, HFI.out⟩
  · have HK1 : Hid (Keep (fun b => b = rb) w W1) := (keepF HK0.out).trans hk1
    have HKI : Hid (k.kind = 40) := h40
    have HN1 : Hid (∀ b, New W0 W1 b → New w W1 b) := fun b q => new_trans HK0.out.size q
    have HC : Hid (Calls Tryz.prog 66 #[.pointer (some ⟨rb, 0, none⟩)] W1 (RdIs (rd t.n F 5 .emp l1) 0 rb t r l1 rf th A B (New W0 W1) W1)) := G5.out rb t r k1 sa1 sc1 i1 l1 rf th A B (New W0 W1) W1 hS1 (by have := HF.out; simp at this; omega)
    generalize Value.agg #[Value.int .u8 (kk k.kind), Value.int .i64 (k.at_ : Nat), Value.string (str k.nm.length (lf k.nm)), Value.slice sa k.set.length sc] = vx
    clear hk1 h40 hS1
    go_wp2_with fail
    refine HC.out.mono ?_
    rintro e W2 ⟨hk2, ⟨x, l2, v, v7, v8, k2, sa2, sc2, i2, A2, B2, N2, P, hR, rfl, hO⟩ | ⟨p, rfl, hb⟩⟩
    · have HR : Hid (rd t.n F 5 .emp l1 = .inr (x, l2)) := hR
      have HO : Hid (RdOK rb t r 1 (k :: l1) rf th A B N w x l2 v W2 v7 v8 k2 sa2 sc2 i2 A2 B2 N2 P) := hO.pre HN1.out HK1.out.size hk2.size (by omega) rfl rfl (fun q => q)
      have HK2 : Hid (Keep (C3 rb A B) w W2) := (keep3 HK1.out).trans hk2
      obtain ⟨ty, u, rfl⟩ := TrA.iface x hO.tree
      clear hO hR hk2 HC
      go_wp2_with fail
      refine (expect_rs HO.out.st 41 (by omega) (H40.out k2 HO.out.st.kind).2).mono ?_
      rintro e W3 ⟨hk3, ⟨h41, rfl⟩ | ⟨h41, l3, rfl, ⟨k3, sa3, sc3, i3, rfl, hS3⟩ | ⟨y, rfl, hy, rfl⟩⟩⟩
      · have HFI : Hid (RdIs (rd t.n (F + 1) 0 .emp (k :: l1)) 1 rb t r (k :: l1) rf th A B N w (.panicked (flt 5 (pos t.n l2 : Nat))) W3) := ⟨HK2.out.trans (keep3 hk3), .inr ⟨_, rfl, .inl (rd0_grp_end HKI.out HR.out (fun y r' e => by rw [HO.out.st.head e]; exact h41))⟩⟩
        clear hk3 h41
        go_wp2
        exact ⟨rfl, HFI.out⟩
      · have HFI : Hid (RdIs (rd t.n (F + 1) 0 .emp (k :: l1)) 1 rb t r (k :: l1) rf th A B N w (.returned (.iface ty u)) W3) :=
          ⟨HK2.out.trans (keep3 hk3), .inl ⟨.grp k x k2, l3, _, v7, v8, k3, sa3, sc3, i3, A2, B2, _, P, rd0_grp_ok HKI.out HR.out h41, rfl, HO.out.step HS.out.apt.set HS.out.blk.lt HK2.out.size hk3 hS3 rfl rfl (fun q => q)⟩⟩
        generalize Value.agg #[Value.int .u8 (kk k2.kind), Value.int .i64 (k2.at_ : Nat), Value.string (str k2.nm.length (lf k2.nm)), Value.slice sa2 k2.set.length sc2] = vy
        clear hk3 h41 hS3
        go_wp2
        go_ret
        exact HFI.out
      · have HFI : Hid (RdIs (rd t.n (F + 1) 0 .emp (k :: l1)) 1 rb t r (k :: l1) rf th A B N w (.panicked (flt 5 (y.at_ : Nat))) W3) := ⟨HK2.out.trans (keep3 hk3), .inr ⟨_, rfl, .inr ⟨_, y, [], rd0_grp_ok HKI.out HR.out h41, hy, rfl⟩⟩⟩
        clear hk3 h41 hy
        go_wp2
        exact ⟨rfl, HFI.out⟩
    · have HFI : Hid (RdIs (rd t.n (F + 1) 0 .emp (k :: l1)) 1 rb t r (k :: l1) rf th A B N w (.panicked (flt 5 (p : Nat))) W2) := ⟨(keep3 HK1.out).trans hk2, .inr ⟨p, rfl, rd0_grp_bad HKI.out hb⟩⟩
      clear hk2 hb
      go_wp2
      exact ⟨rfl, HFI.out⟩
  · have HFI : Hid (RdIs (rd t.n (F + 1) 0 .emp [k, y]) 1 rb t r [k, y] rf th A B N w (.panicked (flt 5 (y.at_ : Nat))) W1) := ⟨keep3 ((keepF HK0.out).trans hk1), .inr ⟨_, rfl, rd0_grp_bad h40 (rd_badhead _ _ _ _ _ _ hy)⟩⟩
    clear hk1 h40 hy
    go_wp2
    exact ⟨rfl, HFI.out⟩
end
section
open Go.RowKit
open M (OpD NodeD Gr)
theorem info59 : (Tryz.prog.info? 59).map (fun i => (i.zero, i.size, i.bytes)) = some (some (.agg #[.int .u8 0, .int .i64 0, .string ⟨#[]⟩, .slice none 0 0]), 4, 56) := by kernel_rfl
theorem elem61 : ElemT 61 59 4 56 := ⟨Tryz.underlying61, ⟨_, info59, rfl⟩, by omega⟩
theorem src_tk (W : World) (a b : Int) (z : ByteArray) (sa : Option Addr) (n sc : Nat) {ty : TypeId} : Src Tryz.prog 4 61 (.slice (some ⟨W.heap.size, 0, none⟩) 1 1) 1 [.int .u8 a, .int .i64 b, .string z, .slice sa n sc] (W.alloc (.cells #[.int .u8 a, .int .i64 b, .string z, .slice sa n sc] ty)) :=
  src_cells Tryz.underlying61 rfl (fun j u hu => by
    have hb := World.alloc_heap_new W (.cells #[.int .u8 a, .int .i64 b, .string z, .slice sa n sc] ty)
    simp only [World.cell?, hb]
    rw [← hu]
    simp) (fun u hu => by
    simp only [List.mem_cons, List.not_mem_nil, or_false] at hu
    rcases hu with rfl | rfl | rfl | rfl <;> rfl)
theorem own_in {A : Nat → Prop} {w2 w3 : World} {v : Value} {n : Nat} {cs : List Value} (h : OwnC (fun b => A b ∨ w2.heap.size ≤ b) w3 v 4 (n + 1) cs) : OwnC (fun b => A b ∨ New w2 w3 b) w3 v 4 (n + 1) cs := by
  rcases h with h | ⟨g, cap, e, hq, h1, h2, h3, h4⟩
  · exact absurd h.2.1 (by omega)
  · refine .inr ⟨g, cap, e, ?_, h1, h2, h3, h4⟩
    rcases hq with q | q
    · exact .inl q
    · obtain ⟨u, hu⟩ : ∃ u, cs[0]? = some u := ⟨_, List.getElem?_eq_getElem (by omega)⟩
      have := lt_of_cell ((h3 0 (by omega)).trans hu)
      exact .inr ⟨q, this⟩
theorem RS.addRef {rb : Nat} {t : Tx} {r : Rv} {k : Tok} {sa : Option Addr} {sc i : Nat} {l rf th : List Tok} {A B N : Nat → Prop} {w2 w3 : World} (h : RS rb t r k sa sc i l rf th A B N w2) {v' : Value} {x : Tok} {sx : Option Addr} {sn sm : Nat} {cs : List Value} (hcs : TkCs rf cs) (ho : OwnC (fun b => A b ∨ w2.heap.size ≤ b) w3 v' 4 (rf.length + 1) (cs ++ tkC x (.slice sx sn sm))) (hg : Grew (fun b => A b) w2 w3) (hbig : rf.length + 1 + th.length + l.length ≤ 1000000) :
    RS rb t { r with v7 := v' } k sa sc i l (rf ++ [x]) th (fun b => A b ∨ New w2 w3 b) B N (w3.setCell ⟨rb, 7, none⟩ v') := by
  have hs := hg.size
  have hrb := h.blk.lt
  have hA : ¬ A rb := fun q => (h.apt.rows rb q).2.1 rfl
  have hst : ∀ b, b < w2.heap.size → ¬ A b → b ≠ rb → (w3.setCell ⟨rb, 7, none⟩ v').heap[b]? = w2.heap[b]? := fun b h1 h2 h3 => (Below.heap_setCell _ _ _ _ h3).trans (hg.block b h1 h2)
  have hb3 : RB rb t (nextR r k sa sc) i w3 := (hg.block rb hrb hA).trans h.blk
  refine ⟨blk_set v' hb3, h.set.on (fun b q => hst b (h.apt.set b q).1 (fun z => (h.apt.rows b z).2.2.2 q) (h.apt.set b q).2), ?_, h.thrs.on (fun b q => hst b (h.apt.thrs b q).1 (fun z => (h.apt.rows b z).2.2.1 q) (h.apt.thrs b q).2.1) (fun b q => q), h.left, ?_, h.cap, ⟨?_, ?_, ?_⟩, h.tok, h.kind, ?_, h.tn⟩
  · refine ⟨cs ++ tkC x (.slice sx sn sm), ?_, hcs.snoc⟩
    rw [List.length_append]
    refine (own_in ho).on (fun b q => Below.heap_setCell _ _ _ _ ?_)
    rcases q with q | q
    · exact (h.apt.rows b q).2.1
    · have := q.1; show b ≠ rb; omega
  · exact ints_wide (ints_stay h.txt (fun b q => hst b q.1 q.2.2.1 q.2.1)) (fun b q => ⟨by have := q.1; simp only [size_set]; omega, q.2.1, (fun z => z.elim q.2.2.1 (fun z => by have := z.1; have := q.1; omega)), q.2.2.2⟩)
  · rintro b (q | q)
    · exact ⟨by have := (h.apt.rows b q).1; simp only [size_set]; omega, (h.apt.rows b q).2⟩
    · exact ⟨by have := q.2; simp only [size_set]; omega, by have := q.1; omega, fun z => by have := q.1; have := (h.apt.thrs b z).1; omega, fun z => by have := q.1; have := (h.apt.set b z).1; omega⟩
  · exact fun b q => ⟨by have := (h.apt.thrs b q).1; simp only [size_set]; omega, (h.apt.thrs b q).2⟩
  · exact fun b q => ⟨by have := (h.apt.set b q).1; simp only [size_set]; omega, (h.apt.set b q).2⟩
  · rw [List.length_append]; simp only [List.length_cons, List.length_nil]; omega
theorem grew_keep3 {rb : Nat} {A B : Nat → Prop} {w2 w3 : World} {v : Value} {o : Nat} (hg : Grew (fun b => A b) w2 w3) : Keep (C3 rb A B) w2 (w3.setCell ⟨rb, o, none⟩ v) :=
  ⟨hg.os, hg.tape, hg.output, by simp only [size_set]; exact hg.size, fun b hb hc => (Below.heap_setCell _ _ _ _ (fun e => hc (.inl e))).trans (hg.block b hb (fun q => hc (.inr (.inl q))))⟩
theorem rdok_ref {rb : Nat} {t : Tx} {r : Rv} {k : Tok} {sa : Option Addr} {sc i : Nat} {l1 rf th : List Tok} {A B N : Nat → Prop} {w w1 w2 w3 : World} (h : RS rb t r k sa sc i (k :: l1) rf th A B N w) (hk : Keep (fun b => b = rb) w w1) {k1 : Tok} {sa1 : Option Addr} {sc1 i1 : Nat} {N1 : Nat → Prop} (h1 : RS rb t r k1 sa1 sc1 i1 l1 rf th A B N1 w1) (hN : ∀ b, N1 b → New w w1 b)
    (hk2 : Keep (fun _ => False) w1 w2) {v' : Value} {sx : Option Addr} {sn sm : Nat} {cs : List Value} (hcs : TkCs rf cs) (ho : OwnC (fun b => A b ∨ w2.heap.size ≤ b) w3 v' 4 (rf.length + 1) (cs ++ tkC k (.slice sx sn sm))) (hg : Grew (fun b => A b) w2 w3) :
    Keep (C3 rb A B) w (w3.setCell ⟨rb, 7, none⟩ v') ∧ RdOK rb t r 1 (k :: l1) rf th A B N w (.ref k) l1 (.iface 117 (.agg #[.string (str k.nm.length (lf k.nm))])) (w3.setCell ⟨rb, 7, none⟩ v') v' r.v8 k1 sa1 sc1 i1 (fun b => A b ∨ New w2 w3 b) B N1 (fun _ => False) := by
  have hs := hk.size
  have hs2 := hk2.size
  have hs3 := hg.size
  refine ⟨(keep3 hk).trans ((hk2.mono (fun b q => q.elim)).trans (grew_keep3 hg)), by simp, ?_, rfl, ?_, fun b q => .inl q, fun b q => .inr ⟨(hN b q).1, by have := (hN b q).2; simp only [size_set]; omega⟩, fun b q => q.elim⟩
  · have := (h1.kept hk2).addRef hcs ho hg (by have := h.big; simp only [List.length_cons] at this; omega)
    rw [show PE.refT (.ref k) = [k] from rfl, show PE.thrT (.ref k) = [] from rfl, List.append_nil]
    exact this
  · rintro b (q | q)
    · exact .inl q
    · exact .inr ⟨by have := q.1; omega, by simp only [size_set]; exact q.2⟩
set_option maxHeartbeats 1000000 in
set_option maxRecDepth 100000 in
theorem prim_ref {F : Nat} (rb : Nat) (t : Tx) (r : Rv) (k : Tok) (sa : Option Addr) (sc i : Nat) (l rf th : List Tok) (A B N : Nat → Prop) (w : World) (hS : RS rb t r k sa sc i l rf th A B N w) (hk : k.kind = 110) : Calls Tryz.prog 115 #[.pointer (some ⟨rb, 0, none⟩)] w (RdIs (rd t.n (F + 1) 0 .emp l) 1 rb t r l rf th A B N w) := by
  obtain ⟨l1, rfl⟩ := hS.cons (by rw [hk]; omega)
  have HS : Hid (RS rb t r k sa sc i (k :: l1) rf th A B N w) := hS
  have HR : Hid (rd t.n (F + 1) 0 .emp (k :: l1) = .inr (.ref k, l1)) := by
    rw [rd.eq_def]
    simp only [hk]
    rfl
  have HKI : Hid (kk k.kind = 97) := by rw [hk]; rfl
  have hrb := hS.blk.lt
  have c2 : w.cell? ⟨rb, 2, none⟩ = some (.int .u8 97) := by
    have h : w.cell? ⟨rb, 2, none⟩ = some (.int .u8 (kk k.kind)) := blk_cell hS.blk rfl
    rw [hk] at h
    exact h
  have c3 : w.cell? ⟨rb, 3, none⟩ = some (.int .i64 (k.at_ : Nat)) := blk_cell hS.blk rfl
  have c4 : w.cell? ⟨rb, 4, none⟩ = some (.string (str k.nm.length (lf k.nm))) := blk_cell hS.blk rfl
  have c5 : w.cell? ⟨rb, 5, none⟩ = some (.slice sa k.set.length sc) := blk_cell hS.blk rfl
  clear hS hk
  generalize hsz : str k.nm.length (lf k.nm) = sz at *
  have HSZ : Hid (str k.nm.length (lf k.nm) = sz) := hsz
  clear hsz
  go_enter Tryz.func115, Tryz.ntmps115
  go_wp2_with fail
  obtain ⟨W0, hW0⟩ : ∃ W0, W0 = w.alloc (.cells #[.int .u8 97, .int .i64 (k.at_ : Nat), .string sz, .slice sa k.set.length sc] 59) := ⟨_, rfl⟩
  have HK0 : Hid (Keep (fun _ => False) w W0) := by rw [hW0]; exact Keep.alloc _ _ _
  have HC0 : Hid (W0.heap[w.heap.size]? = some (.cells #[.int .u8 97, .int .i64 (k.at_ : Nat), .string sz, .slice sa k.set.length sc] 59)) := by rw [hW0]; exact blk_new w _ _ rfl
  rw [← hW0]
  clear hW0 c2 c3 c4 c5
  refine (adv_rs (HS.out.kept HK0.out)).mono ?_
  rintro e W1 ⟨hk1, ⟨vv, k1, sa1, sc1, i1, rfl, hS1⟩ | ⟨y, rfl, hy, rfl⟩⟩
  · have HK1 : Hid (Keep (fun b => b = rb) w W1) := (keepF HK0.out).trans hk1
    have HN1 : Hid (∀ b, New W0 W1 b → New w W1 b) := fun b q => new_trans HK0.out.size q
    have cC : W1.heap[w.heap.size]? = some (.cells #[.int .u8 97, .int .i64 (k.at_ : Nat), .string sz, .slice sa k.set.length sc] 59) := (hk1.block w.heap.size (Array.getElem?_eq_some_iff.1 HC0.out).1 (by show ¬ w.heap.size = rb; omega)).trans HC0.out
    have y0 : W1.cell? ⟨w.heap.size, 0, none⟩ = some (.int .u8 97) := blk_cell cC rfl
    have y1 : W1.cell? ⟨w.heap.size, 1, none⟩ = some (.int .i64 (k.at_ : Nat)) := blk_cell cC rfl
    have y2 : W1.cell? ⟨w.heap.size, 2, none⟩ = some (.string sz) := blk_cell cC rfl
    have y3 : W1.cell? ⟨w.heap.size, 3, none⟩ = some (.slice sa k.set.length sc) := blk_cell cC rfl
    have HS1 : Hid (RS rb t r k1 sa1 sc1 i1 l1 rf th A B (New W0 W1) W1) := hS1
    obtain ⟨cs, hcs1, hcs2⟩ := hS1.refs
    have HCS : Hid (TkCs rf cs) := hcs2
    obtain ⟨ra, rc, hv7⟩ := own_shape hcs1
    have c7 : W1.cell? ⟨rb, 7, none⟩ = some (.slice ra rf.length rc) := by
      have h : W1.cell? ⟨rb, 7, none⟩ = some r.v7 := blk_cell hS1.blk rfl
      rw [hv7] at h
      exact h
    have hlen : rf.length + 1 ≤ 16777216 := by have := hS1.big; omega
    have HK2 : Hid (Keep (fun _ => False) W1 (W1.drew.alloc (.cells #[.int .u8 97, .int .i64 (k.at_ : Nat), .string sz, .slice sa k.set.length sc] 59))) := (Keep.drew (fun _ => False) W1).trans (Keep.alloc _ _ _)
    have HOW : Hid (OwnC A (W1.drew.alloc (.cells #[.int .u8 97, .int .i64 (k.at_ : Nat), .string sz, .slice sa k.set.length sc] 59)) (.slice ra rf.length rc) 4 rf.length cs) := by rw [← hv7]; exact hcs1.on (fun b q => HK2.out.block b (hS1.apt.rows b q).1 (fun e => e))
    have HSR : Hid (Src Tryz.prog 4 61 (.slice (some ⟨W1.drew.heap.size, 0, none⟩) 1 1) 1 [.int .u8 97, .int .i64 (k.at_ : Nat), .string sz, .slice sa k.set.length sc] (W1.drew.alloc (.cells #[.int .u8 97, .int .i64 (k.at_ : Nat), .string sz, .slice sa k.set.length sc] 59))) := src_tk W1.drew _ _ _ _ _ _
    have hrb1 : rb < W1.heap.size := hS1.blk.lt
    have HAf : Hid (∀ v4 W4, OwnC (fun b => A b ∨ (W1.drew.alloc (.cells #[.int .u8 97, .int .i64 (k.at_ : Nat), .string sz, .slice sa k.set.length sc] 59)).heap.size ≤ b) W4 v4 4 (rf.length + 1) (cs ++ [.int .u8 97, .int .i64 (k.at_ : Nat), .string sz, .slice sa k.set.length sc]) → Grew (fun b => A b) (W1.drew.alloc (.cells #[.int .u8 97, .int .i64 (k.at_ : Nat), .string sz, .slice sa k.set.length sc] 59)) W4 → RdIs (rd t.n (F + 1) 0 .emp (k :: l1)) 1 rb t r (k :: l1) rf th A B N w (.returned (.iface 117 (.agg #[.string sz]))) (W4.setCell ⟨rb, 7, none⟩ v4) ∧ RB rb t (nextR r k1 sa1 sc1) i1 W4 ∧ W4.heap[w.heap.size]? = some (.cells #[.int .u8 97, .int .i64 (k.at_ : Nat), .string sz, .slice sa k.set.length sc] 59)) := fun v4 W4 ho hg => by
      have hlt := (Array.getElem?_eq_some_iff.1 cC).1
      have hks := HK2.out.size
      refine ⟨?_, (hg.block rb (by omega) (fun q => (HS1.out.apt.rows rb q).2.1 rfl)).trans (HS1.out.kept HK2.out).blk, (hg.block w.heap.size (by omega) (fun q => by have := (HS.out.apt.rows _ q).1; omega)).trans ((HK2.out.block w.heap.size hlt (fun e => e)).trans cC)⟩
      have he : tkC k (.slice sa k.set.length sc) = [.int .u8 97, .int .i64 (k.at_ : Nat), .string sz, .slice sa k.set.length sc] := by unfold tkC; rw [HKI.out, HSZ.out]
      have ho2 : OwnC (fun b => A b ∨ (W1.drew.alloc (.cells #[.int .u8 97, .int .i64 (k.at_ : Nat), .string sz, .slice sa k.set.length sc] 59)).heap.size ≤ b) W4 v4 4 (rf.length + 1) (cs ++ tkC k (.slice sa k.set.length sc)) := by rw [he]; exact ho
      obtain ⟨q1, q2⟩ := rdok_ref HS.out HK1.out HS1.out HN1.out HK2.out HCS.out ho2 hg
      rw [HSZ.out] at q2
      exact ⟨q1, .inl ⟨_, _, _, _, _, _, _, _, _, _, _, _, _, HR.out, rfl, q2⟩⟩
    clear hk1 hS1 HC0 hcs1 hv7 HS1 cC
    go_wp2_with fail
    go_region_law
      (refine stepE rfl (.tmp 20) (.tmp 22) 61 61 rfl (v := .slice ra rf.length rc) (y := .slice (some ⟨W1.drew.heap.size, 0, none⟩) 1 1) (by simp [Act.eval, Act.put]) (by simp [Act.eval, Act.put]) elem61 (Q := A) (n := rf.length) (cs := cs) (m := 1) (news := [.int .u8 97, .int .i64 (k.at_ : Nat), .string sz, .slice sa k.set.length sc]) HOW.out HSR.out hlen ?_
       intro v4 W4 hown4 hgrew4 hsz4
       obtain ⟨hF4, hB4, hC4⟩ := HAf.out v4 W4 hown4 hgrew4
       obtain ⟨a4, n4, rfl⟩ := own_shape hown4
       have HFI : Hid (RdIs (rd t.n (F + 1) 0 .emp (k :: l1)) 1 rb t r (k :: l1) rf th A B N w (.returned (.iface 117 (.agg #[.string sz]))) (W4.setCell ⟨rb, 7, none⟩ (.slice a4 (rf.length + 1) n4))) := hF4
       have z7 : W4.cell? ⟨rb, 7, none⟩ = some r.v7 := blk_cell hB4 rfl
       have g7 : W4.frozen? ⟨rb, 7, none⟩ = false := blk_frz hB4
       have x2 : W4.cell? ⟨w.heap.size, 2, none⟩ = some (.string sz) := blk_cell hC4 rfl
       have lt4 := lt_of_cell z7
       have lt5 := lt_of_cell x2
       clear hown4 hgrew4 hsz4 hF4 hB4 hC4)
    all_goals (
      go_wp2
      go_ret
      exact HFI.out)
  · have HFI : Hid (RdIs (rd t.n (F + 1) 0 .emp [k, y]) 1 rb t r [k, y] rf th A B N w (.panicked (flt 5 (y.at_ : Nat))) W1) :=
      ⟨keep3 ((keepF HK0.out).trans hk1), .inr ⟨y.at_, rfl, .inr ⟨_, y, [], HR.out, hy, rfl⟩⟩⟩
    clear hk1 hy
    go_wp2
    exact ⟨rfl, HFI.out⟩
end
end Go.Proofs.YteoddjobpmmgeaaGreat
