import Derived.Test.YteoddjobpmmgeaaGreatT29
set_option linter.unusedVariables false
set_option linter.unusedSimpArgs false
namespace Go.Proofs.YteoddjobpmmgeaaGreat
section
open Go.RowKit
open M (OpD NodeD Gr)
theorem RS.addThr {rb : Nat} {t : Tx} {r : Rv} {k : Tok} {sa : Option Addr} {sc i : Nat} {l rf th : List Tok} {A B N : Nat → Prop} {w2 w3 : World} (h : RS rb t r k sa sc i l rf th A B N w2) {v' : Value} {x : Tok} {sx : Option Addr} {sn sm : Nat} {cs : List Value} (hcs : TkCs th cs) (ho : OwnC (fun b => B b ∨ w2.heap.size ≤ b) w3 v' 4 (th.length + 1) (cs ++ tkC x (.slice sx sn sm))) (hg : Grew (fun b => B b) w2 w3) (hbig : rf.length + (th.length + 1) + l.length ≤ 1000000) :
    RS rb t { r with v8 := v' } k sa sc i l rf (th ++ [x]) A (fun b => B b ∨ New w2 w3 b) N (w3.setCell ⟨rb, 8, none⟩ v') := by
  have hs := hg.size
  have hrb := h.blk.lt
  have hB : ¬ B rb := fun q => (h.apt.thrs rb q).2.1 rfl
  have hst : ∀ b, b < w2.heap.size → ¬ B b → b ≠ rb → (w3.setCell ⟨rb, 8, none⟩ v').heap[b]? = w2.heap[b]? := fun b h1 h2 h3 => (Below.heap_setCell _ _ _ _ h3).trans (hg.block b h1 h2)
  have hb3 : RB rb t (nextR r k sa sc) i w3 := (hg.block rb hrb hB).trans h.blk
  refine ⟨blk_set v' hb3, h.set.on (fun b q => hst b (h.apt.set b q).1 (fun z => (h.apt.thrs b z).2.2 q) (h.apt.set b q).2), h.refs.on (fun b q => hst b (h.apt.rows b q).1 (h.apt.rows b q).2.2.1 (h.apt.rows b q).2.1) (fun b q => q), ?_, h.left, ?_, h.cap, ⟨?_, ?_, ?_⟩, h.tok, h.kind, ?_, h.tn⟩
  · refine ⟨cs ++ tkC x (.slice sx sn sm), ?_, hcs.snoc⟩
    rw [List.length_append]
    refine (own_in ho).on (fun b q => Below.heap_setCell _ _ _ _ ?_)
    rcases q with q | q
    · exact (h.apt.thrs b q).2.1
    · have := q.1; show b ≠ rb; omega
  · exact ints_wide (ints_stay h.txt (fun b q => hst b q.1 q.2.2.2 q.2.1)) (fun b q => ⟨by have := q.1; simp only [size_set]; omega, q.2.1, q.2.2.1, (fun z => z.elim q.2.2.2 (fun z => by have := z.1; have := q.1; omega))⟩)
  · exact fun b q => ⟨by have := (h.apt.rows b q).1; simp only [size_set]; omega, (h.apt.rows b q).2.1, (fun z => z.elim (h.apt.rows b q).2.2.1 (fun z => by have := z.1; have := (h.apt.rows b q).1; omega)), (h.apt.rows b q).2.2.2⟩
  · rintro b (q | q)
    · exact ⟨by have := (h.apt.thrs b q).1; simp only [size_set]; omega, (h.apt.thrs b q).2⟩
    · exact ⟨by have := q.2; simp only [size_set]; omega, by have := q.1; omega, fun z => by have := q.1; have := (h.apt.set b z).1; omega⟩
  · exact fun b q => ⟨by have := (h.apt.set b q).1; simp only [size_set]; omega, (h.apt.set b q).2⟩
  · rw [List.length_append]; simp only [List.length_cons, List.length_nil]; omega
theorem grew_keep3' {rb : Nat} {A B : Nat → Prop} {w2 w3 : World} {v : Value} {o : Nat} (hg : Grew (fun b => B b) w2 w3) : Keep (C3 rb A B) w2 (w3.setCell ⟨rb, o, none⟩ v) :=
  ⟨hg.os, hg.tape, hg.output, by simp only [size_set]; exact hg.size, fun b hb hc => (Below.heap_setCell _ _ _ _ (fun e => hc (.inl e))).trans (hg.block b hb (fun q => hc (.inr (.inr q))))⟩
theorem rdok_thr {rb : Nat} {t : Tx} {r : Rv} {k : Tok} {sa : Option Addr} {sc i : Nat} {y : Tok} {l1 rf th : List Tok} {A B N : Nat → Prop} {w w1 w2 w3 : World} (h : RS rb t r k sa sc i (k :: y :: l1) rf th A B N w) (hk : Keep (fun b => b = rb) w w1) {k1 : Tok} {sa1 : Option Addr} {sc1 i1 : Nat} {N1 : Nat → Prop} (h1 : RS rb t r k1 sa1 sc1 i1 l1 rf th A B N1 w1) (hN : ∀ b, N1 b → New w w1 b)
    (hk2 : Keep (fun _ => False) w1 w2) {v' : Value} {sx : Option Addr} {sn sm : Nat} {cs : List Value} (hcs : TkCs th cs) (ho : OwnC (fun b => B b ∨ w2.heap.size ≤ b) w3 v' 4 (th.length + 1) (cs ++ tkC y (.slice sx sn sm))) (hg : Grew (fun b => B b) w2 w3) :
    Keep (C3 rb A B) w (w3.setCell ⟨rb, 8, none⟩ v') ∧ RdOK rb t r 1 (k :: y :: l1) rf th A B N w (.thr k y) l1 (.iface 119 (.agg #[.string (str y.nm.length (lf y.nm))])) (w3.setCell ⟨rb, 8, none⟩ v') r.v7 v' k1 sa1 sc1 i1 A (fun b => B b ∨ New w2 w3 b) N1 (fun _ => False) := by
  have hs := hk.size
  have hs2 := hk2.size
  have hs3 := hg.size
  refine ⟨(keep3 hk).trans ((hk2.mono (fun b q => q.elim)).trans (grew_keep3' hg)), by simp, ?_, rfl, fun b q => .inl q, ?_, fun b q => .inr ⟨(hN b q).1, by have := (hN b q).2; simp only [size_set]; omega⟩, fun b q => q.elim⟩
  · have := (h1.kept hk2).addThr hcs ho hg (by have := h.big; simp only [List.length_cons] at this; omega)
    rw [show PE.refT (.thr k y) = [] from rfl, show PE.thrT (.thr k y) = [y] from rfl, List.append_nil]
    exact this
  · rintro b (q | q)
    · exact .inl q
    · exact .inr ⟨by have := q.1; omega, by simp only [size_set]; exact q.2⟩
theorem rd0_thr {n f : Nat} {k y : Tok} {l : List Tok} (h : k.kind = 94) (hy : y.kind = 110) : rd n (f + 1) 0 .emp (k :: y :: l) = .inr (.thr k y, l) := by
  rw [rd.eq_def]
  simp only [h, hy]
  rfl
theorem rd0_thr_no {n f : Nat} {k : Tok} {l : List Tok} (h : k.kind = 94) (hy : ∀ y r, l = y :: r → y.kind ≠ 110) : rd n (f + 1) 0 .emp (k :: l) = .inl (pos n l) := by
  rw [rd.eq_def]
  simp only [h]
  cases l with
  | nil => rfl
  | cons y r =>
    have := hy y r rfl
    simp only [this]
    rfl
set_option maxHeartbeats 1000000 in
set_option maxRecDepth 100000 in
theorem prim_thr {F : Nat} (rb : Nat) (t : Tx) (r : Rv) (k : Tok) (sa : Option Addr) (sc i : Nat) (l rf th : List Tok) (A B N : Nat → Prop) (w : World) (hS : RS rb t r k sa sc i l rf th A B N w) (hk : k.kind = 94) : Calls Tryz.prog 115 #[.pointer (some ⟨rb, 0, none⟩)] w (RdIs (rd t.n (F + 1) 0 .emp l) 1 rb t r l rf th A B N w) := by
  obtain ⟨l1, rfl⟩ := hS.cons (by rw [hk]; omega)
  have HS : Hid (RS rb t r k sa sc i (k :: l1) rf th A B N w) := hS
  have HKI : Hid (k.kind = 94) := hk
  have hrb := hS.blk.lt
  have c2 : w.cell? ⟨rb, 2, none⟩ = some (.int .u8 94) := by
    have h : w.cell? ⟨rb, 2, none⟩ = some (.int .u8 (kk k.kind)) := blk_cell hS.blk rfl
    rw [hk] at h
    exact h
  have c3 : w.cell? ⟨rb, 3, none⟩ = some (.int .i64 (k.at_ : Nat)) := blk_cell hS.blk rfl
  have c4 : w.cell? ⟨rb, 4, none⟩ = some (.string (str k.nm.length (lf k.nm))) := blk_cell hS.blk rfl
  have c5 : w.cell? ⟨rb, 5, none⟩ = some (.slice sa k.set.length sc) := blk_cell hS.blk rfl
  clear hS hk
  generalize str k.nm.length (lf k.nm) = sz at *
  go_enter Tryz.func115, Tryz.ntmps115
  go_wp2_with fail
  obtain ⟨W0, hW0⟩ : ∃ W0, W0 = w.alloc (.cells #[.int .u8 94, .int .i64 (k.at_ : Nat), .string sz, .slice sa k.set.length sc] 59) := ⟨_, rfl⟩
  have HK0 : Hid (Keep (fun _ => False) w W0) := by rw [hW0]; exact Keep.alloc _ _ _
  rw [← hW0]
  clear hW0 c2 c3 c4 c5
  refine (adv_rs (HS.out.kept HK0.out)).mono ?_
  rintro e W1 ⟨hk1, ⟨vv, k1, sa1, sc1, i1, rfl, hS1⟩ | ⟨y, rfl, hy, rfl⟩⟩
  · have HK1 : Hid (Keep (fun b => b = rb) w W1) := (keepF HK0.out).trans hk1
    have HS1 : Hid (RS rb t r k1 sa1 sc1 i1 l1 rf th A B (New W0 W1) W1) := hS1
    have H97 : Hid (kk k1.kind = 97 ↔ k1.kind = 110) := kk_name hS1.kind
    clear hk1 hS1
    go_wp2_with fail
    refine (expect_rs HS1.out 110 (by omega) H97.out).mono ?_
    rintro e W2 ⟨hk2, ⟨h110, rfl⟩ | ⟨h110, l2, rfl, ⟨k2, sa2, sc2, i2, rfl, hS2⟩ | ⟨y, rfl, hy, rfl⟩⟩⟩
    · have HFI : Hid (RdIs (rd t.n (F + 1) 0 .emp (k :: l1)) 1 rb t r (k :: l1) rf th A B N w (.panicked (flt 5 (pos t.n l1 : Nat))) W2) :=
        ⟨keep3 (HK1.out.trans hk2), .inr ⟨_, rfl, .inl (rd0_thr_no HKI.out (fun y r' e => by rw [HS1.out.head e]; exact h110))⟩⟩
      clear hk2 h110
      go_wp2
      exact ⟨rfl, HFI.out⟩
    · have HK2 : Hid (Keep (fun b => b = rb) w W2) := HK1.out.trans hk2
      have HN2 : Hid (∀ b, New W1 W2 b → New w W2 b) := fun b q => new_trans HK1.out.size q
      have HR : Hid (rd t.n (F + 1) 0 .emp (k :: k1 :: l2) = .inr (.thr k k1, l2)) := rd0_thr HKI.out h110
      have HS2 : Hid (RS rb t r k2 sa2 sc2 i2 l2 rf th A B (New W1 W2) W2) := hS2
      rw [H97.out.2 h110]
      have HK97 : Hid (kk k1.kind = 97) := H97.out.2 h110
      generalize hsz : str k1.nm.length (lf k1.nm) = sz1
      have HSZ : Hid (str k1.nm.length (lf k1.nm) = sz1) := hsz
      obtain ⟨cs, hcs1, hcs2⟩ := hS2.thrs
      have HCS : Hid (TkCs th cs) := hcs2
      obtain ⟨ra, rc, hv8⟩ := own_shape hcs1
      have c8 : W2.cell? ⟨rb, 8, none⟩ = some (.slice ra th.length rc) := by
        have h : W2.cell? ⟨rb, 8, none⟩ = some r.v8 := blk_cell hS2.blk rfl
        rw [hv8] at h
        exact h
      have hlen : th.length + 1 ≤ 16777216 := by have := hS2.big; omega
      have hrb2 : rb < W2.heap.size := hS2.blk.lt
      have HK3 : Hid (Keep (fun _ => False) W2 ((W2.alloc (.cells #[.int .u8 97, .int .i64 (k1.at_ : Nat), .string sz1, .slice sa1 k1.set.length sc1] 59)).drew.alloc (.cells #[.int .u8 97, .int .i64 (k1.at_ : Nat), .string sz1, .slice sa1 k1.set.length sc1] 59))) := (Keep.alloc _ _ _).trans ((Keep.drew (fun _ => False) _).trans (Keep.alloc _ _ _))
      have HOW : Hid (OwnC B ((W2.alloc (.cells #[.int .u8 97, .int .i64 (k1.at_ : Nat), .string sz1, .slice sa1 k1.set.length sc1] 59)).drew.alloc (.cells #[.int .u8 97, .int .i64 (k1.at_ : Nat), .string sz1, .slice sa1 k1.set.length sc1] 59)) (.slice ra th.length rc) 4 th.length cs) := by rw [← hv8]; exact hcs1.on (fun b q => HK3.out.block b (hS2.apt.thrs b q).1 (fun e => e))
      have HSR : Hid (Src Tryz.prog 4 61 (.slice (some ⟨W2.heap.size + 1, 0, none⟩) 1 1) 1 [.int .u8 97, .int .i64 (k1.at_ : Nat), .string sz1, .slice sa1 k1.set.length sc1] ((W2.alloc (.cells #[.int .u8 97, .int .i64 (k1.at_ : Nat), .string sz1, .slice sa1 k1.set.length sc1] 59)).drew.alloc (.cells #[.int .u8 97, .int .i64 (k1.at_ : Nat), .string sz1, .slice sa1 k1.set.length sc1] 59))) := by
        have h := src_tk (W2.alloc (.cells #[.int .u8 97, .int .i64 (k1.at_ : Nat), .string sz1, .slice sa1 k1.set.length sc1] 59)).drew 97 (k1.at_ : Nat) sz1 sa1 k1.set.length sc1 (ty := 59)
        rwa [show (W2.alloc (.cells #[.int .u8 97, .int .i64 (k1.at_ : Nat), .string sz1, .slice sa1 k1.set.length sc1] 59)).drew.heap.size = W2.heap.size + 1 by simp] at h
      have HAf : Hid (∀ v4 W4, OwnC (fun b => B b ∨ ((W2.alloc (.cells #[.int .u8 97, .int .i64 (k1.at_ : Nat), .string sz1, .slice sa1 k1.set.length sc1] 59)).drew.alloc (.cells #[.int .u8 97, .int .i64 (k1.at_ : Nat), .string sz1, .slice sa1 k1.set.length sc1] 59)).heap.size ≤ b) W4 v4 4 (th.length + 1) (cs ++ [.int .u8 97, .int .i64 (k1.at_ : Nat), .string sz1, .slice sa1 k1.set.length sc1]) → Grew (fun b => B b) ((W2.alloc (.cells #[.int .u8 97, .int .i64 (k1.at_ : Nat), .string sz1, .slice sa1 k1.set.length sc1] 59)).drew.alloc (.cells #[.int .u8 97, .int .i64 (k1.at_ : Nat), .string sz1, .slice sa1 k1.set.length sc1] 59)) W4 → RdIs (rd t.n (F + 1) 0 .emp (k :: k1 :: l2)) 1 rb t r (k :: k1 :: l2) rf th A B N w (.returned (.iface 119 (.agg #[.string sz1]))) (W4.setCell ⟨rb, 8, none⟩ v4) ∧ RB rb t (nextR r k2 sa2 sc2) i2 W4 ∧ W4.heap[W2.heap.size]? = some (.cells #[.int .u8 97, .int .i64 (k1.at_ : Nat), .string sz1, .slice sa1 k1.set.length sc1] 59)) := fun v4 W4 ho hg => by
        have hks : ((W2.alloc (.cells #[.int .u8 97, .int .i64 (k1.at_ : Nat), .string sz1, .slice sa1 k1.set.length sc1] 59)).drew.alloc (.cells #[.int .u8 97, .int .i64 (k1.at_ : Nat), .string sz1, .slice sa1 k1.set.length sc1] 59)).heap.size = W2.heap.size + 2 := by simp
        refine ⟨?_, (hg.block rb (by omega) (fun q => (HS2.out.apt.thrs rb q).2.1 rfl)).trans (HS2.out.kept HK3.out).blk, (hg.block W2.heap.size (by omega) (fun q => by have := (HS2.out.apt.thrs _ q).1; omega)).trans (blk_old (blk_new W2 _ _ rfl) _)⟩
        have he : tkC k1 (.slice sa1 k1.set.length sc1) = [.int .u8 97, .int .i64 (k1.at_ : Nat), .string sz1, .slice sa1 k1.set.length sc1] := by unfold tkC; rw [HK97.out, HSZ.out]
        have ho2 : OwnC (fun b => B b ∨ ((W2.alloc (.cells #[.int .u8 97, .int .i64 (k1.at_ : Nat), .string sz1, .slice sa1 k1.set.length sc1] 59)).drew.alloc (.cells #[.int .u8 97, .int .i64 (k1.at_ : Nat), .string sz1, .slice sa1 k1.set.length sc1] 59)).heap.size ≤ b) W4 v4 4 (th.length + 1) (cs ++ tkC k1 (.slice sa1 k1.set.length sc1)) := by rw [he]; exact ho
        obtain ⟨q1, q2⟩ := rdok_thr HS.out HK2.out HS2.out HN2.out HK3.out HCS.out ho2 hg
        rw [HSZ.out] at q2
        exact ⟨q1, .inl ⟨_, _, _, _, _, _, _, _, _, _, _, _, _, HR.out, rfl, q2⟩⟩
      clear hk2 hS2 hcs1 hcs2 hv8 HS2 hsz h110 HK3
      go_wp2_with fail
      go_region_law
        (refine stepE rfl (.tmp 40) (.tmp 42) 61 61 rfl (v := .slice ra th.length rc) (y := .slice (some ⟨W2.heap.size + 1, 0, none⟩) 1 1) (by simp [Act.eval, Act.put]) (by simp [Act.eval, Act.put]) elem61 (Q := B) (n := th.length) (cs := cs) (m := 1) (news := [.int .u8 97, .int .i64 (k1.at_ : Nat), .string sz1, .slice sa1 k1.set.length sc1]) HOW.out HSR.out hlen ?_
         intro v4 W4 hown4 hgrew4 hsz4
         obtain ⟨hF4, hB4, hC4⟩ := HAf.out v4 W4 hown4 hgrew4
         obtain ⟨a4, n4, rfl⟩ := own_shape hown4
         have HFI : Hid (RdIs (rd t.n (F + 1) 0 .emp (k :: k1 :: l2)) 1 rb t r (k :: k1 :: l2) rf th A B N w (.returned (.iface 119 (.agg #[.string sz1]))) (W4.setCell ⟨rb, 8, none⟩ (.slice a4 (th.length + 1) n4))) := hF4
         have z8 : W4.cell? ⟨rb, 8, none⟩ = some r.v8 := blk_cell hB4 rfl
         have g8 : W4.frozen? ⟨rb, 8, none⟩ = false := blk_frz hB4
         have x2 : W4.cell? ⟨W2.heap.size, 2, none⟩ = some (.string sz1) := blk_cell hC4 rfl
         have lt4 := lt_of_cell z8
         have lt5 := lt_of_cell x2
         clear hown4 hgrew4 hsz4 hF4 hB4 hC4)
      all_goals (
        go_wp2
        go_ret
        exact HFI.out)
    · have HFI : Hid (RdIs (rd t.n (F + 1) 0 .emp [k, k1, y]) 1 rb t r [k, k1, y] rf th A B N w (.panicked (flt 5 (y.at_ : Nat))) W2) :=
        ⟨keep3 (HK1.out.trans hk2), .inr ⟨y.at_, rfl, .inr ⟨_, y, [], rd0_thr HKI.out h110, hy, rfl⟩⟩⟩
      clear hk2 hy h110
      go_wp2
      exact ⟨rfl, HFI.out⟩
  · have HFI : Hid (RdIs (rd t.n (F + 1) 0 .emp [k, y]) 1 rb t r [k, y] rf th A B N w (.panicked (flt 5 (y.at_ : Nat))) W1) :=
      ⟨keep3 ((keepF HK0.out).trans hk1), .inr ⟨y.at_, rfl, .inl (rd0_thr_no HKI.out (fun z r' e => by injection e with e1 _; rw [← e1, hy]; omega))⟩⟩
    clear hk1 hy
    go_wp2
    exact ⟨rfl, HFI.out⟩
end
section
open Go.RowKit
open M (OpD NodeD Gr)
theorem primary_step {F : Nat} (H5 : RdC 66 5 6 0 F) : RdC 115 0 1 1 (F + 1) := by
  intro rb t r k sa sc i l rf th A B N w hS hf
  by_cases h1 : k.kind = 110
  · exact prim_ref rb t r k sa sc i l rf th A B N w hS h1
  by_cases h2 : k.kind = 34
  · exact prim_str rb t r k sa sc i l rf th A B N w hS h2
  by_cases h3 : k.kind = 91
  · exact prim_cls rb t r k sa sc i l rf th A B N w hS h3
  by_cases h4 : k.kind = 46
  · exact prim_dot rb t r k sa sc i l rf th A B N w hS h4
  by_cases h5 : k.kind = 94
  · exact prim_thr rb t r k sa sc i l rf th A B N w hS h5
  · exact prim_grp H5 rb t r k sa sc i l rf th A B N w hS hf h1 h2 h3 h4 h5
def RdAll (g : Nat) : Prop := RdC 115 0 1 1 g ∧ RdC 102 1 2 1 g ∧ RdC 94 2 3 1 g ∧ RdC 83 4 4 0 g ∧ RdC 66 5 6 0 g
theorem read_any : ∀ f g, g ≤ f → RdAll g
  | 0, g, hg => by
    obtain rfl : g = 0 := by omega
    exact ⟨fun _ _ _ _ _ _ _ _ _ _ _ _ _ _ _ h => absurd h (by omega), fun _ _ _ _ _ _ _ _ _ _ _ _ _ _ _ h => absurd h (by omega), fun _ _ _ _ _ _ _ _ _ _ _ _ _ _ _ h => absurd h (by omega), fun _ _ _ _ _ _ _ _ _ _ _ _ _ _ _ h => absurd h (by omega), fun _ _ _ _ _ _ _ _ _ _ _ _ _ _ _ h => absurd h (by omega)⟩
  | f + 1, g, hg => by
    by_cases h : g ≤ f
    · exact read_any f g h
    · obtain rfl : g = f + 1 := by omega
      have ih := read_any f
      obtain ⟨h0, h1, h2, h4, h5⟩ := ih f (Nat.le_refl _)
      exact ⟨primary_step h5, suffix_step h0, prefix_step h1 h2, seq_step (fun g hg => (ih g hg).2.2.1), alt_step (fun g hg => (ih g hg).2.2.2.1)⟩
theorem readAlt_any (f : Nat) : RdC 66 5 6 0 f := (read_any f f (Nat.le_refl _)).2.2.2.2
end
end Go.Proofs.YteoddjobpmmgeaaGreat
