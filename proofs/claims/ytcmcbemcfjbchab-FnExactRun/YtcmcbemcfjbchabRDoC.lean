/-
  Walks: the specification's l4do: throws.
-/
import Derived.Test.YtcmcbemcfjbchabRDoB
namespace Go.Proofs.Ytcmcbemcfjbchab
open Go.RowKit
open M (OpD NodeD Gr InsD)
set_option linter.unusedVariables false
set_option linter.unusedSimpArgs false

set_option maxRecDepth 100000 in
set_option maxHeartbeats 16000000 in
theorem do_throw (K L X Q Q' : Nat → Prop) (s : MSt) (ka la xa : Option Addr) (kc lc xn xc : Nat) (ag to_ : Int) (sa : Option Addr) (sn sc : Nat) (S : Nat → Int) (ia : Option Addr) (il ic : Nat) (I : Nat → Int) (most : Int) (w : World) (hP : Pre4 K L X w s ka kc la lc xa xn) (hS : Ints Q .i64 w sa sn S) (hI : Ints Q' .u8 w ia il I) (hB : Byt il I) (hsn : sn ≤ 1048576) (hil : il ≤ 1048576) :
    Calls Try.prog 103 #[stV s ka kc la lc xa xn xc, .agg #[.int .i64 8, .int .i64 ag, .int .i64 to_, .slice sa sn sc], .slice ia il ic, .int .i64 most] w (DoIs (s.act ⟨8, ag, to_, sn, S⟩ il I most) K L X w) := by
  obtain ⟨n, hnn⟩ : ∃ n, s.st.length = n := ⟨_, rfl⟩
  obtain ⟨ln, hll⟩ : ∃ ln, s.log.length = ln := ⟨_, rfl⟩
  have HN : Hid (s.st.length = n) := hnn
  have HLL : Hid (s.log.length = ln) := hll
  have HV : Hid (stV s ka kc la lc xa xn xc = .agg #[.int .i64 s.at_, .int .i64 (s.pos : Int), .slice ka n kc, .slice la ln lc, .int .i64 (s.far : Int), .slice xa xn xc, .int .i64 (s.steps : Int), .int .i64 (s.throws : Int), .bool s.done, .int .i64 s.code, .int .i64 s.label]) := by
    show _ = _
    unfold stV
    rw [hnn, hll]
  rw [HV.out]
  have HP : Hid (Pre4 K L X w s ka kc la lc xa xn) := hP
  have HS : Hid (Ints Q .i64 w sa sn S) := hS
  have HI : Hid (Ints Q' .u8 w ia il I) := hI
  have HBY : Hid (Byt il I) := hB
  have at0 := hP.at0
  have at1 := hP.at1
  have thr := hP.thr
  have hn := hP.len
  rw [hnn] at hn
  have hlg := hP.logl
  rw [hll] at hlg
  clear hP hS hI hB hnn hll
  have HT1 : Hid (s.act ⟨8, ag, to_, sn, S⟩ il I most = (if s.inNot then s.fail else if to_ < 0 then ({ s with throws := s.throws + 1, label := ag }).fin 2 else ({ s with throws := s.throws + 1 }).enter ⟨8, ag, to_, sn, S⟩ most)) := by show _ = _; unfold MSt.act; rw [if_neg (by simp), if_neg (by simp), if_neg (by simp), if_neg (by simp), if_pos rfl]
  go_enter Try.func103, Try.ntmps103
  go_wp2_with fail
  have hc1 := fun W h1 => l4inNot_any s ka la xa kc lc xn xc W h1 HP.out.len
  simp only [HV.out] at hc1
  refine (hc1 _ (own_frames (HP.out.a.st.on (fun b hb => (bel3 w _ _ _).block b (HP.out.a.lt b (.inl hb)))))).mono ?_
  clear hc1
  rintro e W1 ⟨rfl, hb1⟩
  have B1 : Hid (Below w.heap.size w W1) := bel_tr (bel3 w _ _ _) hb1
  have hz1 : W1.heap[w.heap.size]? = some (.cells #[.int .i64 s.at_, .int .i64 (s.pos : Int), .slice ka n kc, .slice la ln lc, .int .i64 (s.far : Int), .slice xa xn xc, .int .i64 (s.steps : Int), .int .i64 (s.throws : Int), .bool s.done, .int .i64 s.code, .int .i64 s.label] 137) := (hb1.block _ (by first | (simp; done) | (simp; omega))).trans (blk_old (blk_old (blk_new w _ _ rfl) _) _)
  have hu1 : W1.heap[w.heap.size + 1]? = some (.cells #[.int .i64 8, .int .i64 ag, .int .i64 to_, .slice sa sn sc] 129) := (hb1.block _ (by first | (simp; done) | (simp; omega))).trans (blk_old (blk_new _ _ _ (by simp)) _)
  have hy1 : W1.heap[w.heap.size + 1 + 1]? = some (.cells #[.int .i64 0, .int .i64 0, .slice none 0 0, .slice none 0 0, .int .i64 0, .slice none 0 0, .int .i64 0, .int .i64 0, .bool false, .int .i64 0, .int .i64 0] 137) := (hb1.block _ (by simp)).trans (blk_new _ _ _ (by simp))
  have z0 := blk_cell (j := 0) hz1 rfl
  have z1 := blk_cell (j := 1) hz1 rfl
  have z2 := blk_cell (j := 2) hz1 rfl
  have z3 := blk_cell (j := 3) hz1 rfl
  have z4 := blk_cell (j := 4) hz1 rfl
  have z5 := blk_cell (j := 5) hz1 rfl
  have z6 := blk_cell (j := 6) hz1 rfl
  have z7 := blk_cell (j := 7) hz1 rfl
  have z8 := blk_cell (j := 8) hz1 rfl
  have z9 := blk_cell (j := 9) hz1 rfl
  have z10 := blk_cell (j := 10) hz1 rfl
  have u0 := blk_cell (j := 0) hu1 rfl
  have u1 := blk_cell (j := 1) hu1 rfl
  have u2 := blk_cell (j := 2) hu1 rfl
  have u3 := blk_cell (j := 3) hu1 rfl
  have p0 := blk_frz (j := 0) hz1
  have p2 := blk_frz (j := 2) hz1
  have p3 := blk_frz (j := 3) hz1
  have p7 := blk_frz (j := 7) hz1
  have p10 := blk_frz (j := 10) hz1
  have HY1 : Hid (W1.heap[w.heap.size + 1 + 1]? = some (.cells #[.int .i64 0, .int .i64 0, .slice none 0 0, .slice none 0 0, .int .i64 0, .slice none 0 0, .int .i64 0, .int .i64 0, .bool false, .int .i64 0, .int .i64 0] 137)) := hy1
  have lw0 : w.heap.size < W1.heap.size := lt_of_cell z0
  have lwu : w.heap.size + 1 < W1.heap.size := lt_of_cell u0
  have lwy : w.heap.size + 1 + 1 < W1.heap.size := by have := (Array.getElem?_eq_some_iff.1 hy1).1; exact this
  clear hb1 hz1 hu1 hy1
  cases hin : s.inNot with
  | true =>
    have HT0 : Hid (s.act ⟨8, ag, to_, sn, S⟩ il I most = s.fail) := by show _ = _; rw [HT1.out, if_pos hin]
    clear hin
    obtain ⟨t, ht⟩ : ∃ t, (s).fail = t := ⟨_, rfl⟩
    have HTP : Hid ((s).fail = t) := ht
    have HT : Hid (s.act ⟨8, ag, to_, sn, S⟩ il I most = t) := by show _ = _; rw [HT0.out, ht]
    have HV2 : Hid (stV (s) ka kc la lc xa xn xc = .agg #[.int .i64 s.at_, .int .i64 (s.pos : Int), .slice ka n kc, .slice la ln lc, .int .i64 (s.far : Int), .slice xa xn xc, .int .i64 (s.steps : Int), .int .i64 (s.throws : Int), .bool s.done, .int .i64 s.code, .int .i64 s.label]) := by
      show _ = _
      unfold stV
      first | (simp only [HN.out, HLL.out]; done) | (simp only [HN.out, HLL.out]; rfl)
    go_wp2_with fail
    have hc := fun W h1 => l4fail_any (s) ka la xa kc lc xn xc W h1 HP.out.len (own_cap HP.out.a.st) (own_cap HP.out.a.log) HP.out.last
    simp only [ht, HV2.out] at hc
    refine (hc _ (own_frames (HP.out.a.st.on (fun b hb => (B1.out).block b (HP.out.a.lt b (.inl hb)))))).mono ?_
    clear hc ht
    rintro e W ⟨rfl, hb⟩
    have B2 : Hid (Below w.heap.size w W) := bel_tr (B1.out) hb
    have hy : W.heap[w.heap.size + 1 + 1]? = some (.cells #[.int .i64 0, .int .i64 0, .slice none 0 0, .slice none 0 0, .int .i64 0, .slice none 0 0, .int .i64 0, .int .i64 0, .bool false, .int .i64 0, .int .i64 0] 137) := (hb.block _ (by exact lwy)).trans (HY1.out)
    have y0 := blk_cell (j := 0) hy rfl
    have y1 := blk_cell (j := 1) hy rfl
    have y2 := blk_cell (j := 2) hy rfl
    have y3 := blk_cell (j := 3) hy rfl
    have y4 := blk_cell (j := 4) hy rfl
    have y5 := blk_cell (j := 5) hy rfl
    have y6 := blk_cell (j := 6) hy rfl
    have y7 := blk_cell (j := 7) hy rfl
    have y8 := blk_cell (j := 8) hy rfl
    have y9 := blk_cell (j := 9) hy rfl
    have y10 := blk_cell (j := 10) hy rfl
    have q0 := blk_frz (j := 0) hy
    have q1 := blk_frz (j := 1) hy
    have q2 := blk_frz (j := 2) hy
    have q3 := blk_frz (j := 3) hy
    have q4 := blk_frz (j := 4) hy
    have q5 := blk_frz (j := 5) hy
    have q6 := blk_frz (j := 6) hy
    have q7 := blk_frz (j := 7) hy
    have q8 := blk_frz (j := 8) hy
    have q9 := blk_frz (j := 9) hy
    have q10 := blk_frz (j := 10) hy
    have lw : w.heap.size + 1 + 1 < W.heap.size := lt_of_cell y0
    clear hb hy
    have HA : Hid (SpA K L X W t ka kc la lc xa xn) := by
      rw [← HTP.out]
      exact ((HP.out.a.on (fun b hq => (B2.out).block b (HP.out.a.lt b hq)) (B2.out).size)).fail
    unfold stV
    go_wp2
    refine bodyPost_ret (v := stV t ka kc la lc xa xn xc) ?_ rfl ?_
    · unfold stV
      simp [results, Try.f103, go_sem, *]
    · rw [HT.out]
      exact do_end HA.out HP.out.a.lt (fun b hb => .inl hb) (fun b hb => .inl hb) (fun b hb => .inl hb) (Kept.of B2.out) (Only.set (Only.set (Only.set (Only.set (Only.set (Only.set (Only.set (Only.set (Only.set (Only.set (Only.set (Only.refl _ _) _ _ _ ⟨by omega, by omega⟩) _ _ _ ⟨by omega, by omega⟩) _ _ _ ⟨by omega, by omega⟩) _ _ _ ⟨by omega, by omega⟩) _ _ _ ⟨by omega, by omega⟩) _ _ _ ⟨by omega, by omega⟩) _ _ _ ⟨by omega, by omega⟩) _ _ _ ⟨by omega, by omega⟩) _ _ _ ⟨by omega, by omega⟩) _ _ _ ⟨by omega, by omega⟩) _ _ _ ⟨by omega, by omega⟩)
  | false =>
    by_cases ht0 : to_ < 0
    · have HT0 : Hid (s.act ⟨8, ag, to_, sn, S⟩ il I most = ({ s with throws := s.throws + 1, label := ag }).fin 2) := by show _ = _; rw [HT1.out, if_neg (by rw [hin]; simp), if_pos ht0]
      clear hin
      obtain ⟨t, ht⟩ : ∃ t, ({ s with throws := s.throws + 1, label := ag }).fin 2 = t := ⟨_, rfl⟩
      have HTP : Hid (({ s with throws := s.throws + 1, label := ag }).fin 2 = t) := ht
      have HT : Hid (s.act ⟨8, ag, to_, sn, S⟩ il I most = t) := by show _ = _; rw [HT0.out, ht]
      have HV2 : Hid (stV ({ s with throws := s.throws + 1, label := ag }) ka kc la lc xa xn xc = .agg #[.int .i64 s.at_, .int .i64 (s.pos : Int), .slice ka n kc, .slice la ln lc, .int .i64 (s.far : Int), .slice xa xn xc, .int .i64 (s.steps : Int), .int .i64 ((s.throws : Int) + 1), .bool s.done, .int .i64 s.code, .int .i64 ag]) := by
        show _ = _
        unfold stV
        first | (simp only [HN.out, HLL.out]; done) | (simp only [HN.out, HLL.out]; rfl)
      go_wp2_with fail
      have hc := fun W => l4end_any ({ s with throws := s.throws + 1, label := ag }) ka la xa kc lc xn xc 2 W
      simp only [ht, HV2.out] at hc
      refine (hc _).mono ?_
      clear hc ht
      rintro e W ⟨rfl, hb⟩
      have B2 : Hid (Below w.heap.size w W) := bel_tr (bel_set (bel_set (B1.out) _ _ _ (Nat.le_refl _)) _ _ _ (Nat.le_refl _)) hb
      have hy : W.heap[w.heap.size + 1 + 1]? = some (.cells #[.int .i64 0, .int .i64 0, .slice none 0 0, .slice none 0 0, .int .i64 0, .slice none 0 0, .int .i64 0, .int .i64 0, .bool false, .int .i64 0, .int .i64 0] 137) := (hb.block _ (by simp only [size_set]; exact lwy)).trans ((Below.heap_setCell _ _ _ _ (by simp; omega)).trans ((Below.heap_setCell _ _ _ _ (by simp; omega)).trans (HY1.out)))
      have y0 := blk_cell (j := 0) hy rfl
      have y1 := blk_cell (j := 1) hy rfl
      have y2 := blk_cell (j := 2) hy rfl
      have y3 := blk_cell (j := 3) hy rfl
      have y4 := blk_cell (j := 4) hy rfl
      have y5 := blk_cell (j := 5) hy rfl
      have y6 := blk_cell (j := 6) hy rfl
      have y7 := blk_cell (j := 7) hy rfl
      have y8 := blk_cell (j := 8) hy rfl
      have y9 := blk_cell (j := 9) hy rfl
      have y10 := blk_cell (j := 10) hy rfl
      have q0 := blk_frz (j := 0) hy
      have q1 := blk_frz (j := 1) hy
      have q2 := blk_frz (j := 2) hy
      have q3 := blk_frz (j := 3) hy
      have q4 := blk_frz (j := 4) hy
      have q5 := blk_frz (j := 5) hy
      have q6 := blk_frz (j := 6) hy
      have q7 := blk_frz (j := 7) hy
      have q8 := blk_frz (j := 8) hy
      have q9 := blk_frz (j := 9) hy
      have q10 := blk_frz (j := 10) hy
      have lw : w.heap.size + 1 + 1 < W.heap.size := lt_of_cell y0
      clear hb hy
      have HA : Hid (SpA K L X W t ka kc la lc xa xn) := (SpA.same (s := s) (HP.out.a.on (fun b hq => (B2.out).block b (HP.out.a.lt b hq)) (B2.out).size) (by rw [← HTP.out]; rfl) (by rw [← HTP.out]; rfl) (by rw [← HTP.out]; rfl))
      unfold stV
      go_wp2
      refine bodyPost_ret (v := stV t ka kc la lc xa xn xc) ?_ rfl ?_
      · unfold stV
        simp [results, Try.f103, go_sem, *]
      · rw [HT.out]
        exact do_end HA.out HP.out.a.lt (fun b hb => .inl hb) (fun b hb => .inl hb) (fun b hb => .inl hb) (Kept.of B2.out) (Only.set (Only.set (Only.set (Only.set (Only.set (Only.set (Only.set (Only.set (Only.set (Only.set (Only.set (Only.refl _ _) _ _ _ ⟨by omega, by omega⟩) _ _ _ ⟨by omega, by omega⟩) _ _ _ ⟨by omega, by omega⟩) _ _ _ ⟨by omega, by omega⟩) _ _ _ ⟨by omega, by omega⟩) _ _ _ ⟨by omega, by omega⟩) _ _ _ ⟨by omega, by omega⟩) _ _ _ ⟨by omega, by omega⟩) _ _ _ ⟨by omega, by omega⟩) _ _ _ ⟨by omega, by omega⟩) _ _ _ ⟨by omega, by omega⟩)
    · have HT0 : Hid (s.act ⟨8, ag, to_, sn, S⟩ il I most = ({ s with throws := s.throws + 1, at_ := to_ }).push ⟨2, s.at_ + 1, 0, 0⟩ most) := by show _ = _; rw [HT1.out, if_neg (by rw [hin]; simp), if_neg ht0]; rfl
      clear hin
      obtain ⟨t, ht⟩ : ∃ t, ({ s with throws := s.throws + 1, at_ := to_ }).push ⟨2, s.at_ + 1, 0, 0⟩ most = t := ⟨_, rfl⟩
      have HTP : Hid (({ s with throws := s.throws + 1, at_ := to_ }).push ⟨2, s.at_ + 1, 0, 0⟩ most = t) := ht
      have HT : Hid (s.act ⟨8, ag, to_, sn, S⟩ il I most = t) := by show _ = _; rw [HT0.out, ht]
      have HV2 : Hid (stV ({ s with throws := s.throws + 1, at_ := to_ }) ka kc la lc xa xn xc = .agg #[.int .i64 to_, .int .i64 (s.pos : Int), .slice ka n kc, .slice la ln lc, .int .i64 (s.far : Int), .slice xa xn xc, .int .i64 (s.steps : Int), .int .i64 ((s.throws : Int) + 1), .bool s.done, .int .i64 s.code, .int .i64 s.label]) := by
        show _ = _
        unfold stV
        first | (simp only [HN.out, HLL.out]; done) | (simp only [HN.out, HLL.out]; rfl)
      go_wp2_with fail
      have hc := fun W h1 h2 => l4push_any K ({ s with throws := s.throws + 1, at_ := to_ }) ⟨2, s.at_ + 1, 0, 0⟩ most ka la xa kc lc xn xc W h1 h2 HP.out.len
      simp only [ht, HV2.out] at hc
      refine (hc _ (HP.out.a.st.on (fun b hb => (bel_set (bel_set (B1.out) _ _ _ (Nat.le_refl _)) _ _ _ (Nat.le_refl _)).block b (HP.out.a.lt b (.inl hb)))) (fun b hb => by have h1 := HP.out.a.lt b (.inl hb); simp only [size_set]; omega)).mono ?_
      clear hc ht
      rintro e W ⟨ka2, kc2, rfl, hO, hk⟩
      have hy : W.heap[w.heap.size + 1 + 1]? = some (.cells #[.int .i64 0, .int .i64 0, .slice none 0 0, .slice none 0 0, .int .i64 0, .slice none 0 0, .int .i64 0, .int .i64 0, .bool false, .int .i64 0, .int .i64 0] 137) := (hk.block _ (by simp only [size_set]; exact lwy) (fun q => by have := HP.out.a.lt _ (.inl q); omega)).trans ((Below.heap_setCell _ _ _ _ (by simp; omega)).trans ((Below.heap_setCell _ _ _ _ (by simp; omega)).trans (HY1.out)))
      have y0 := blk_cell (j := 0) hy rfl
      have y1 := blk_cell (j := 1) hy rfl
      have y2 := blk_cell (j := 2) hy rfl
      have y3 := blk_cell (j := 3) hy rfl
      have y4 := blk_cell (j := 4) hy rfl
      have y5 := blk_cell (j := 5) hy rfl
      have y6 := blk_cell (j := 6) hy rfl
      have y7 := blk_cell (j := 7) hy rfl
      have y8 := blk_cell (j := 8) hy rfl
      have y9 := blk_cell (j := 9) hy rfl
      have y10 := blk_cell (j := 10) hy rfl
      have q0 := blk_frz (j := 0) hy
      have q1 := blk_frz (j := 1) hy
      have q2 := blk_frz (j := 2) hy
      have q3 := blk_frz (j := 3) hy
      have q4 := blk_frz (j := 4) hy
      have q5 := blk_frz (j := 5) hy
      have q6 := blk_frz (j := 6) hy
      have q7 := blk_frz (j := 7) hy
      have q8 := blk_frz (j := 8) hy
      have q9 := blk_frz (j := 9) hy
      have q10 := blk_frz (j := 10) hy
      have lw : w.heap.size + 1 + 1 < W.heap.size := lt_of_cell y0
      obtain ⟨hA, hK1⟩ := spa_push HP.out.a (bel_set (bel_set (B1.out) _ _ _ (Nat.le_refl _)) _ _ _ (Nat.le_refl _)) hO hk (by rw [← HTP.out]; exact push_log _ _ _) (by rw [← HTP.out]; exact push_exp _ _ _) (lo := w.heap.size + 3) (by omega) (by simp only [size_set]; omega)
      have HA : Hid (SpA (fun b => K b ∨ w.heap.size + 3 ≤ b ∧ b < W.heap.size) L X W t ka2 kc2 la lc xa xn) := hA
      have HK1 : Hid (Kept (fun b => K b ∨ L b) w W) := hK1
      clear hO hk hA hK1 hy
      unfold stV
      go_wp2
      refine bodyPost_ret (v := stV t ka2 kc2 la lc xa xn xc) ?_ rfl ?_
      · unfold stV
        simp [results, Try.f103, go_sem, *]
      · rw [HT.out]
        exact do_end HA.out HP.out.a.lt (fun b hb => hb.imp id And.left) (fun b hb => .inl hb) (fun b hb => .inl hb) HK1.out (Only.set (Only.set (Only.set (Only.set (Only.set (Only.set (Only.set (Only.set (Only.set (Only.set (Only.set (Only.refl _ _) _ _ _ ⟨by omega, by omega⟩) _ _ _ ⟨by omega, by omega⟩) _ _ _ ⟨by omega, by omega⟩) _ _ _ ⟨by omega, by omega⟩) _ _ _ ⟨by omega, by omega⟩) _ _ _ ⟨by omega, by omega⟩) _ _ _ ⟨by omega, by omega⟩) _ _ _ ⟨by omega, by omega⟩) _ _ _ ⟨by omega, by omega⟩) _ _ _ ⟨by omega, by omega⟩) _ _ _ ⟨by omega, by omega⟩)

end Go.Proofs.Ytcmcbemcfjbchab
