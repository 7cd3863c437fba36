/-
  Walks: the specification's l4do: commits, double nots, returns.
-/
import Derived.Test.YtcmcbemcfjbchabRDoB
namespace Go.Proofs.Ytcmcbemcfjbchab
open Go.RowKit
open M (OpD NodeD Gr InsD)
set_option linter.unusedVariables false
set_option linter.unusedSimpArgs false

set_option maxRecDepth 100000 in
set_option maxHeartbeats 16000000 in
theorem do_commit (K L X Q Q' : Nat → Prop) (s : MSt) (ka la xa : Option Addr) (kc lc xn xc : Nat) (ag to_ : Int) (sa : Option Addr) (sn sc : Nat) (S : Nat → Int) (ia : Option Addr) (il ic : Nat) (I : Nat → Int) (most : Int) (w : World) (hP : Pre4 K L X w s ka kc la lc xa xn) (hS : Ints Q .i64 w sa sn S) (hI : Ints Q' .u8 w ia il I) (hB : Byt il I) (hsn : sn ≤ 1048576) (hil : il ≤ 1048576) :
    Calls Try.prog 103 #[stV s ka kc la lc xa xn xc, .agg #[.int .i64 2, .int .i64 ag, .int .i64 to_, .slice sa sn sc], .slice ia il ic, .int .i64 most] w (DoIs (s.act ⟨2, ag, to_, sn, S⟩ il I most) K L X w) := by
  obtain ⟨n, hnn⟩ : ∃ n, s.st.length = n := ⟨_, rfl⟩
  obtain ⟨ln, hll⟩ : ∃ ln, s.log.length = ln := ⟨_, rfl⟩
  have HN : Hid (s.st.length = n) := hnn
  have HLL : Hid (s.log.length = ln) := hll
  have HV : Hid (stV s ka kc la lc xa xn xc = .agg #[.int .i64 s.at_, .int .i64 (s.pos : Int), .slice ka n kc, .slice la ln lc, .int .i64 (s.far : Int), .slice xa xn xc, .int .i64 (s.steps : Int), .int .i64 (s.throws : Int), .bool s.done, .int .i64 s.code, .int .i64 s.label]) := by
    show _ = _
    unfold stV
    rw [hnn, hll]
  rw [HV.out]
  have HP : Hid (Pre4 K L X w s ka kc la lc xa xn) := hP
  have HS : Hid (Ints Q .i64 w sa sn S) := hS
  have HI : Hid (Ints Q' .u8 w ia il I) := hI
  have HBY : Hid (Byt il I) := hB
  have at0 := hP.at0
  have at1 := hP.at1
  have thr := hP.thr
  have hn := hP.len
  rw [hnn] at hn
  have hlg := hP.logl
  rw [hll] at hlg
  clear hP hS hI hB hnn hll
  go_enter Try.func103, Try.ntmps103
  go_wp2_with fail
  have hc1 := fun W h1 => l4top_any s ka la xa kc lc xn xc 0 W h1 HP.out.len
  simp only [HV.out] at hc1
  refine (hc1 _ (own_frames (HP.out.a.st.on (fun b hb => (bel3 w _ _ _).block b (HP.out.a.lt b (.inl hb)))))).mono ?_
  clear hc1
  rintro e W1 ⟨rfl, hb1⟩
  have B1 : Hid (Below w.heap.size w W1) := bel_tr (bel3 w _ _ _) hb1
  have hz1 : W1.heap[w.heap.size]? = some (.cells #[.int .i64 s.at_, .int .i64 (s.pos : Int), .slice ka n kc, .slice la ln lc, .int .i64 (s.far : Int), .slice xa xn xc, .int .i64 (s.steps : Int), .int .i64 (s.throws : Int), .bool s.done, .int .i64 s.code, .int .i64 s.label] 137) := (hb1.block _ (by first | (simp; done) | (simp; omega))).trans (blk_old (blk_old (blk_new w _ _ rfl) _) _)
  have hu1 : W1.heap[w.heap.size + 1]? = some (.cells #[.int .i64 2, .int .i64 ag, .int .i64 to_, .slice sa sn sc] 129) := (hb1.block _ (by first | (simp; done) | (simp; omega))).trans (blk_old (blk_new _ _ _ (by simp)) _)
  have hy1 : W1.heap[w.heap.size + 1 + 1]? = some (.cells #[.int .i64 0, .int .i64 0, .slice none 0 0, .slice none 0 0, .int .i64 0, .slice none 0 0, .int .i64 0, .int .i64 0, .bool false, .int .i64 0, .int .i64 0] 137) := (hb1.block _ (by simp)).trans (blk_new _ _ _ (by simp))
  have z0 := blk_cell (j := 0) hz1 rfl
  have z1 := blk_cell (j := 1) hz1 rfl
  have z2 := blk_cell (j := 2) hz1 rfl
  have z3 := blk_cell (j := 3) hz1 rfl
  have z4 := blk_cell (j := 4) hz1 rfl
  have z5 := blk_cell (j := 5) hz1 rfl
  have z6 := blk_cell (j := 6) hz1 rfl
  have z7 := blk_cell (j := 7) hz1 rfl
  have z8 := blk_cell (j := 8) hz1 rfl
  have z9 := blk_cell (j := 9) hz1 rfl
  have z10 := blk_cell (j := 10) hz1 rfl
  have u0 := blk_cell (j := 0) hu1 rfl
  have u1 := blk_cell (j := 1) hu1 rfl
  have u2 := blk_cell (j := 2) hu1 rfl
  have u3 := blk_cell (j := 3) hu1 rfl
  have p0 := blk_frz (j := 0) hz1
  have p2 := blk_frz (j := 2) hz1
  have p3 := blk_frz (j := 3) hz1
  have p7 := blk_frz (j := 7) hz1
  have p10 := blk_frz (j := 10) hz1
  have HY1 : Hid (W1.heap[w.heap.size + 1 + 1]? = some (.cells #[.int .i64 0, .int .i64 0, .slice none 0 0, .slice none 0 0, .int .i64 0, .slice none 0 0, .int .i64 0, .int .i64 0, .bool false, .int .i64 0, .int .i64 0] 137)) := hy1
  have lw0 : w.heap.size < W1.heap.size := lt_of_cell z0
  have lwu : w.heap.size + 1 < W1.heap.size := lt_of_cell u0
  have lwy : w.heap.size + 1 + 1 < W1.heap.size := by have := (Array.getElem?_eq_some_iff.1 hy1).1; exact this
  clear hb1 hz1 hu1 hy1
  cases htop : s.top 0 with
  | true =>
    obtain ⟨m, f, hm, hf, hlast, hfk⟩ := top_len htop
    have HPL : Hid (s.pop.st.length = m) := pop_len hm
    obtain rfl : n = m + 1 := by rw [← HN.out]; exact hm
    have HF : Hid (s.st[m]? = some f) := hf
    have HTT : Hid (topTo s.st = f.to) := by show _ = _; unfold topTo; rw [hlast]
    have hkc := own_cap HP.out.a.st
    rw [HN.out] at hkc
    have hkc' : (m : Int) ≤ (kc : Int) := by omega
    have hm0 : (0 : Int) ≤ (m : Int) := by omega
    have hml : (m : Int) < ((m + 1 : Nat) : Int) := by omega
    have hm1 : ((m + 1 : Nat) : Int) - 1 = (m : Int) := by omega
    have HT0 : Hid (s.act ⟨2, ag, to_, sn, S⟩ il I most = ({ s.pop with at_ := to_ } : MSt)) := by show _ = _; unfold MSt.act; rw [if_neg (by simp), if_neg (by simp), if_neg (by simp), if_neg (by simp), if_neg (by simp), if_pos ⟨rfl, htop⟩]
    clear hm hf hlast hfk htop hkc
    have HVR : Hid (stV (({ s.pop with at_ := to_ } : MSt)) ka kc la lc xa xn xc = .agg #[.int .i64 to_, .int .i64 (s.pos : Int), .slice ka m kc, .slice la ln lc, .int .i64 (s.far : Int), .slice xa xn xc, .int .i64 (s.steps : Int), .int .i64 (s.throws : Int), .bool s.done, .int .i64 s.code, .int .i64 s.label]) := by
      show _ = _
      unfold stV
      rw [show (({ s.pop with at_ := to_ } : MSt)).st.length = m from HPL.out, show (({ s.pop with at_ := to_ } : MSt)).log.length = ln from HLL.out]; rfl
    have hy := HY1.out
    have y0 := blk_cell (j := 0) hy rfl
    have y1 := blk_cell (j := 1) hy rfl
    have y2 := blk_cell (j := 2) hy rfl
    have y3 := blk_cell (j := 3) hy rfl
    have y4 := blk_cell (j := 4) hy rfl
    have y5 := blk_cell (j := 5) hy rfl
    have y6 := blk_cell (j := 6) hy rfl
    have y7 := blk_cell (j := 7) hy rfl
    have y8 := blk_cell (j := 8) hy rfl
    have y9 := blk_cell (j := 9) hy rfl
    have y10 := blk_cell (j := 10) hy rfl
    have q0 := blk_frz (j := 0) hy
    have q1 := blk_frz (j := 1) hy
    have q2 := blk_frz (j := 2) hy
    have q3 := blk_frz (j := 3) hy
    have q4 := blk_frz (j := 4) hy
    have q5 := blk_frz (j := 5) hy
    have q6 := blk_frz (j := 6) hy
    have q7 := blk_frz (j := 7) hy
    have q8 := blk_frz (j := 8) hy
    have q9 := blk_frz (j := 9) hy
    have q10 := blk_frz (j := 10) hy
    clear hy
    go_wp2
    refine bodyPost_ret (v := stV (({ s.pop with at_ := to_ } : MSt)) ka kc la lc xa xn xc) ?_ rfl ?_
    · rw [HVR.out]
      simp [results, Try.f103, go_sem, *]
    · rw [HT0.out]
      exact do_end (W := W1) (SpA.same (s := s.pop) ((HP.out.a.on (fun b hq => (B1.out).block b (HP.out.a.lt b hq)) (B1.out).size)).pop rfl rfl rfl) HP.out.a.lt (fun b hb => .inl hb) (fun b hb => .inl hb) (fun b hb => .inl hb) (Kept.of B1.out) (Only.set (Only.set (Only.set (Only.set (Only.set (Only.set (Only.set (Only.set (Only.set (Only.set (Only.set (Only.set (Only.set (Only.refl _ _) _ _ _ ⟨by omega, by omega⟩) _ _ _ ⟨by omega, by omega⟩) _ _ _ ⟨by omega, by omega⟩) _ _ _ ⟨by omega, by omega⟩) _ _ _ ⟨by omega, by omega⟩) _ _ _ ⟨by omega, by omega⟩) _ _ _ ⟨by omega, by omega⟩) _ _ _ ⟨by omega, by omega⟩) _ _ _ ⟨by omega, by omega⟩) _ _ _ ⟨by omega, by omega⟩) _ _ _ ⟨by omega, by omega⟩) _ _ _ ⟨by omega, by omega⟩) _ _ _ ⟨by omega, by omega⟩)
  | false =>
    have HT0 : Hid (s.act ⟨2, ag, to_, sn, S⟩ il I most = s.fin 4) := by show _ = _; unfold MSt.act; rw [if_neg (by simp), if_neg (by simp), if_neg (by simp), if_neg (by simp), if_neg (by simp), if_neg (fun q => by rw [htop] at q; cases q.2), if_neg (by simp), if_neg (by simp), if_neg (by simp), if_neg (by simp), if_neg (by simp), if_neg (by simp), if_neg (by simp)]
    clear htop
    obtain ⟨t, ht⟩ : ∃ t, (s).fin 4 = t := ⟨_, rfl⟩
    have HTP : Hid ((s).fin 4 = t) := ht
    have HT : Hid (s.act ⟨2, ag, to_, sn, S⟩ il I most = t) := by show _ = _; rw [HT0.out, ht]
    have HV2 : Hid (stV (s) ka kc la lc xa xn xc = .agg #[.int .i64 s.at_, .int .i64 (s.pos : Int), .slice ka n kc, .slice la ln lc, .int .i64 (s.far : Int), .slice xa xn xc, .int .i64 (s.steps : Int), .int .i64 (s.throws : Int), .bool s.done, .int .i64 s.code, .int .i64 s.label]) := by
      show _ = _
      unfold stV
      first | (simp only [HN.out, HLL.out]; done) | (simp only [HN.out, HLL.out]; rfl)
    go_wp2_with fail
    have hc := fun W => l4end_any (s) ka la xa kc lc xn xc 4 W
    simp only [ht, HV2.out] at hc
    refine (hc _).mono ?_
    clear hc ht
    rintro e W ⟨rfl, hb⟩
    have B2 : Hid (Below w.heap.size w W) := bel_tr (B1.out) hb
    have hy : W.heap[w.heap.size + 1 + 1]? = some (.cells #[.int .i64 0, .int .i64 0, .slice none 0 0, .slice none 0 0, .int .i64 0, .slice none 0 0, .int .i64 0, .int .i64 0, .bool false, .int .i64 0, .int .i64 0] 137) := (hb.block _ (by exact lwy)).trans (HY1.out)
    have y0 := blk_cell (j := 0) hy rfl
    have y1 := blk_cell (j := 1) hy rfl
    have y2 := blk_cell (j := 2) hy rfl
    have y3 := blk_cell (j := 3) hy rfl
    have y4 := blk_cell (j := 4) hy rfl
    have y5 := blk_cell (j := 5) hy rfl
    have y6 := blk_cell (j := 6) hy rfl
    have y7 := blk_cell (j := 7) hy rfl
    have y8 := blk_cell (j := 8) hy rfl
    have y9 := blk_cell (j := 9) hy rfl
    have y10 := blk_cell (j := 10) hy rfl
    have q0 := blk_frz (j := 0) hy
    have q1 := blk_frz (j := 1) hy
    have q2 := blk_frz (j := 2) hy
    have q3 := blk_frz (j := 3) hy
    have q4 := blk_frz (j := 4) hy
    have q5 := blk_frz (j := 5) hy
    have q6 := blk_frz (j := 6) hy
    have q7 := blk_frz (j := 7) hy
    have q8 := blk_frz (j := 8) hy
    have q9 := blk_frz (j := 9) hy
    have q10 := blk_frz (j := 10) hy
    have lw : w.heap.size + 1 + 1 < W.heap.size := lt_of_cell y0
    clear hb hy
    have HA : Hid (SpA K L X W t ka kc la lc xa xn) := (SpA.same (s := s) (HP.out.a.on (fun b hq => (B2.out).block b (HP.out.a.lt b hq)) (B2.out).size) (by rw [← HTP.out]; rfl) (by rw [← HTP.out]; rfl) (by rw [← HTP.out]; rfl))
    unfold stV
    go_wp2
    refine bodyPost_ret (v := stV t ka kc la lc xa xn xc) ?_ rfl ?_
    · unfold stV
      simp [results, Try.f103, go_sem, *]
    · rw [HT.out]
      exact do_end HA.out HP.out.a.lt (fun b hb => .inl hb) (fun b hb => .inl hb) (fun b hb => .inl hb) (Kept.of B2.out) (Only.set (Only.set (Only.set (Only.set (Only.set (Only.set (Only.set (Only.set (Only.set (Only.set (Only.set (Only.refl _ _) _ _ _ ⟨by omega, by omega⟩) _ _ _ ⟨by omega, by omega⟩) _ _ _ ⟨by omega, by omega⟩) _ _ _ ⟨by omega, by omega⟩) _ _ _ ⟨by omega, by omega⟩) _ _ _ ⟨by omega, by omega⟩) _ _ _ ⟨by omega, by omega⟩) _ _ _ ⟨by omega, by omega⟩) _ _ _ ⟨by omega, by omega⟩) _ _ _ ⟨by omega, by omega⟩) _ _ _ ⟨by omega, by omega⟩)

set_option maxRecDepth 100000 in
set_option maxHeartbeats 16000000 in
theorem do_twice (K L X Q Q' : Nat → Prop) (s : MSt) (ka la xa : Option Addr) (kc lc xn xc : Nat) (ag to_ : Int) (sa : Option Addr) (sn sc : Nat) (S : Nat → Int) (ia : Option Addr) (il ic : Nat) (I : Nat → Int) (most : Int) (w : World) (hP : Pre4 K L X w s ka kc la lc xa xn) (hS : Ints Q .i64 w sa sn S) (hI : Ints Q' .u8 w ia il I) (hB : Byt il I) (hsn : sn ≤ 1048576) (hil : il ≤ 1048576) :
    Calls Try.prog 103 #[stV s ka kc la lc xa xn xc, .agg #[.int .i64 5, .int .i64 ag, .int .i64 to_, .slice sa sn sc], .slice ia il ic, .int .i64 most] w (DoIs (s.act ⟨5, ag, to_, sn, S⟩ il I most) K L X w) := by
  obtain ⟨n, hnn⟩ : ∃ n, s.st.length = n := ⟨_, rfl⟩
  obtain ⟨ln, hll⟩ : ∃ ln, s.log.length = ln := ⟨_, rfl⟩
  have HN : Hid (s.st.length = n) := hnn
  have HLL : Hid (s.log.length = ln) := hll
  have HV : Hid (stV s ka kc la lc xa xn xc = .agg #[.int .i64 s.at_, .int .i64 (s.pos : Int), .slice ka n kc, .slice la ln lc, .int .i64 (s.far : Int), .slice xa xn xc, .int .i64 (s.steps : Int), .int .i64 (s.throws : Int), .bool s.done, .int .i64 s.code, .int .i64 s.label]) := by
    show _ = _
    unfold stV
    rw [hnn, hll]
  rw [HV.out]
  have HP : Hid (Pre4 K L X w s ka kc la lc xa xn) := hP
  have HS : Hid (Ints Q .i64 w sa sn S) := hS
  have HI : Hid (Ints Q' .u8 w ia il I) := hI
  have HBY : Hid (Byt il I) := hB
  have at0 := hP.at0
  have at1 := hP.at1
  have thr := hP.thr
  have hn := hP.len
  rw [hnn] at hn
  have hlg := hP.logl
  rw [hll] at hlg
  clear hP hS hI hB hnn hll
  go_enter Try.func103, Try.ntmps103
  go_wp2_with fail
  have hc1 := fun W h1 => l4top_any s ka la xa kc lc xn xc 1 W h1 HP.out.len
  simp only [HV.out] at hc1
  refine (hc1 _ (own_frames (HP.out.a.st.on (fun b hb => (bel3 w _ _ _).block b (HP.out.a.lt b (.inl hb)))))).mono ?_
  clear hc1
  rintro e W1 ⟨rfl, hb1⟩
  have B1 : Hid (Below w.heap.size w W1) := bel_tr (bel3 w _ _ _) hb1
  have hz1 : W1.heap[w.heap.size]? = some (.cells #[.int .i64 s.at_, .int .i64 (s.pos : Int), .slice ka n kc, .slice la ln lc, .int .i64 (s.far : Int), .slice xa xn xc, .int .i64 (s.steps : Int), .int .i64 (s.throws : Int), .bool s.done, .int .i64 s.code, .int .i64 s.label] 137) := (hb1.block _ (by first | (simp; done) | (simp; omega))).trans (blk_old (blk_old (blk_new w _ _ rfl) _) _)
  have hu1 : W1.heap[w.heap.size + 1]? = some (.cells #[.int .i64 5, .int .i64 ag, .int .i64 to_, .slice sa sn sc] 129) := (hb1.block _ (by first | (simp; done) | (simp; omega))).trans (blk_old (blk_new _ _ _ (by simp)) _)
  have hy1 : W1.heap[w.heap.size + 1 + 1]? = some (.cells #[.int .i64 0, .int .i64 0, .slice none 0 0, .slice none 0 0, .int .i64 0, .slice none 0 0, .int .i64 0, .int .i64 0, .bool false, .int .i64 0, .int .i64 0] 137) := (hb1.block _ (by simp)).trans (blk_new _ _ _ (by simp))
  have z0 := blk_cell (j := 0) hz1 rfl
  have z1 := blk_cell (j := 1) hz1 rfl
  have z2 := blk_cell (j := 2) hz1 rfl
  have z3 := blk_cell (j := 3) hz1 rfl
  have z4 := blk_cell (j := 4) hz1 rfl
  have z5 := blk_cell (j := 5) hz1 rfl
  have z6 := blk_cell (j := 6) hz1 rfl
  have z7 := blk_cell (j := 7) hz1 rfl
  have z8 := blk_cell (j := 8) hz1 rfl
  have z9 := blk_cell (j := 9) hz1 rfl
  have z10 := blk_cell (j := 10) hz1 rfl
  have u0 := blk_cell (j := 0) hu1 rfl
  have u1 := blk_cell (j := 1) hu1 rfl
  have u2 := blk_cell (j := 2) hu1 rfl
  have u3 := blk_cell (j := 3) hu1 rfl
  have p0 := blk_frz (j := 0) hz1
  have p2 := blk_frz (j := 2) hz1
  have p3 := blk_frz (j := 3) hz1
  have p7 := blk_frz (j := 7) hz1
  have p10 := blk_frz (j := 10) hz1
  have HY1 : Hid (W1.heap[w.heap.size + 1 + 1]? = some (.cells #[.int .i64 0, .int .i64 0, .slice none 0 0, .slice none 0 0, .int .i64 0, .slice none 0 0, .int .i64 0, .int .i64 0, .bool false, .int .i64 0, .int .i64 0] 137)) := hy1
  have lw0 : w.heap.size < W1.heap.size := lt_of_cell z0
  have lwu : w.heap.size + 1 < W1.heap.size := lt_of_cell u0
  have lwy : w.heap.size + 1 + 1 < W1.heap.size := by have := (Array.getElem?_eq_some_iff.1 hy1).1; exact this
  clear hb1 hz1 hu1 hy1
  cases htop : s.top 1 with
  | true =>
    obtain ⟨m, f, hm, hf, hlast, hfk⟩ := top_len htop
    have HPL : Hid (s.pop.st.length = m) := pop_len hm
    obtain rfl : n = m + 1 := by rw [← HN.out]; exact hm
    have HF : Hid (s.st[m]? = some f) := hf
    have HTT : Hid (topTo s.st = f.to) := by show _ = _; unfold topTo; rw [hlast]
    have hkc := own_cap HP.out.a.st
    rw [HN.out] at hkc
    have hkc' : (m : Int) ≤ (kc : Int) := by omega
    have hm0 : (0 : Int) ≤ (m : Int) := by omega
    have hml : (m : Int) < ((m + 1 : Nat) : Int) := by omega
    have hm1 : ((m + 1 : Nat) : Int) - 1 = (m : Int) := by omega
    have HT0 : Hid (s.act ⟨5, ag, to_, sn, S⟩ il I most = s.pop.fail) := by show _ = _; unfold MSt.act; rw [if_neg (by simp), if_neg (by simp), if_neg (by simp), if_neg (by simp), if_neg (by simp), if_neg (by simp), if_neg (by simp), if_pos ⟨rfl, htop⟩]
    clear hm hf hlast hfk htop hkc
    obtain ⟨t, ht⟩ : ∃ t, (s.pop).fail = t := ⟨_, rfl⟩
    have HTP : Hid ((s.pop).fail = t) := ht
    have HT : Hid (s.act ⟨5, ag, to_, sn, S⟩ il I most = t) := by show _ = _; rw [HT0.out, ht]
    have HV2 : Hid (stV (s.pop) ka kc la lc xa xn xc = .agg #[.int .i64 s.at_, .int .i64 (s.pos : Int), .slice ka m kc, .slice la ln lc, .int .i64 (s.far : Int), .slice xa xn xc, .int .i64 (s.steps : Int), .int .i64 (s.throws : Int), .bool s.done, .int .i64 s.code, .int .i64 s.label]) := by
      show _ = _
      unfold stV
      rw [HPL.out, show (s.pop).log.length = ln from HLL.out]; rfl
    go_wp2_with fail
    have hc := fun W h1 => l4fail_any (s.pop) ka la xa kc lc xn xc W h1 (by rw [HPL.out]; omega) (by rw [HPL.out]; have := own_cap HP.out.a.st; rw [HN.out] at this; omega) (own_cap HP.out.a.log) (fun f hf => HP.out.last f (List.dropLast_subset _ hf))
    simp only [ht, HV2.out] at hc
    refine (hc _ (own_frames ((HP.out.a.pop).st.on (fun b hb => (bel_set (B1.out) _ _ _ (Nat.le_refl _)).block b (HP.out.a.lt b (.inl hb)))))).mono ?_
    clear hc ht
    rintro e W ⟨rfl, hb⟩
    have B2 : Hid (Below w.heap.size w W) := bel_tr (bel_set (B1.out) _ _ _ (Nat.le_refl _)) hb
    have hy : W.heap[w.heap.size + 1 + 1]? = some (.cells #[.int .i64 0, .int .i64 0, .slice none 0 0, .slice none 0 0, .int .i64 0, .slice none 0 0, .int .i64 0, .int .i64 0, .bool false, .int .i64 0, .int .i64 0] 137) := (hb.block _ (by simp only [size_set]; exact lwy)).trans ((Below.heap_setCell _ _ _ _ (by simp; omega)).trans (HY1.out))
    have y0 := blk_cell (j := 0) hy rfl
    have y1 := blk_cell (j := 1) hy rfl
    have y2 := blk_cell (j := 2) hy rfl
    have y3 := blk_cell (j := 3) hy rfl
    have y4 := blk_cell (j := 4) hy rfl
    have y5 := blk_cell (j := 5) hy rfl
    have y6 := blk_cell (j := 6) hy rfl
    have y7 := blk_cell (j := 7) hy rfl
    have y8 := blk_cell (j := 8) hy rfl
    have y9 := blk_cell (j := 9) hy rfl
    have y10 := blk_cell (j := 10) hy rfl
    have q0 := blk_frz (j := 0) hy
    have q1 := blk_frz (j := 1) hy
    have q2 := blk_frz (j := 2) hy
    have q3 := blk_frz (j := 3) hy
    have q4 := blk_frz (j := 4) hy
    have q5 := blk_frz (j := 5) hy
    have q6 := blk_frz (j := 6) hy
    have q7 := blk_frz (j := 7) hy
    have q8 := blk_frz (j := 8) hy
    have q9 := blk_frz (j := 9) hy
    have q10 := blk_frz (j := 10) hy
    have lw : w.heap.size + 1 + 1 < W.heap.size := lt_of_cell y0
    clear hb hy
    have HA : Hid (SpA K L X W t ka kc la lc xa xn) := by
      rw [← HTP.out]
      exact ((HP.out.a.on (fun b hq => (B2.out).block b (HP.out.a.lt b hq)) (B2.out).size).pop).fail
    unfold stV
    go_wp2
    refine bodyPost_ret (v := stV t ka kc la lc xa xn xc) ?_ rfl ?_
    · unfold stV
      simp [results, Try.f103, go_sem, *]
    · rw [HT.out]
      exact do_end HA.out HP.out.a.lt (fun b hb => .inl hb) (fun b hb => .inl hb) (fun b hb => .inl hb) (Kept.of B2.out) (Only.set (Only.set (Only.set (Only.set (Only.set (Only.set (Only.set (Only.set (Only.set (Only.set (Only.set (Only.refl _ _) _ _ _ ⟨by omega, by omega⟩) _ _ _ ⟨by omega, by omega⟩) _ _ _ ⟨by omega, by omega⟩) _ _ _ ⟨by omega, by omega⟩) _ _ _ ⟨by omega, by omega⟩) _ _ _ ⟨by omega, by omega⟩) _ _ _ ⟨by omega, by omega⟩) _ _ _ ⟨by omega, by omega⟩) _ _ _ ⟨by omega, by omega⟩) _ _ _ ⟨by omega, by omega⟩) _ _ _ ⟨by omega, by omega⟩)
  | false =>
    have HT0 : Hid (s.act ⟨5, ag, to_, sn, S⟩ il I most = s.fin 4) := by show _ = _; unfold MSt.act; rw [if_neg (by simp), if_neg (by simp), if_neg (by simp), if_neg (by simp), if_neg (by simp), if_neg (by simp), if_neg (by simp), if_neg (fun q => by rw [htop] at q; cases q.2), if_neg (by simp), if_neg (by simp), if_neg (by simp), if_neg (by simp), if_neg (by simp)]
    clear htop
    obtain ⟨t, ht⟩ : ∃ t, (s).fin 4 = t := ⟨_, rfl⟩
    have HTP : Hid ((s).fin 4 = t) := ht
    have HT : Hid (s.act ⟨5, ag, to_, sn, S⟩ il I most = t) := by show _ = _; rw [HT0.out, ht]
    have HV2 : Hid (stV (s) ka kc la lc xa xn xc = .agg #[.int .i64 s.at_, .int .i64 (s.pos : Int), .slice ka n kc, .slice la ln lc, .int .i64 (s.far : Int), .slice xa xn xc, .int .i64 (s.steps : Int), .int .i64 (s.throws : Int), .bool s.done, .int .i64 s.code, .int .i64 s.label]) := by
      show _ = _
      unfold stV
      first | (simp only [HN.out, HLL.out]; done) | (simp only [HN.out, HLL.out]; rfl)
    go_wp2_with fail
    have hc := fun W => l4end_any (s) ka la xa kc lc xn xc 4 W
    simp only [ht, HV2.out] at hc
    refine (hc _).mono ?_
    clear hc ht
    rintro e W ⟨rfl, hb⟩
    have B2 : Hid (Below w.heap.size w W) := bel_tr (B1.out) hb
    have hy : W.heap[w.heap.size + 1 + 1]? = some (.cells #[.int .i64 0, .int .i64 0, .slice none 0 0, .slice none 0 0, .int .i64 0, .slice none 0 0, .int .i64 0, .int .i64 0, .bool false, .int .i64 0, .int .i64 0] 137) := (hb.block _ (by exact lwy)).trans (HY1.out)
    have y0 := blk_cell (j := 0) hy rfl
    have y1 := blk_cell (j := 1) hy rfl
    have y2 := blk_cell (j := 2) hy rfl
    have y3 := blk_cell (j := 3) hy rfl
    have y4 := blk_cell (j := 4) hy rfl
    have y5 := blk_cell (j := 5) hy rfl
    have y6 := blk_cell (j := 6) hy rfl
    have y7 := blk_cell (j := 7) hy rfl
    have y8 := blk_cell (j := 8) hy rfl
    have y9 := blk_cell (j := 9) hy rfl
    have y10 := blk_cell (j := 10) hy rfl
    have q0 := blk_frz (j := 0) hy
    have q1 := blk_frz (j := 1) hy
    have q2 := blk_frz (j := 2) hy
    have q3 := blk_frz (j := 3) hy
    have q4 := blk_frz (j := 4) hy
    have q5 := blk_frz (j := 5) hy
    have q6 := blk_frz (j := 6) hy
    have q7 := blk_frz (j := 7) hy
    have q8 := blk_frz (j := 8) hy
    have q9 := blk_frz (j := 9) hy
    have q10 := blk_frz (j := 10) hy
    have lw : w.heap.size + 1 + 1 < W.heap.size := lt_of_cell y0
    clear hb hy
    have HA : Hid (SpA K L X W t ka kc la lc xa xn) := (SpA.same (s := s) (HP.out.a.on (fun b hq => (B2.out).block b (HP.out.a.lt b hq)) (B2.out).size) (by rw [← HTP.out]; rfl) (by rw [← HTP.out]; rfl) (by rw [← HTP.out]; rfl))
    unfold stV
    go_wp2
    refine bodyPost_ret (v := stV t ka kc la lc xa xn xc) ?_ rfl ?_
    · unfold stV
      simp [results, Try.f103, go_sem, *]
    · rw [HT.out]
      exact do_end HA.out HP.out.a.lt (fun b hb => .inl hb) (fun b hb => .inl hb) (fun b hb => .inl hb) (Kept.of B2.out) (Only.set (Only.set (Only.set (Only.set (Only.set (Only.set (Only.set (Only.set (Only.set (Only.set (Only.set (Only.refl _ _) _ _ _ ⟨by omega, by omega⟩) _ _ _ ⟨by omega, by omega⟩) _ _ _ ⟨by omega, by omega⟩) _ _ _ ⟨by omega, by omega⟩) _ _ _ ⟨by omega, by omega⟩) _ _ _ ⟨by omega, by omega⟩) _ _ _ ⟨by omega, by omega⟩) _ _ _ ⟨by omega, by omega⟩) _ _ _ ⟨by omega, by omega⟩) _ _ _ ⟨by omega, by omega⟩) _ _ _ ⟨by omega, by omega⟩)

set_option maxRecDepth 100000 in
set_option maxHeartbeats 16000000 in
theorem do_ret (K L X Q Q' : Nat → Prop) (s : MSt) (ka la xa : Option Addr) (kc lc xn xc : Nat) (ag to_ : Int) (sa : Option Addr) (sn sc : Nat) (S : Nat → Int) (ia : Option Addr) (il ic : Nat) (I : Nat → Int) (most : Int) (w : World) (hP : Pre4 K L X w s ka kc la lc xa xn) (hS : Ints Q .i64 w sa sn S) (hI : Ints Q' .u8 w ia il I) (hB : Byt il I) (hsn : sn ≤ 1048576) (hil : il ≤ 1048576) :
    Calls Try.prog 103 #[stV s ka kc la lc xa xn xc, .agg #[.int .i64 7, .int .i64 ag, .int .i64 to_, .slice sa sn sc], .slice ia il ic, .int .i64 most] w (DoIs (s.act ⟨7, ag, to_, sn, S⟩ il I most) K L X w) := by
  obtain ⟨n, hnn⟩ : ∃ n, s.st.length = n := ⟨_, rfl⟩
  obtain ⟨ln, hll⟩ : ∃ ln, s.log.length = ln := ⟨_, rfl⟩
  have HN : Hid (s.st.length = n) := hnn
  have HLL : Hid (s.log.length = ln) := hll
  have HV : Hid (stV s ka kc la lc xa xn xc = .agg #[.int .i64 s.at_, .int .i64 (s.pos : Int), .slice ka n kc, .slice la ln lc, .int .i64 (s.far : Int), .slice xa xn xc, .int .i64 (s.steps : Int), .int .i64 (s.throws : Int), .bool s.done, .int .i64 s.code, .int .i64 s.label]) := by
    show _ = _
    unfold stV
    rw [hnn, hll]
  rw [HV.out]
  have HP : Hid (Pre4 K L X w s ka kc la lc xa xn) := hP
  have HS : Hid (Ints Q .i64 w sa sn S) := hS
  have HI : Hid (Ints Q' .u8 w ia il I) := hI
  have HBY : Hid (Byt il I) := hB
  have at0 := hP.at0
  have at1 := hP.at1
  have thr := hP.thr
  have hn := hP.len
  rw [hnn] at hn
  have hlg := hP.logl
  rw [hll] at hlg
  clear hP hS hI hB hnn hll
  go_enter Try.func103, Try.ntmps103
  go_wp2_with fail
  have hc1 := fun W h1 => l4top_any s ka la xa kc lc xn xc 2 W h1 HP.out.len
  simp only [HV.out] at hc1
  refine (hc1 _ (own_frames (HP.out.a.st.on (fun b hb => (bel3 w _ _ _).block b (HP.out.a.lt b (.inl hb)))))).mono ?_
  clear hc1
  rintro e W1 ⟨rfl, hb1⟩
  have B1 : Hid (Below w.heap.size w W1) := bel_tr (bel3 w _ _ _) hb1
  have hz1 : W1.heap[w.heap.size]? = some (.cells #[.int .i64 s.at_, .int .i64 (s.pos : Int), .slice ka n kc, .slice la ln lc, .int .i64 (s.far : Int), .slice xa xn xc, .int .i64 (s.steps : Int), .int .i64 (s.throws : Int), .bool s.done, .int .i64 s.code, .int .i64 s.label] 137) := (hb1.block _ (by first | (simp; done) | (simp; omega))).trans (blk_old (blk_old (blk_new w _ _ rfl) _) _)
  have hu1 : W1.heap[w.heap.size + 1]? = some (.cells #[.int .i64 7, .int .i64 ag, .int .i64 to_, .slice sa sn sc] 129) := (hb1.block _ (by first | (simp; done) | (simp; omega))).trans (blk_old (blk_new _ _ _ (by simp)) _)
  have hy1 : W1.heap[w.heap.size + 1 + 1]? = some (.cells #[.int .i64 0, .int .i64 0, .slice none 0 0, .slice none 0 0, .int .i64 0, .slice none 0 0, .int .i64 0, .int .i64 0, .bool false, .int .i64 0, .int .i64 0] 137) := (hb1.block _ (by simp)).trans (blk_new _ _ _ (by simp))
  have z0 := blk_cell (j := 0) hz1 rfl
  have z1 := blk_cell (j := 1) hz1 rfl
  have z2 := blk_cell (j := 2) hz1 rfl
  have z3 := blk_cell (j := 3) hz1 rfl
  have z4 := blk_cell (j := 4) hz1 rfl
  have z5 := blk_cell (j := 5) hz1 rfl
  have z6 := blk_cell (j := 6) hz1 rfl
  have z7 := blk_cell (j := 7) hz1 rfl
  have z8 := blk_cell (j := 8) hz1 rfl
  have z9 := blk_cell (j := 9) hz1 rfl
  have z10 := blk_cell (j := 10) hz1 rfl
  have u0 := blk_cell (j := 0) hu1 rfl
  have u1 := blk_cell (j := 1) hu1 rfl
  have u2 := blk_cell (j := 2) hu1 rfl
  have u3 := blk_cell (j := 3) hu1 rfl
  have p0 := blk_frz (j := 0) hz1
  have p2 := blk_frz (j := 2) hz1
  have p3 := blk_frz (j := 3) hz1
  have p7 := blk_frz (j := 7) hz1
  have p10 := blk_frz (j := 10) hz1
  have HY1 : Hid (W1.heap[w.heap.size + 1 + 1]? = some (.cells #[.int .i64 0, .int .i64 0, .slice none 0 0, .slice none 0 0, .int .i64 0, .slice none 0 0, .int .i64 0, .int .i64 0, .bool false, .int .i64 0, .int .i64 0] 137)) := hy1
  have lw0 : w.heap.size < W1.heap.size := lt_of_cell z0
  have lwu : w.heap.size + 1 < W1.heap.size := lt_of_cell u0
  have lwy : w.heap.size + 1 + 1 < W1.heap.size := by have := (Array.getElem?_eq_some_iff.1 hy1).1; exact this
  clear hb1 hz1 hu1 hy1
  cases htop : s.top 2 with
  | true =>
    obtain ⟨m, f, hm, hf, hlast, hfk⟩ := top_len htop
    have HPL : Hid (s.pop.st.length = m) := pop_len hm
    obtain rfl : n = m + 1 := by rw [← HN.out]; exact hm
    have HF : Hid (s.st[m]? = some f) := hf
    have HTT : Hid (topTo s.st = f.to) := by show _ = _; unfold topTo; rw [hlast]
    have hkc := own_cap HP.out.a.st
    rw [HN.out] at hkc
    have hkc' : (m : Int) ≤ (kc : Int) := by omega
    have hm0 : (0 : Int) ≤ (m : Int) := by omega
    have hml : (m : Int) < ((m + 1 : Nat) : Int) := by omega
    have hm1 : ((m + 1 : Nat) : Int) - 1 = (m : Int) := by omega
    have HT0 : Hid (s.act ⟨7, ag, to_, sn, S⟩ il I most = ({ s.pop with at_ := f.to } : MSt)) := by show _ = _; unfold MSt.act; rw [if_neg (by simp), if_neg (by simp), if_neg (by simp), if_neg (by simp), if_neg (by simp), if_neg (by simp), if_neg (by simp), if_neg (by simp), if_pos ⟨rfl, htop⟩]; rw [HTT.out]
    clear hm hf hlast hfk htop hkc
    have hfr := own_frames ((HP.out.a.on (fun b hq => (B1.out).block b (HP.out.a.lt b hq)) (B1.out).size)).st
    rcases hfr with h0 | ⟨fb, rfl, hfr⟩
    · rw [HN.out] at h0; omega
    obtain ⟨f0, f1, f2, f3⟩ := hfr m f HF.out
    have lfb := lt_of_cell f0
    have HNB : Hid (fb < w.heap.size) := by
      rcases HP.out.a.st with ⟨e, _⟩ | ⟨g, cap, e, hq, _⟩
      · cases e
      · obtain rfl : fb = g := by injection e with e1; injection e1 with e1; injection e1
        exact HP.out.a.lt _ (.inl hq)
    have lfw : fb < w.heap.size := HNB.out
    clear hfr
    have HVR : Hid (stV (({ s.pop with at_ := f.to } : MSt)) (some ⟨fb, 0, none⟩) kc la lc xa xn xc = .agg #[.int .i64 f.to, .int .i64 (s.pos : Int), .slice (some ⟨fb, 0, none⟩) m kc, .slice la ln lc, .int .i64 (s.far : Int), .slice xa xn xc, .int .i64 (s.steps : Int), .int .i64 (s.throws : Int), .bool s.done, .int .i64 s.code, .int .i64 s.label]) := by
      show _ = _
      unfold stV
      rw [show (({ s.pop with at_ := f.to } : MSt)).st.length = m from HPL.out, show (({ s.pop with at_ := f.to } : MSt)).log.length = ln from HLL.out]; rfl
    have hy := HY1.out
    have y0 := blk_cell (j := 0) hy rfl
    have y1 := blk_cell (j := 1) hy rfl
    have y2 := blk_cell (j := 2) hy rfl
    have y3 := blk_cell (j := 3) hy rfl
    have y4 := blk_cell (j := 4) hy rfl
    have y5 := blk_cell (j := 5) hy rfl
    have y6 := blk_cell (j := 6) hy rfl
    have y7 := blk_cell (j := 7) hy rfl
    have y8 := blk_cell (j := 8) hy rfl
    have y9 := blk_cell (j := 9) hy rfl
    have y10 := blk_cell (j := 10) hy rfl
    have q0 := blk_frz (j := 0) hy
    have q1 := blk_frz (j := 1) hy
    have q2 := blk_frz (j := 2) hy
    have q3 := blk_frz (j := 3) hy
    have q4 := blk_frz (j := 4) hy
    have q5 := blk_frz (j := 5) hy
    have q6 := blk_frz (j := 6) hy
    have q7 := blk_frz (j := 7) hy
    have q8 := blk_frz (j := 8) hy
    have q9 := blk_frz (j := 9) hy
    have q10 := blk_frz (j := 10) hy
    clear hy
    go_wp2
    refine bodyPost_ret (v := stV (({ s.pop with at_ := f.to } : MSt)) (some ⟨fb, 0, none⟩) kc la lc xa xn xc) ?_ rfl ?_
    · rw [HVR.out]
      simp [results, Try.f103, go_sem, *]
    · rw [HT0.out]
      exact do_end (W := W1) (SpA.same (s := s.pop) ((HP.out.a.on (fun b hq => (B1.out).block b (HP.out.a.lt b hq)) (B1.out).size)).pop rfl rfl rfl) HP.out.a.lt (fun b hb => .inl hb) (fun b hb => .inl hb) (fun b hb => .inl hb) (Kept.of B1.out) (Only.set (Only.set (Only.set (Only.set (Only.set (Only.set (Only.set (Only.set (Only.set (Only.set (Only.set (Only.set (Only.set (Only.refl _ _) _ _ _ ⟨by omega, by omega⟩) _ _ _ ⟨by omega, by omega⟩) _ _ _ ⟨by omega, by omega⟩) _ _ _ ⟨by omega, by omega⟩) _ _ _ ⟨by omega, by omega⟩) _ _ _ ⟨by omega, by omega⟩) _ _ _ ⟨by omega, by omega⟩) _ _ _ ⟨by omega, by omega⟩) _ _ _ ⟨by omega, by omega⟩) _ _ _ ⟨by omega, by omega⟩) _ _ _ ⟨by omega, by omega⟩) _ _ _ ⟨by omega, by omega⟩) _ _ _ ⟨by omega, by omega⟩)
  | false =>
    have HT0 : Hid (s.act ⟨7, ag, to_, sn, S⟩ il I most = s.fin 4) := by show _ = _; unfold MSt.act; rw [if_neg (by simp), if_neg (by simp), if_neg (by simp), if_neg (by simp), if_neg (by simp), if_neg (by simp), if_neg (by simp), if_neg (by simp), if_neg (fun q => by rw [htop] at q; cases q.2), if_neg (by simp), if_neg (by simp), if_neg (by simp), if_neg (by simp)]
    clear htop
    obtain ⟨t, ht⟩ : ∃ t, (s).fin 4 = t := ⟨_, rfl⟩
    have HTP : Hid ((s).fin 4 = t) := ht
    have HT : Hid (s.act ⟨7, ag, to_, sn, S⟩ il I most = t) := by show _ = _; rw [HT0.out, ht]
    have HV2 : Hid (stV (s) ka kc la lc xa xn xc = .agg #[.int .i64 s.at_, .int .i64 (s.pos : Int), .slice ka n kc, .slice la ln lc, .int .i64 (s.far : Int), .slice xa xn xc, .int .i64 (s.steps : Int), .int .i64 (s.throws : Int), .bool s.done, .int .i64 s.code, .int .i64 s.label]) := by
      show _ = _
      unfold stV
      first | (simp only [HN.out, HLL.out]; done) | (simp only [HN.out, HLL.out]; rfl)
    go_wp2_with fail
    have hc := fun W => l4end_any (s) ka la xa kc lc xn xc 4 W
    simp only [ht, HV2.out] at hc
    refine (hc _).mono ?_
    clear hc ht
    rintro e W ⟨rfl, hb⟩
    have B2 : Hid (Below w.heap.size w W) := bel_tr (B1.out) hb
    have hy : W.heap[w.heap.size + 1 + 1]? = some (.cells #[.int .i64 0, .int .i64 0, .slice none 0 0, .slice none 0 0, .int .i64 0, .slice none 0 0, .int .i64 0, .int .i64 0, .bool false, .int .i64 0, .int .i64 0] 137) := (hb.block _ (by exact lwy)).trans (HY1.out)
    have y0 := blk_cell (j := 0) hy rfl
    have y1 := blk_cell (j := 1) hy rfl
    have y2 := blk_cell (j := 2) hy rfl
    have y3 := blk_cell (j := 3) hy rfl
    have y4 := blk_cell (j := 4) hy rfl
    have y5 := blk_cell (j := 5) hy rfl
    have y6 := blk_cell (j := 6) hy rfl
    have y7 := blk_cell (j := 7) hy rfl
    have y8 := blk_cell (j := 8) hy rfl
    have y9 := blk_cell (j := 9) hy rfl
    have y10 := blk_cell (j := 10) hy rfl
    have q0 := blk_frz (j := 0) hy
    have q1 := blk_frz (j := 1) hy
    have q2 := blk_frz (j := 2) hy
    have q3 := blk_frz (j := 3) hy
    have q4 := blk_frz (j := 4) hy
    have q5 := blk_frz (j := 5) hy
    have q6 := blk_frz (j := 6) hy
    have q7 := blk_frz (j := 7) hy
    have q8 := blk_frz (j := 8) hy
    have q9 := blk_frz (j := 9) hy
    have q10 := blk_frz (j := 10) hy
    have lw : w.heap.size + 1 + 1 < W.heap.size := lt_of_cell y0
    clear hb hy
    have HA : Hid (SpA K L X W t ka kc la lc xa xn) := (SpA.same (s := s) (HP.out.a.on (fun b hq => (B2.out).block b (HP.out.a.lt b hq)) (B2.out).size) (by rw [← HTP.out]; rfl) (by rw [← HTP.out]; rfl) (by rw [← HTP.out]; rfl))
    unfold stV
    go_wp2
    refine bodyPost_ret (v := stV t ka kc la lc xa xn xc) ?_ rfl ?_
    · unfold stV
      simp [results, Try.f103, go_sem, *]
    · rw [HT.out]
      exact do_end HA.out HP.out.a.lt (fun b hb => .inl hb) (fun b hb => .inl hb) (fun b hb => .inl hb) (Kept.of B2.out) (Only.set (Only.set (Only.set (Only.set (Only.set (Only.set (Only.set (Only.set (Only.set (Only.set (Only.set (Only.refl _ _) _ _ _ ⟨by omega, by omega⟩) _ _ _ ⟨by omega, by omega⟩) _ _ _ ⟨by omega, by omega⟩) _ _ _ ⟨by omega, by omega⟩) _ _ _ ⟨by omega, by omega⟩) _ _ _ ⟨by omega, by omega⟩) _ _ _ ⟨by omega, by omega⟩) _ _ _ ⟨by omega, by omega⟩) _ _ _ ⟨by omega, by omega⟩) _ _ _ ⟨by omega, by omega⟩) _ _ _ ⟨by omega, by omega⟩)

end Go.Proofs.Ytcmcbemcfjbchab
