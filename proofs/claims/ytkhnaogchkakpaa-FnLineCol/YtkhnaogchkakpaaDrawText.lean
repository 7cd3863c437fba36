/-
  Walks: a drawn text.
-/
import Derived.Test.YtkhnaogchkakpaaDraw
import Derived.Test.YtkhnaogchkakpaaLines
import Derived.RangeFuncBox
import Derived.OwnWalk
namespace Go.Proofs.Ytkhnaogchkakpaa
open Go.RowKit
set_option linter.unusedVariables false

/-- The bytes as values. -/
def vals (bs : List Int) : List Value := bs.map (fun x => Value.int .u8 x)

/-- A text that was made here: nil, or a row of its own. -/
def Made (w : World) (v : Value) (n : Nat) : Prop :=
  ∃ (a : Option Addr) (cap : Nat) (Q : Nat → Int), v = .slice a n cap ∧ n ≤ cap ∧ n ≤ 1048576 ∧ (∀ i, 0 ≤ Q i ∧ Q i ≤ 255) ∧ ((a = none ∧ n = 0 ∧ cap = 0) ∨ ∃ g, a = some ⟨g, 0, none⟩ ∧ Tx w g 0 n Q)

theorem keep_on {R B : Nat} {w w' : World} (h : Keep (fun k => k = R) w w') : Keep (fun k => k = R ∨ B ≤ k) w w' := h.mono fun _ => .inl
theorem keep_grown {R B : Nat} {w w' : World} {row : Option Nat} (h : w.grownBy w' row) (hr : ∀ k, row = some k → B ≤ k) : Keep (fun k => k = R ∨ B ≤ k) w w' :=
  ⟨h.os, h.tape, h.output, h.size, fun k hk hc => h.block k hk (fun e => hc (.inr (hr k e.symm)))⟩
theorem keep_drewN {R B : Nat} {w w' : World} (h : Keep (fun k => k = R ∨ B ≤ k) w w') (q : Nat) : Keep (fun k => k = R ∨ B ≤ k) w (w'.drewN q) := ⟨h.os, h.tape, h.output, h.size, h.block⟩

theorem own_keep {R B : Nat} {w w' : World} {v : Value} {n : Nat} {xs : List Value} (h : w.ownsRow B 5 1 v n xs) (hR : R < B) (k : Keep (fun k => k = R) w w') : w'.ownsRow B 5 1 v n xs := by
  obtain ⟨h1, h2⟩ := h
  refine ⟨h1, ?_⟩
  rcases h2 with h2 | ⟨g, cap, cur, hv, hg, hh, r⟩
  · exact .inl h2
  · exact .inr ⟨g, cap, cur, hv, hg, (k.block g (Array.getElem?_eq_some_iff.1 hh).1 (by omega)).trans hh, r⟩

theorem made_of_own {w : World} {B : Nat} {v : Value} {bs : List Int} {n : Nat} (h : w.ownsRow B 5 1 v n (vals bs)) (hb : ∀ x ∈ bs, 0 ≤ x ∧ x ≤ 255) (hn : n ≤ 1048576) : Made w v n := by
  obtain ⟨h1, h2⟩ := h
  have hl : bs.length = n := by simpa [vals] using h1
  have hQ : ∀ i, 0 ≤ bs.getD i 0 ∧ bs.getD i 0 ≤ 255 := fun i => by
    by_cases hi : i < bs.length
    · have e : bs.getD i 0 = bs[i] := by simp [hi]
      rw [e]; exact hb _ (List.getElem_mem hi)
    · have e : bs.getD i 0 = 0 := by simp [hi]
      rw [e]; omega
  rcases h2 with ⟨rfl, rfl⟩ | ⟨g, cap, cur, hv, hg, hh, hc, hm, hs, ht⟩
  · exact ⟨none, 0, fun i => bs.getD i 0, rfl, Nat.le_refl _, by omega, hQ, .inl ⟨rfl, rfl, rfl⟩⟩
  · refine ⟨some ⟨g, 0, none⟩, cap, fun i => bs.getD i 0, hv, hc, hn, hQ, .inr ⟨g, rfl, fun i hi => ?_⟩⟩
    have hcu : cur[i]? = some (.int .u8 (bs.getD i 0)) := by
      have e1 : (cur.toList.take (n * 1))[i]? = cur.toList[i]? := by rw [List.getElem?_take]; rw [if_pos (by omega)]
      have e2 : cur[i]? = cur.toList[i]? := by simp
      rw [e2, ← e1, ht]
      simp [vals, hl, hi]
    simp only [World.cell?, Nat.zero_add, hh]
    simpa using hcu

theorem made_pop {w : World} {B g cap n : Nat} {bs : List Int} (h : w.ownsRow B 5 1 (.slice (some ⟨g, 0, none⟩) n cap) n (vals bs)) (hb : ∀ x ∈ bs, 0 ≤ x ∧ x ≤ 255) (hn : n ≤ 1048576) (h0 : 0 < n) : Made w (.slice (some ⟨g, 0, none⟩) (n - 1) cap) (n - 1) := by
  obtain ⟨a, c, Q, e, h1, h2, h3, h4⟩ := made_of_own h hb hn
  simp only [Value.slice.injEq, true_and] at e
  obtain ⟨rfl, rfl⟩ := e
  rcases h4 with ⟨h4, _⟩ | ⟨g', h4, h5⟩
  · simp at h4
  · exact ⟨_, _, Q, rfl, by omega, by omega, h3, .inr ⟨g', h4, fun i hi => h5 i (by omega)⟩⟩

theorem Try.info5' : ∃ i, Try.prog.info? 5 = some i ∧ i.zero = some (.int .u8 0) ∧ i.size = 1 ∧ i.bytes = 1 := by
  obtain ⟨i, hi, hzz⟩ := Option.map_eq_some_iff.1 Try.info5
  simp only [Prod.mk.injEq] at hzz
  exact ⟨i, hi, hzz.1, hzz.2.1, hzz.2.2⟩

/-- What stands at the head of the loop. -/
structure DtI (w : World) (R : Nat) (a : Option Addr) (m cap : Nat) (T : Nat → Int) (i k : Nat) (v : Value) (bs : List Int) (wr : World) : Prop where
  row : wr.ownsRow w.heap.size 5 1 v k (vals bs)
  byte : ∀ x ∈ bs, 0 ≤ x ∧ x ≤ 255
  size : k ≤ 4 * i
  rd : ∃ j, Rd wr R a m cap T j
  keep : Keep (fun k => k = R ∨ w.heap.size ≤ k) w wr

theorem dt_step {w wr w1 w2 : World} {R : Nat} {a : Option Addr} {m cap : Nat} {T : Nat → Int} {i k k' : Nat} {v v' : Value} {bs : List Int} {Q : Nat → Int} (h : DtI w R a m cap T i k v bs wr) (hR : R < w.heap.size) (hQ : ∀ i, 0 ≤ Q i ∧ Q i ≤ 255)
    (hk : k' ≤ 4) (hon : RdOn wr w1 R a m cap T) (hown : w2.ownsRow w.heap.size 5 1 v' (k + k') (vals bs ++ vals ((List.range k').map Q))) (hg : w1.grownBy w2 v.ownBlock) :
    DtI w R a m cap T (i + 1) (k + k') v' (bs ++ (List.range k').map Q) w2 := by
  obtain ⟨⟨j, hj⟩, hkeep⟩ := hon
  have hlt := h.row.lt
  have hrow : ∀ b, v.ownBlock = some b → w.heap.size ≤ b := fun b e => (hlt b e).1
  have hs1 : w.heap.size ≤ w1.heap.size := Nat.le_trans h.keep.size hkeep.size
  refine ⟨by simpa [vals] using hown, fun x hx => ?_, by have := h.size; omega, ⟨j, hj.keep ((Below.refl _ w1).grown hg (by omega) (fun b e => by have := hrow b e; omega))⟩, (h.keep.trans (keep_on hkeep)).trans (keep_grown hg hrow)⟩
  rcases List.mem_append.1 hx with hx | hx
  · exact h.byte x hx
  · obtain ⟨i, _, rfl⟩ := List.mem_map.1 hx
    exact hQ i

theorem DtI.drewN {w wr : World} {R : Nat} {a : Option Addr} {m cap : Nat} {T : Nat → Int} {i k : Nat} {v : Value} {bs : List Int} (h : DtI w R a m cap T i k v bs wr) (q : Nat) : DtI w R a m cap T i k v bs (wr.drewN q) :=
  ⟨h.row, h.byte, h.size, by obtain ⟨j, hj⟩ := h.rd; exact ⟨j, hj.keep (below_drewN (Below.refl _ _) q)⟩, keep_drewN h.keep q⟩

theorem ownsRow_some4 {w : World} {base n : Nat} {e : TypeId} {v : Value} {xs : List Value} (h : w.ownsRow base e 1 v n xs) (hn : 0 < n) : ∃ g cap, v = .slice (some ⟨g, 0, none⟩) n cap := by
  obtain ⟨_, h2⟩ := h
  rcases h2 with ⟨_, rfl⟩ | ⟨g, cap, cur, hv, _⟩
  · omega
  · exact ⟨g, cap, hv⟩

set_option maxRecDepth 100000 in
set_option maxHeartbeats 4000000 in
theorem drawText_any (R : Nat) (a : Option Addr) (m cap i : Nat) (T : Nat → Int) (w : World) (h : Rd w R a m cap T i) :
    Calls Try.prog 15 #[.pointer (some ⟨R, 0, none⟩), .int .i64 40] w fun e w' => (∃ v n, e = .returned v ∧ Made w' v n) ∧ (∃ j, Rd w' R a m cap T j) ∧ Keep (fun k => k = R ∨ w.heap.size ≤ k) w w' := by
  obtain ⟨i0, hi, hz0, hz1, hz2⟩ := Try.info5'
  have hR := h.lt
  go_enter Try.func15, Try.ntmps15
  go_wp2_with fail
  refine (next_any R a m cap i T _ h).mono ?_
  rintro e w1 ⟨⟨v, rfl, v0, v1⟩, ⟨i1, h1⟩, k1⟩
  obtain ⟨nn, hnn, hn40⟩ : ∃ nn : Nat, v % 40 = nn ∧ nn < 40 := ⟨(v % 40).toNat, by omega, by omega⟩
  have HNN : Hid _ := hnn
  clear hnn
  go_wp2
  rw [HNN.out]
  go_loopw [6, 7] (fun o i wr => ∃ (ii k : Nat) (bs : List Int), i = .int .i64 ii ∧ ii ≤ nn ∧ DtI w R a m cap T ii k o bs wr) (fun _ i _ => 40 - (intOf i).toNat)
  case atStart => exact ⟨0, 0, [], rfl, Nat.zero_le _, World.ownsRow_nil _ _ _ _, fun x hx => by simp at hx, Nat.zero_le _, ⟨i1, h1⟩, keep_on k1⟩
  case round =>
    obtain ⟨ii, k, bs, rfl, hii, hD⟩ := hrel
    obtain ⟨j, hj⟩ := hD.rd
    have hjm := hj.le
    have hm5 := hj.small
    by_cases hlt : ii < nn
    · have d0 : decide ((ii : Int) < nn) = true := by simp [hlt]
      by_cases h3 : ii < 3
      · have d1 : decide ((ii : Int) < 3) = true := by simp; omega
        go_wp2_with fail
        refine (piece_any R a m cap j T _ hj).mono ?_
        rintro e w3 ⟨⟨g, k', Q, rfl, q1, q2, q3, q4, q5⟩, hon⟩
        have HON : Hid _ := hon
        have hownr : w3.ownsRow w.heap.size 5 1 u6 k (vals bs) := own_keep hD.row hR hon.2
        have hnews : ∀ jj u, (vals ((List.range k').map Q))[jj]? = some u → w3.cell? ((⟨g, 0, none⟩ : Addr).add jj) = some u := fun jj u hu => by
          have hjl : jj < k' := by
            have := (List.getElem?_eq_some_iff.1 hu).1
            simpa [vals] using this
          have e : (⟨g, 0, none⟩ : Addr).add jj = ⟨g, 0 + jj, none⟩ := by unfold Addr.add; split <;> simp_all
          rw [e, q4 jj hjl]
          simpa [vals, hjl] using hu
        have hbase : w.heap.size ≤ w3.heap.size := Nat.le_trans hD.keep.size hon.2.size
        clear hon
        go_wp2_with (at_builtin; refine wpList_append_own _ rfl _ _ 22 rfl w.heap.size 5 i0 (.int .u8 0) 1 1 Try.underlying22 hi hz0 hz1 hz2 rfl (by decide) _ k _ rfl hownr ⟨g, 0, none⟩ k' k' (vals ((List.range k').map Q)) rfl ?ha hnews ?hb ?hc ?hd hbase ?_; rotate_right; intro v' w4 hown' hgrow _)
        case ha => simp [vals]
        case hb => intro u hu; obtain ⟨x, _, rfl⟩ := List.mem_map.1 hu; rfl
        case hc => have := hD.size; show k + k' ≤ 2 ^ 63 - 1; omega
        case hd => have := hD.size; omega
        have HN : Hid (DtI w R a m cap T (ii + 1) (k + k') v' (bs ++ (List.range k').map Q) w4) := dt_step hD hR q5 q2 HON.out hown' hgrow
        obtain ⟨g4, c4, hv4⟩ := ownsRow_some4 hown' (by omega)
        subst hv4
        go_wp2
        go_roundw
        case rel => exact ⟨ii + 1, k + k', bs ++ (List.range k').map Q, by go_num, by omega, HN.out⟩
        case measure => simp [intOf]; omega
      · have d1 : decide ((ii : Int) < 3) = false := by simp; omega
        by_cases hl : j < m
        · have d2 : decide ((0 : Int) < (m : Int) - j) = true := by simp; omega
          go_wp2_with fail
          refine (left_any R a m cap j T _ hj).mono ?_
          rintro e w2 ⟨rfl, q, rfl⟩
          have hDq := hD.drewN q
          have hjq := hj.keep (below_drewN (Below.refl _ _) q)
          go_wp2_with fail
          refine (piece_any R a m cap j T _ hjq).mono ?_
          rintro e w3 ⟨⟨g, k', Q, rfl, q1, q2, q3, q4, q5⟩, hon⟩
          have HON : Hid _ := hon
          have hownr : w3.ownsRow w.heap.size 5 1 u6 k (vals bs) := own_keep hDq.row hR hon.2
          have hnews : ∀ jj u, (vals ((List.range k').map Q))[jj]? = some u → w3.cell? ((⟨g, 0, none⟩ : Addr).add jj) = some u := fun jj u hu => by
            have hjl : jj < k' := by
              have := (List.getElem?_eq_some_iff.1 hu).1
              simpa [vals] using this
            have e : (⟨g, 0, none⟩ : Addr).add jj = ⟨g, 0 + jj, none⟩ := by unfold Addr.add; split <;> simp_all
            rw [e, q4 jj hjl]
            simpa [vals, hjl] using hu
          have hbase : w.heap.size ≤ w3.heap.size := Nat.le_trans hDq.keep.size hon.2.size
          clear hon
          go_wp2_with (at_builtin; refine wpList_append_own _ rfl _ _ 22 rfl w.heap.size 5 i0 (.int .u8 0) 1 1 Try.underlying22 hi hz0 hz1 hz2 rfl (by decide) _ k _ rfl hownr ⟨g, 0, none⟩ k' k' (vals ((List.range k').map Q)) rfl ?ha hnews ?hb ?hc ?hd hbase ?_; rotate_right; intro v' w4 hown' hgrow _)
          case ha => simp [vals]
          case hb => intro u hu; obtain ⟨x, _, rfl⟩ := List.mem_map.1 hu; rfl
          case hc => have := hDq.size; show k + k' ≤ 2 ^ 63 - 1; omega
          case hd => have := hDq.size; omega
          have HN : Hid (DtI w R a m cap T (ii + 1) (k + k') v' (bs ++ (List.range k').map Q) w4) := dt_step hDq hR q5 q2 HON.out hown' hgrow
          obtain ⟨g4, c4, hv4⟩ := ownsRow_some4 hown' (by omega)
          subst hv4
          go_wp2
          go_roundw
          case rel => exact ⟨ii + 1, k + k', bs ++ (List.range k').map Q, by go_num, by omega, HN.out⟩
          case measure => simp [intOf]; omega
        · have d2 : decide ((0 : Int) < (m : Int) - j) = false := by simp; omega
          go_wp2_with fail
          refine (left_any R a m cap j T _ hj).mono ?_
          rintro e w2 ⟨rfl, q, rfl⟩
          have hDq := hD.drewN q
          have hjq := hj.keep (below_drewN (Below.refl _ _) q)
          go_wp2_with fail
          refine (next_any R a m cap j T _ hjq).mono ?_
          rintro e w3 ⟨⟨y, rfl, y0, y1⟩, ⟨j3, h3'⟩, k3⟩
          have hrow := own_keep hDq.row hR k3
          have hkp := hDq.keep.trans (keep_on k3)
          have hkn : k ≤ 1048576 := by have := hDq.size; omega
          have HBY : Hid _ := hDq.byte
          have hd8 : ∀ n : Nat, 0 < n → decide ((0 : Int) < n) = true := fun n h => by simp; omega
          rcases Go.Joins.ownsRow_forms hrow with ⟨rfl, rfl⟩ | ⟨g, c, rfl⟩
          · by_cases hy : y % 8 = 1
            · have hy' : (y % 8 == 1) = true := by simp [hy]
              clear hy
              go_wp2
              go_ret
              exact ⟨⟨_, 0, rfl, made_of_own hrow HBY.out (by omega)⟩, ⟨j3, h3'⟩, hkp⟩
            · have hy' : (y % 8 == 1) = false := by simp [hy]
              clear hy
              go_wp2
              go_ret
              exact ⟨⟨_, 0, rfl, made_of_own hrow HBY.out (by omega)⟩, ⟨j3, h3'⟩, hkp⟩
          · have hM := made_of_own hrow HBY.out hkn
            by_cases hy : y % 8 = 1
            · have hy' : (y % 8 == 1) = true := by simp [hy]
              clear hy
              by_cases hk0 : 0 < k
              · have hk0' : decide ((0 : Int) < k) = true := by simp [hk0]
                have hcap : k ≤ c := by
                  obtain ⟨a', c', Q', e', h', _⟩ := hM
                  simp only [Value.slice.injEq] at e'
                  omega
                have hP := made_pop hrow HBY.out hkn hk0
                have HP : Hid _ := hP
                clear hP hM
                go_wp2
                go_ret
                exact ⟨⟨_, k - 1, rfl, HP.out⟩, ⟨j3, h3'⟩, hkp⟩
              · have hk0' : decide ((0 : Int) < k) = false := by simp [hk0]
                go_wp2
                go_ret
                exact ⟨⟨_, k, rfl, hM⟩, ⟨j3, h3'⟩, hkp⟩
            · have hy' : (y % 8 == 1) = false := by simp [hy]
              clear hy
              go_wp2
              go_ret
              exact ⟨⟨_, k, rfl, hM⟩, ⟨j3, h3'⟩, hkp⟩
    · have d0 : decide ((ii : Int) < nn) = false := by simp; omega
      go_wp2_with fail
      refine (next_any R a m cap j T _ hj).mono ?_
      rintro e w3 ⟨⟨y, rfl, y0, y1⟩, ⟨j3, h3'⟩, k3⟩
      have hrow := own_keep hD.row hR k3
      have hkp := hD.keep.trans (keep_on k3)
      have hkn : k ≤ 1048576 := by have := hD.size; omega
      have HBY : Hid _ := hD.byte
      have hd8 : ∀ n : Nat, 0 < n → decide ((0 : Int) < n) = true := fun n h => by simp; omega
      rcases Go.Joins.ownsRow_forms hrow with ⟨rfl, rfl⟩ | ⟨g, c, rfl⟩
      · by_cases hy : y % 8 = 1
        · have hy' : (y % 8 == 1) = true := by simp [hy]
          clear hy
          go_wp2
          go_ret
          exact ⟨⟨_, 0, rfl, made_of_own hrow HBY.out (by omega)⟩, ⟨j3, h3'⟩, hkp⟩
        · have hy' : (y % 8 == 1) = false := by simp [hy]
          clear hy
          go_wp2
          go_ret
          exact ⟨⟨_, 0, rfl, made_of_own hrow HBY.out (by omega)⟩, ⟨j3, h3'⟩, hkp⟩
      · have hM := made_of_own hrow HBY.out hkn
        by_cases hy : y % 8 = 1
        · have hy' : (y % 8 == 1) = true := by simp [hy]
          clear hy
          by_cases hk0 : 0 < k
          · have hk0' : decide ((0 : Int) < k) = true := by simp [hk0]
            have hcap : k ≤ c := by
              obtain ⟨a', c', Q', e', h', _⟩ := hM
              simp only [Value.slice.injEq] at e'
              omega
            have hP := made_pop hrow HBY.out hkn hk0
            have HP : Hid _ := hP
            clear hP hM
            go_wp2
            go_ret
            exact ⟨⟨_, k - 1, rfl, HP.out⟩, ⟨j3, h3'⟩, hkp⟩
          · have hk0' : decide ((0 : Int) < k) = false := by simp [hk0]
            go_wp2
            go_ret
            exact ⟨⟨_, k, rfl, hM⟩, ⟨j3, h3'⟩, hkp⟩
        · have hy' : (y % 8 == 1) = false := by simp [hy]
          clear hy
          go_wp2
          go_ret
          exact ⟨⟨_, k, rfl, hM⟩, ⟨j3, h3'⟩, hkp⟩

set_option maxHeartbeats 1000000 in
/-- The reader is made; it reads at most 500 bytes of the code. -/
theorem open_any (a : Option Addr) (n cap : Nat) (T : Nat → Int) (w : World) (hT : ArgT w a n T) (hb : ∀ i, 0 ≤ T i ∧ T i ≤ 255) (hn : n ≤ 1048576) (hcap : n ≤ cap) (hnil : a = none → n = 0 ∧ cap = 0) :
    Calls Try.prog 14 #[.slice a n cap] w fun e w' => (∃ m, e = .returned (.pointer (some ⟨w.heap.size, 0, none⟩)) ∧ Rd w' w.heap.size a m cap T 0) ∧ Below w.heap.size w w' := by
  have fin : Hid (∀ m : Nat, m ≤ n → m ≤ 500 → Rd (w.alloc (.cells #[.slice a m cap, .int .i64 0] 48)) w.heap.size a m cap T 0) := fun m h1 h2 => by
    have h := World.alloc_heap_new w (.cells #[.slice a m cap, .int .i64 0] 48)
    refine ⟨by simp only [World.cell?, h]; rfl, by simp only [World.cell?, h]; rfl, by simp only [World.frozen?, h]; rfl, Nat.zero_le _, h2, ?_, hb⟩
    rcases hT with rfl | ⟨b, off, e, ht⟩
    · exact .inl (by omega)
    · by_cases h0 : m = 0
      · exact .inl h0
      · refine .inr ⟨b, off, e, fun i hi => ?_, lt_of_cell (ht 0 (by omega))⟩
        exact cellOn _ (ht i (by omega))
  cases a with
  | none =>
    obtain ⟨rfl, rfl⟩ := hnil rfl
    go_enter Try.func14, Try.ntmps14
    go_wp2
    go_ret
    have X := fin.out 0 (Nat.le_refl _) (by omega)
    first | exact ⟨⟨0, rfl, X⟩, (Below.refl _ w).alloc (Nat.le_refl _) _⟩ | exact ⟨⟨rfl, 0, X⟩, (Below.refl _ w).alloc (Nat.le_refl _) _⟩
  | some x =>
    by_cases h5 : 500 < n
    · have d : decide ((500 : Int) < n) = true := by simp; omega
      go_enter Try.func14, Try.ntmps14
      go_wp2
      go_ret
      have X := fin.out 500 (by omega) (by omega)
      first | exact ⟨⟨500, rfl, X⟩, (Below.refl _ w).alloc (Nat.le_refl _) _⟩ | exact ⟨⟨rfl, 500, X⟩, (Below.refl _ w).alloc (Nat.le_refl _) _⟩
    · have d : decide ((500 : Int) < n) = false := by simp; omega
      go_enter Try.func14, Try.ntmps14
      go_wp2
      go_ret
      have X := fin.out n (by omega) (by omega)
      first | exact ⟨⟨n, rfl, X⟩, (Below.refl _ w).alloc (Nat.le_refl _) _⟩ | exact ⟨⟨rfl, n, X⟩, (Below.refl _ w).alloc (Nat.le_refl _) _⟩

theorem Made.later {w w' : World} {v : Value} {n : Nat} (h : Made w v n) (k : ∀ g o u, w.cell? ⟨g, o, none⟩ = some u → (∃ i, u = .int .u8 i) → w'.cell? ⟨g, o, none⟩ = some u) : Made w' v n := by
  obtain ⟨a, cap, Q, h1, h2, h3, h4, h5⟩ := h
  refine ⟨a, cap, Q, h1, h2, h3, h4, h5.imp id (fun ⟨g, e, ht⟩ => ⟨g, e, fun i hi => k _ _ _ (ht i hi) ⟨_, rfl⟩⟩)⟩

theorem made_text {w : World} {v : Value} {n : Nat} (h : Made w v n) : ∃ a cap T adr, v = .slice a n cap ∧ TextV w a n cap T adr ∧ ((a = none ∧ n = 0) ∨ ∃ g, a = some ⟨g, 0, none⟩ ∧ Tx w g 0 n T) := by
  obtain ⟨a, cap, Q, h1, h2, h3, h4, h5⟩ := h
  rcases h5 with ⟨rfl, rfl, rfl⟩ | ⟨g, rfl, ht⟩
  · exact ⟨none, 0, Q, _, h1, textV_nil h4, .inl ⟨rfl, rfl⟩⟩
  · exact ⟨_, cap, Q, _, h1, textV_some ht h4 h3 h2, .inr ⟨g, rfl, ht⟩⟩

set_option maxRecDepth 100000 in
set_option maxHeartbeats 2000000 in
theorem drawLineCol_any (a : Option Addr) (n cap : Nat) (T : Nat → Int) (w : World) (hT : ArgT w a n T) (hb : ∀ i, 0 ≤ T i ∧ T i ≤ 255) (hn : n ≤ 1048576) (hcap : n ≤ cap) (hnil : a = none → n = 0 ∧ cap = 0) :
    Calls Try.prog 6 #[.slice a n cap] w fun e w' => (∃ v u k, e = .returned (.tuple #[v, .int .i64 u]) ∧ Made w' v k) ∧ Below w.heap.size w w' := by
  go_enter Try.func6, Try.ntmps6
  go_wp2_with fail
  refine (open_any a n cap T _ hT hb hn hcap hnil).mono ?_
  rintro e w1 ⟨⟨m, rfl, hr⟩, hb1⟩
  have hlt := hr.lt
  go_wp2_with fail
  refine (drawText_any w.heap.size a m cap 0 T _ hr).mono ?_
  rintro e w2 ⟨⟨v, k, rfl, hM⟩, ⟨j, hj⟩, hk2⟩
  obtain ⟨a2, c2, Q, rfl, q1, q2, q3, q4⟩ := hM
  have q4' := q4
  go_wp2_with fail
  refine (next_any w.heap.size a m cap j T _ hj).mono ?_
  rintro e w3 ⟨⟨y, rfl, y0, y1⟩, hon⟩
  have hbel : Hid (Below w.heap.size w w3) := by
    have e1 := hk2.below (B := w.heap.size) (by omega) (fun k hk => by omega)
    have e2 := hon.2.below (B := w.heap.size) (by have := hk2.size; omega) (fun k hk => by omega)
    exact hb1.trans (e1.trans e2)
  have hM3 : Hid (Made w3 (.slice a2 k c2) k) := by
    refine ⟨a2, c2, Q, rfl, q1, q2, q3, q4.imp id (fun ⟨g, e, ht⟩ => ⟨g, e, fun i hi => ?_⟩)⟩
    have hc := ht i hi
    by_cases hg : g = w.heap.size
    · subst hg
      have h0 : ¬ (0 + i = 0) := fun h => by
        rw [h, hj.c0] at hc; cases hc
      have h1 : ¬ (0 + i = 1) := fun h => by
        rw [h, hj.c1] at hc; cases hc
      have hi1 := ht 0 (by omega)
      rw [hj.c0] at hi1; cases hi1
    · exact (hon.2.cell (p := ⟨g, 0 + i, none⟩) (lt_of_cell hc) hg).trans hc
  clear hk2 hon hb1 hr hj q4 q4' hlt
  have hrem : ((k : Int) + 3 == 0) = false := by rw [beq_eq_false_iff_ne]; omega
  go_wp2
  go_quiet (fail)
  go_wp2
  go_ret2
  exact ⟨⟨_, _, k, rfl, hM3.out⟩, below_drewN hbel.out _⟩

end Go.Proofs.Ytkhnaogchkakpaa
