import Derived.Test.YteoddjobpmmgeaaGreatT51
set_option linter.unusedVariables false
set_option linter.unusedSimpArgs false
namespace Go.Proofs.YteoddjobpmmgeaaGreat
section
open Go.RowKit
open M (OpD NodeD Gr)
def heI (w : World) (n : Nat) (f : Nat → Int) (kv i : Value) (wr : World) : Prop :=
  ∃ m : Nat, m ≤ n ∧ kv = .int .i64 (f m) ∧ i = .int .i64 (m : Int) ∧ wr = w
def HeIs (k : Int) (w : World) (e : Ending) (w' : World) : Prop := e = .returned (.int .i64 k) ∧ w' = w
set_option maxHeartbeats 1000000 in
theorem heldInts (Q : Nat → Prop) (a : Option Addr) (n c : Nat) (S : Nat → Int) (k : Int) (w : World) (hS : Ints Q .i64 w a n S) (hk : ∀ i, i < n → S i = k + i) (hn : n ≤ 1048576) (h0 : 0 ≤ k) (h1 : k ≤ 4611686018427387904 + 1099513724928) :
    Calls Tryz.prog 73 #[.slice a n c, .int .i64 k] w (HeIs (k + n) w) := by
  have HS : Hid (Ints Q .i64 w a n S) := hS
  have HK : Hid (∀ i : Nat, i < n → S i = k + i) := hk
  clear hS hk
  go_enter Tryz.func73, Tryz.ntmps73
  go_wp2
  go_loopw [1, 5] (fun kv i wr => heI w n (fun m => k + m) kv i wr) (fun kv i _ => n - (intOf i).toNat)
  case atStart => exact ⟨0, Nat.zero_le _, by simp, rfl, rfl⟩
  case round =>
    obtain ⟨m, hm, rfl, rfl, hw⟩ := hrel
    subst wr
    by_cases hlt : m < n
    · have hS' := HS.out
      rcases hS' with h0 | ⟨b, off, rfl, hq, hS'⟩
      · omega
      have hc := hS' m hlt
      rw [HK.out m hlt] at hc
      clear hS'
      go_wp2
      go_roundw
      case rel => exact ⟨m + 1, by omega, by congr 1; show _ = k + ((m + 1 : Nat) : Int); omega, by go_num, rfl⟩
      case measure => simp [intOf]; omega
    · obtain rfl : m = n := by omega
      go_wp2
      go_ret
      exact ⟨rfl, rfl⟩
set_option maxHeartbeats 1000000 in
theorem heldBytes (Q : Nat → Prop) (a : Option Addr) (n c : Nat) (S : Nat → Int) (k : Int) (w : World) (hS : Ints Q .u8 w a n S) (hk : ∀ i, i < n → S i = IntKind.u8.wrap (k + i)) (hn : n ≤ 1048576) (h0 : 0 ≤ k) (h1 : k ≤ 4611686018427387904) :
    Calls Tryz.prog 49 #[.slice a n c, .int .i64 k] w (HeIs (k + n) w) := by
  have HS : Hid (Ints Q .u8 w a n S) := hS
  have HK : Hid (∀ i : Nat, i < n → S i = IntKind.u8.wrap (k + i)) := hk
  clear hS hk
  go_enter Tryz.func49, Tryz.ntmps49
  go_wp2
  go_loopw [1, 5] (fun kv i wr => heI w n (fun m => k + m) kv i wr) (fun kv i _ => n - (intOf i).toNat)
  case atStart => exact ⟨0, Nat.zero_le _, by simp, rfl, rfl⟩
  case round =>
    obtain ⟨m, hm, rfl, rfl, hw⟩ := hrel
    subst wr
    by_cases hlt : m < n
    · have hS' := HS.out
      rcases hS' with h0 | ⟨b, off, rfl, hq, hS'⟩
      · omega
      have hc := hS' m hlt
      rw [HK.out m hlt] at hc
      obtain ⟨v8, e8⟩ : ∃ v8, IntKind.u8.wrap (k + m) = v8 := ⟨_, rfl⟩
      rw [e8] at hc
      clear hS'
      go_wp2
      go_roundw
      case rel => exact ⟨m + 1, by omega, by congr 1; show _ = k + ((m + 1 : Nat) : Int); omega, by go_num, rfl⟩
      case measure => simp [intOf]; omega
    · obtain rfl : m = n := by omega
      go_wp2
      go_ret
      exact ⟨rfl, rfl⟩
set_option maxHeartbeats 1000000 in
theorem heldOps (Q : Nat → Prop) (a : Option Addr) (n c : Nat) (D : List OpD) (k : Int) (w : World) (hB : OpsA Q w a n (df (mapK cntO mkdO k D))) (hn : n = D.length) (hs : SmD D) (h0 : 0 ≤ k) (h1 : k ≤ 4611686018427387904) :
    Calls Tryz.prog 50 #[.slice a n c, .int .i64 k] w (HeIs (k + cntK cntO D) w) := by
  have HB : Hid (OpsA Q w a n (df (mapK cntO mkdO k D))) := hB
  have HC : Hid (∀ m, cntK cntO (D.take m) ≤ m * 1048578) := cntK_take cntO D _ (fun x hx => by have := hs.2 x hx; unfold cntO; omega)
  have HS : Hid (SmD D) := hs
  have HN : Hid (n = D.length) := hn
  have hnl : n ≤ 1000000 := by have := hs.1; omega
  clear hB hs hn
  go_enter Tryz.func50, Tryz.ntmps50
  go_wp2
  go_loopw [1, 5] (fun kv i wr => heI w n (fun m => k + cntK cntO (D.take m)) kv i wr) (fun kv i _ => n - (intOf i).toNat)
  case atStart => exact ⟨0, Nat.zero_le _, by simp [cntK], rfl, rfl⟩
  case round =>
    obtain ⟨m, hm, hkv, rfl, hw⟩ := hrel
    dsimp only at hkv
    subst hkv
    subst wr
    by_cases hlt : m < n
    · have hB' := HB.out
      rcases hB' with h0 | ⟨b, off, rfl, hq, hB'⟩
      · omega
      obtain ⟨d, hd⟩ : ∃ d, D[m]? = some d := ⟨_, List.getElem?_eq_getElem (by have := HN.out; omega)⟩
      have hop := hB' m hlt
      rw [df_at (mapK_get hd)] at hop
      obtain ⟨c0, ⟨sa, sc, c1, hs1⟩, c2⟩ := hop
      have hsl := HS.out.2 d (List.mem_of_getElem? hd)
      have hcm := HC.out m
      have hlt' : (m : Int) < (n : Int) := by omega
      have d0 : w.cell? ⟨b, off + m * 3, none⟩ = some (.int .i64 (k + cntK cntO (D.take m))) := c0
      have d1 : w.cell? ⟨b, off + m * 3 + 1, none⟩ = some (.slice sa d.sl sc) := c1
      have d2 : w.cell? ⟨b, off + m * 3 + 2, none⟩ = some (.int .i64 (k + cntK cntO (D.take m) + 1 + d.sl)) := c2
      have HI : Hid (Ints Q .i64 w sa d.sl (fun i => k + cntK cntO (D.take m) + 1 + i)) := hs1
      have HST : Hid (k + (cntK cntO (D.take m) : Int) + 1 + (d.sl : Int) + 1 = k + (cntK cntO (D.take (m + 1)) : Int)) := by
        show _ = _
        rw [cntK_step hd]
        unfold cntO
        omega
      have rb0 : 0 ≤ k + (cntK cntO (D.take m) : Int) + 1 := by omega
      have rb1 : k + (cntK cntO (D.take m) : Int) + 1 ≤ 4611686018427387904 + 1099513724928 := by omega
      have nneg : ¬ (k + (cntK cntO (D.take m) : Int) + 1 + (d.sl : Int) < 0) := by omega
      clear hB' hs1 c0 c1 c2 hd
      generalize (cntK cntO (D.take m) : Int) = q at *
      have HC1 : Hid (Calls Tryz.prog 73 #[.slice sa d.sl sc, .int .i64 (k + q + 1)] w (HeIs (k + q + 1 + d.sl) w)) := heldInts Q sa d.sl sc (fun i => k + q + 1 + i) (k + q + 1) w HI.out (fun i _ => rfl) hsl rb0 rb1
      clear HI
      go_wp2_with fail
      refine HC1.out.mono ?_
      rintro e W ⟨rfl, hW⟩
      subst W
      go_wp2
      go_roundw
      case rel => exact ⟨m + 1, by omega, by show _ = Value.int .i64 (k + (cntK cntO (D.take (m + 1)) : Int)); rw [← HST.out], by go_num, rfl⟩
      case measure => simp [intOf]; omega
    · have hmn : m = D.length := by have := HN.out; omega
      have HFI : Hid (HeIs (k + cntK cntO D) w (.returned (.int .i64 (k + cntK cntO (D.take m)))) w) := by
        rw [hmn, List.take_of_length_le (Nat.le_refl _)]
        exact ⟨rfl, rfl⟩
      have hge : ¬ ((m : Int) < (n : Int)) := by omega
      clear hmn
      go_wp2
      go_ret
      exact HFI.out
theorem lf_bytK {k : Int} {n i : Nat} (h : i < n) : lf (bytK k n) i = IntKind.u8.wrap (k + i) := by
  unfold bytK lf
  rw [List.getD_eq_getElem?_getD, List.getElem?_map, List.getElem?_range h]
  rfl
set_option maxHeartbeats 1000000 in
theorem heldRules (Q : Nat → Prop) (a : Option Addr) (n c : Nat) (l : List NL) (k : Int) (w : World) (hR : RulesA Q w a n (fun i => node ((mapK cntR mkR k l).getD i default))) (hn : n = l.length) (hl : l.length ≤ 1048576) (hs : ∀ x ∈ l, SmNL x) (h0 : 0 ≤ k) (h1 : k ≤ 4) :
    Calls Tryz.prog 28 #[.slice a n c, .int .i64 k] w (HeIs (k + cntK cntR l) w) := by
  have HR : Hid (RulesA Q w a n (fun i => node ((mapK cntR mkR k l).getD i default))) := hR
  have HC : Hid (∀ m, cntK cntR (l.take m) ≤ m * 1048579048576) := cntK_take cntR l _ (fun x hx => (hs x hx).cntR)
  have HS : Hid (∀ x ∈ l, SmNL x) := hs
  have HN : Hid (n = l.length) := hn
  have hnl : n ≤ 1048576 := by omega
  clear hR hs hn hl
  go_enter Tryz.func28, Tryz.ntmps28
  go_wp2
  go_loopw [1, 5] (fun kv i wr => heI w n (fun m => k + cntK cntR (l.take m)) kv i wr) (fun kv i _ => n - (intOf i).toNat)
  case atStart => exact ⟨0, Nat.zero_le _, by simp [cntK], rfl, rfl⟩
  case round =>
    obtain ⟨m, hm, hkv, rfl, hw⟩ := hrel
    dsimp only at hkv
    subst hkv
    subst wr
    by_cases hlt : m < n
    · have hR' := HR.out
      rcases hR' with h0 | ⟨b, off, rfl, hq, hR'⟩
      · omega
      obtain ⟨x, hx⟩ : ∃ x, l[m]? = some x := ⟨_, List.getElem?_eq_getElem (by have := HN.out; omega)⟩
      have hop : RuleC Q w b (off + m * 2) (node ((mapK cntR mkR k l).getD m default)) := hR' m hlt
      rw [List.getD_eq_getElem?_getD, mapK_get hx] at hop
      obtain ⟨⟨na, nc, c0, hs1⟩, ⟨ba, bc, c1, hs2⟩⟩ := hop
      have HSX : Hid (SmNL x) := HS.out x (List.mem_of_getElem? hx)
      have hnm := HSX.out.1
      have hbd := HSX.out.2.2.cnt
      have hcm := HC.out m
      have hlt' : (m : Int) < (n : Int) := by omega
      have e1 : (bytK (k + cntK cntR (l.take m)) x.nm.length).length = x.nm.length := bytK_len _ _
      have e2 : (mapK cntO mkdO (k + cntK cntR (l.take m) + x.nm.length) x.bd).length = x.bd.length := mapK_len _ _ _ _
      have d0 : w.cell? ⟨b, off + m * 2, none⟩ = some (.slice na x.nm.length nc) := by
        have h : w.cell? ⟨b, off + m * 2, none⟩ = some (.slice na (bytK (k + cntK cntR (l.take m)) x.nm.length).length nc) := c0
        rw [e1] at h
        exact h
      have d1 : w.cell? ⟨b, off + m * 2 + 1, none⟩ = some (.slice ba x.bd.length bc) := by
        have h : w.cell? ⟨b, off + m * 2 + 1, none⟩ = some (.slice ba (mapK cntO mkdO (k + cntK cntR (l.take m) + x.nm.length) x.bd).length bc) := c1
        rw [e2] at h
        exact h
      have HI : Hid (Ints Q .u8 w na x.nm.length (lf (bytK (k + cntK cntR (l.take m)) x.nm.length))) := by
        have h : Ints Q .u8 w na (bytK (k + cntK cntR (l.take m)) x.nm.length).length (lf (bytK (k + cntK cntR (l.take m)) x.nm.length)) := hs1
        rw [e1] at h
        exact h
      have HO : Hid (OpsA Q w ba x.bd.length (df (mapK cntO mkdO (k + cntK cntR (l.take m) + x.nm.length) x.bd))) := by
        have h : OpsA Q w ba (mapK cntO mkdO (k + cntK cntR (l.take m) + x.nm.length) x.bd).length (df (mapK cntO mkdO (k + cntK cntR (l.take m) + x.nm.length) x.bd)) := hs2
        rw [e2] at h
        exact h
      have HST : Hid (k + (cntK cntR (l.take m) : Int) + (x.nm.length : Int) + (cntK cntO x.bd : Int) = k + (cntK cntR (l.take (m + 1)) : Int)) := by
        show _ = _
        rw [cntK_step hx]
        unfold cntR
        omega
      have rb0 : 0 ≤ k + (cntK cntR (l.take m) : Int) := by omega
      have rb1 : k + (cntK cntR (l.take m) : Int) ≤ 4611686018427387904 := by omega
      have rb2 : 0 ≤ k + (cntK cntR (l.take m) : Int) + (x.nm.length : Int) := by omega
      have rb3 : k + (cntK cntR (l.take m) : Int) + (x.nm.length : Int) ≤ 4611686018427387904 := by omega
      have n1 : ¬ (k + (cntK cntR (l.take m) : Int) + (x.nm.length : Int) < 0) := by omega
      have n2 : ¬ (k + (cntK cntR (l.take m) : Int) + (x.nm.length : Int) + (cntK cntO x.bd : Int) < 0) := by omega
      have HC1 : Hid (Calls Tryz.prog 49 #[.slice na x.nm.length nc, .int .i64 (k + (cntK cntR (l.take m) : Int))] w (HeIs (k + (cntK cntR (l.take m) : Int) + x.nm.length) w)) := heldBytes Q na x.nm.length nc _ _ w HI.out (fun i hi => lf_bytK hi) hnm rb0 rb1
      have HC2 : Hid (Calls Tryz.prog 50 #[.slice ba x.bd.length bc, .int .i64 (k + (cntK cntR (l.take m) : Int) + (x.nm.length : Int))] w (HeIs (k + (cntK cntR (l.take m) : Int) + (x.nm.length : Int) + cntK cntO x.bd) w)) := heldOps Q ba x.bd.length bc x.bd _ w HO.out rfl HSX.out.2.2 rb2 rb3
      clear hR' hs1 hs2 c0 c1 e1 e2 hx HI HO hcm hbd
      generalize (cntK cntR (l.take m) : Int) = q at *
      generalize x.nm.length = nn at *
      generalize x.bd.length = bb at *
      go_wp2_with fail
      refine HC1.out.mono ?_
      rintro e W ⟨rfl, hW⟩
      subst W
      go_wp2_with fail
      refine HC2.out.mono ?_
      rintro e W ⟨rfl, hW⟩
      subst W
      go_wp2
      go_roundw
      case rel => exact ⟨m + 1, by omega, by show _ = Value.int .i64 (k + (cntK cntR (l.take (m + 1)) : Int)); rw [← HST.out], by go_num, rfl⟩
      case measure => simp [intOf]; omega
    · have hmn : m = l.length := by have := HN.out; omega
      have HFI : Hid (HeIs (k + cntK cntR l) w (.returned (.int .i64 (k + cntK cntR (l.take m)))) w) := by
        rw [hmn, List.take_of_length_le (Nat.le_refl _)]
        exact ⟨rfl, rfl⟩
      have hge : ¬ ((m : Int) < (n : Int)) := by omega
      clear hmn
      go_wp2
      go_ret
      exact HFI.out
set_option maxHeartbeats 1000000 in
theorem heldLabels (Q : Nat → Prop) (a : Option Addr) (n c : Nat) (l : List NL) (k : Int) (w : World) (hR : LabsA Q w a n (fun i => node ((mapK cntB mkB k l).getD i default))) (hn : n = l.length) (hl : l.length ≤ 1048576) (hs : ∀ x ∈ l, SmNL x) (h0 : 0 ≤ k) (h1 : k ≤ 1152921504606846976) :
    Calls Tryz.prog 29 #[.slice a n c, .int .i64 k] w (HeIs (k + cntK cntB l) w) := by
  have HR : Hid (LabsA Q w a n (fun i => node ((mapK cntB mkB k l).getD i default))) := hR
  have HC : Hid (∀ m, cntK cntB (l.take m) ≤ m * 1048579048577) := cntK_take cntB l _ (fun x hx => (hs x hx).cntB)
  have HS : Hid (∀ x ∈ l, SmNL x) := hs
  have HN : Hid (n = l.length) := hn
  have hnl : n ≤ 1048576 := by omega
  clear hR hs hn hl
  go_enter Tryz.func29, Tryz.ntmps29
  go_wp2
  go_loopw [1, 5] (fun kv i wr => heI w n (fun m => k + cntK cntB (l.take m)) kv i wr) (fun kv i _ => n - (intOf i).toNat)
  case atStart => exact ⟨0, Nat.zero_le _, by simp [cntK], rfl, rfl⟩
  case round =>
    obtain ⟨m, hm, hkv, rfl, hw⟩ := hrel
    dsimp only at hkv
    subst hkv
    subst wr
    by_cases hlt : m < n
    · have hR' := HR.out
      rcases hR' with h0 | ⟨b, off, rfl, hq, hR'⟩
      · omega
      obtain ⟨x, hx⟩ : ∃ x, l[m]? = some x := ⟨_, List.getElem?_eq_getElem (by have := HN.out; omega)⟩
      have hop : LabC Q w b (off + m * 3) (node ((mapK cntB mkB k l).getD m default)) := hR' m hlt
      rw [List.getD_eq_getElem?_getD, mapK_get hx] at hop
      obtain ⟨⟨na, nc, c0, hs1⟩, ch, ⟨ba, bc, c1, hs2⟩⟩ := hop
      have HSX : Hid (SmNL x) := HS.out x (List.mem_of_getElem? hx)
      have hnm := HSX.out.1
      have hbd := HSX.out.2.2.cnt
      have hcm := HC.out m
      have hlt' : (m : Int) < (n : Int) := by omega
      have e1 : (bytK (k + cntK cntB (l.take m)) x.nm.length).length = x.nm.length := bytK_len _ _
      have e2 : (mapK cntO mkdO (k + cntK cntB (l.take m) + x.nm.length + 1) x.bd).length = x.bd.length := mapK_len _ _ _ _
      have d0 : w.cell? ⟨b, off + m * 3, none⟩ = some (.slice na x.nm.length nc) := by
        have h : w.cell? ⟨b, off + m * 3, none⟩ = some (.slice na (bytK (k + cntK cntB (l.take m)) x.nm.length).length nc) := c0
        rw [e1] at h
        exact h
      have dh : w.cell? ⟨b, off + m * 3 + 1, none⟩ = some (.bool ((k + (cntK cntB (l.take m) : Int) + (x.nm.length : Int)) % 3 == 0)) := ch
      have d1 : w.cell? ⟨b, off + m * 3 + 2, none⟩ = some (.slice ba x.bd.length bc) := by
        have h : w.cell? ⟨b, off + m * 3 + 2, none⟩ = some (.slice ba (mapK cntO mkdO (k + cntK cntB (l.take m) + x.nm.length + 1) x.bd).length bc) := c1
        rw [e2] at h
        exact h
      have HI : Hid (Ints Q .u8 w na x.nm.length (lf (bytK (k + cntK cntB (l.take m)) x.nm.length))) := by
        have h : Ints Q .u8 w na (bytK (k + cntK cntB (l.take m)) x.nm.length).length (lf (bytK (k + cntK cntB (l.take m)) x.nm.length)) := hs1
        rw [e1] at h
        exact h
      have HO : Hid (OpsA Q w ba x.bd.length (df (mapK cntO mkdO (k + cntK cntB (l.take m) + x.nm.length + 1) x.bd))) := by
        have h : OpsA Q w ba (mapK cntO mkdO (k + cntK cntB (l.take m) + x.nm.length + 1) x.bd).length (df (mapK cntO mkdO (k + cntK cntB (l.take m) + x.nm.length + 1) x.bd)) := hs2
        rw [e2] at h
        exact h
      have HST : Hid (k + (cntK cntB (l.take m) : Int) + (x.nm.length : Int) + 1 + (cntK cntO x.bd : Int) = k + (cntK cntB (l.take (m + 1)) : Int)) := by
        show _ = _
        rw [cntK_step hx]
        unfold cntB
        omega
      have rb0 : 0 ≤ k + (cntK cntB (l.take m) : Int) := by omega
      have rb1 : k + (cntK cntB (l.take m) : Int) ≤ 4611686018427387904 := by omega
      have rb2 : 0 ≤ k + (cntK cntB (l.take m) : Int) + (x.nm.length : Int) + 1 := by omega
      have rb3 : k + (cntK cntB (l.take m) : Int) + (x.nm.length : Int) + 1 ≤ 4611686018427387904 := by omega
      have n1 : ¬ (k + (cntK cntB (l.take m) : Int) + (x.nm.length : Int) < 0) := by omega
      have n2 : ¬ (k + (cntK cntB (l.take m) : Int) + (x.nm.length : Int) + 1 + (cntK cntO x.bd : Int) < 0) := by omega
      have HC1 : Hid (Calls Tryz.prog 49 #[.slice na x.nm.length nc, .int .i64 (k + (cntK cntB (l.take m) : Int))] w (HeIs (k + (cntK cntB (l.take m) : Int) + x.nm.length) w)) := heldBytes Q na x.nm.length nc _ _ w HI.out (fun i hi => lf_bytK hi) hnm rb0 rb1
      have HC2 : Hid (Calls Tryz.prog 50 #[.slice ba x.bd.length bc, .int .i64 (k + (cntK cntB (l.take m) : Int) + (x.nm.length : Int) + 1)] w (HeIs (k + (cntK cntB (l.take m) : Int) + (x.nm.length : Int) + 1 + cntK cntO x.bd) w)) := heldOps Q ba x.bd.length bc x.bd _ w HO.out rfl HSX.out.2.2 rb2 rb3
      clear hR' hs1 hs2 c0 c1 e1 e2 hx HI HO hcm hbd ch
      generalize (cntK cntB (l.take m) : Int) = q at *
      generalize x.nm.length = nn at *
      generalize x.bd.length = bb at *
      go_wp2_with fail
      refine HC1.out.mono ?_
      rintro e W ⟨rfl, hW⟩
      subst W
      go_wp2_with fail
      refine HC2.out.mono ?_
      rintro e W ⟨rfl, hW⟩
      subst W
      go_wp2
      go_roundw
      case rel => exact ⟨m + 1, by omega, by show _ = Value.int .i64 (k + (cntK cntB (l.take (m + 1)) : Int)); rw [← HST.out], by go_num, rfl⟩
      case measure => simp [intOf]; omega
    · have hmn : m = l.length := by have := HN.out; omega
      have HFI : Hid (HeIs (k + cntK cntB l) w (.returned (.int .i64 (k + cntK cntB (l.take m)))) w) := by
        rw [hmn, List.take_of_length_le (Nat.le_refl _)]
        exact ⟨rfl, rfl⟩
      have hge : ¬ ((m : Int) < (n : Int)) := by omega
      clear hmn
      go_wp2
      go_ret
      exact HFI.out
end
section
open Go.RowKit
open M (OpD NodeD Gr)
theorem made_bytes (w : World) (n : Nat) : OwnC (fun b => b = w.heap.size) (w.alloc (.cells (madeCells #[.int .u8 0] n) 5)) (.slice (some ⟨w.heap.size, 0, none⟩) n n) 1 n (intVs .u8 (fun _ => 0) n) := by
  have hb := World.alloc_heap_new w (.cells (madeCells #[.int .u8 0] n) 5)
  have hc : ∀ j, j < n → (madeCells #[.int .u8 0] n)[j]? = some (.int .u8 0) := fun j hj => by
    unfold madeCells
    rw [Array.getElem?_map, Array.getElem?_range, if_pos hj]
    simp [Nat.mod_one]
  refine .inr ⟨w.heap.size, n, rfl, rfl, by rw [intVs_len, Nat.mul_one], Nat.le_refl _, fun j hj => ?_, fun j hj => ⟨?_, ?_⟩⟩
  · rw [intVs_len] at hj
    simp only [World.cell?, hb]
    rw [intVs_get hj]
    exact hc j hj
  · simp only [World.cell?, hb]
    rw [hc j (by omega)]
    rfl
  · simp only [World.frozen?, hb]
    simp
def TbIs (T : Nat → Int) (n : Nat) (w : World) (e : Ending) (w' : World) : Prop :=
  e = .returned (.slice (some ⟨w.heap.size, 0, none⟩) n n) ∧ OwnC (fun b => b = w.heap.size) w' (.slice (some ⟨w.heap.size, 0, none⟩) n n) 1 n (intVs .u8 T n) ∧ Keep (fun _ => False) w w' ∧ w.heap.size < w'.heap.size
def tbI (T : Nat → Int) (n : Nat) (w : World) (i : Value) (wr : World) : Prop :=
  ∃ m : Nat, m ≤ n ∧ i = .int .i64 (m : Int) ∧ OwnC (fun b => b = w.heap.size) wr (.slice (some ⟨w.heap.size, 0, none⟩) n n) 1 n (intVs .u8 (mixI T (fun _ => 0) m) n) ∧ Keep (fun _ => False) w wr ∧ w.heap.size < wr.heap.size
set_option maxHeartbeats 1000000 in
theorem toBytes_own (Q : Nat → Prop) (a : Option Addr) (n c : Nat) (T : Nat → Int) (w : World) (hT : Ints Q .u8 w a n T) (hn : n ≤ 1048576) : Calls Tryz.prog 5 #[.slice a n c] w (TbIs T n w) := by
  have hmk := run_make_row' (P := Tryz.prog) 22 5 (.int .u8 0) 1 Tryz.underlying22 info5 rfl .i64 .i64 n (by omega) (by omega)
  have HT : Hid (Ints Q .u8 w a n T) := hT
  have HI : Hid (tbI T n w (.int .i64 0) (w.alloc (.cells (madeCells #[.int .u8 0] n) 5))) := ⟨0, Nat.zero_le _, rfl, by rw [mix_zero]; exact made_bytes w n, Keep.alloc _ _ _, by simp⟩
  clear hT
  go_enter Tryz.func5, Tryz.ntmps5
  go_wp2
  go_loopw [4] (tbI T n w) (fun i _ => n - (intOf i).toNat)
  case atStart => exact HI.out
  case round =>
    clear HI hmk
    obtain ⟨m, hm, rfl, hO, hK, hz⟩ := hrel
    by_cases hlt : m < n
    · obtain ⟨g, eg, hc, hfz, hO2, _⟩ := mki_step (w := wr) hlt hO (Keep.refl _ _)
      have eg : w.heap.size = g := by injection eg with eg; injection eg
      subst eg
      have hT' := HT.out
      rcases hT' with h0 | ⟨b, off, rfl, hq, hT'⟩
      · omega
      have hb : b < w.heap.size := lt_of_cell (hT' m hlt)
      have hs : wr.cell? ⟨b, off + m, none⟩ = some (.int .u8 (T m)) := (hK.cell (p := ⟨b, off + m, none⟩) hb (fun z => z)).trans (hT' m hlt)
      have HN : Hid (tbI T n w (.int .i64 ((m : Int) + 1)) (wr.setCell ⟨w.heap.size, m, none⟩ (.int .u8 (T m)))) := ⟨m + 1, hlt, by congr 1, hO2, ⟨hK.os, hK.tape, hK.output, by rw [size_set]; exact hK.size, fun x hx hcc => (Below.heap_setCell _ _ _ _ (by show x ≠ w.heap.size; omega)).trans (hK.block x hx hcc)⟩, by rw [size_set]; exact hz⟩
      have hlt' : (m : Int) < (n : Int) := by omega
      have lb : b < wr.heap.size := lt_of_cell hs
      clear hO hO2 hT' hK
      go_wp2
      go_roundw
      all_goals first
        | exact HN.out
        | (simp [intOf]; omega)
    · obtain rfl : m = n := by omega
      rw [mix_all] at hO
      have HFI : Hid (TbIs T m w (.returned (.slice (some ⟨w.heap.size, 0, none⟩) m m)) wr) := ⟨rfl, hO, hK, hz⟩
      clear hO hK
      go_wp2
      go_ret
      exact HFI.out
def HgIs (k : Int) (w : World) (e : Ending) (w' : World) : Prop := e = .returned (.int .i64 k) ∧ Keep (fun _ => False) w w'
set_option maxHeartbeats 1000000 in
theorem heldGram (Q : Nat → Prop) (ra la : Option Addr) (rc lc nr nb : Nat) (r c : List NL) (w : World) (h : GramA Q w ra la (gram (mapK cntR mkR 1 r) (mapK cntB mkB (1 + cntK cntR r) c))) (hnr : nr = r.length) (hnb : nb = c.length) (hl : r.length ≤ 1048576) (hl2 : c.length ≤ 1048576) (hs : ∀ x ∈ r, SmNL x) (hs2 : ∀ x ∈ c, SmNL x) :
    Calls Tryz.prog 11 #[.agg #[.slice ra nr rc, .slice la nb lc], .int .i64 1] w (HgIs (1 + cntK cntR r + cntK cntB c) w) := by
  have hct : cntK cntR r ≤ r.length * 1048579048576 := cntK_all cntR r _ (fun x hx => (hs x hx).cntR)
  have hct2 : cntK cntR r ≤ 1048576 * 1048579048576 := Nat.le_trans hct (Nat.mul_le_mul_right _ hl)
  have hct3 : cntK cntR r ≤ 1099514832199712768 := by omega
  have e1 : (gram (mapK cntR mkR 1 r) (mapK cntB mkB (1 + cntK cntR r) c)).nr = nr := by show (mapK cntR mkR 1 r).length = nr; rw [mapK_len, hnr]
  have e2 : (gram (mapK cntR mkR 1 r) (mapK cntB mkB (1 + cntK cntR r) c)).nb = nb := by show (mapK cntB mkB (1 + cntK cntR r) c).length = nb; rw [mapK_len, hnb]
  have hr := h.rules
  have hb := h.labs
  rw [e1] at hr
  rw [e2] at hb
  have HC1 : Hid (Calls Tryz.prog 28 #[.slice ra nr rc, .int .i64 1] (w.alloc (.cells #[.slice ra nr rc, .slice la nb lc] 26)) (HeIs (1 + cntK cntR r) (w.alloc (.cells #[.slice ra nr rc, .slice la nb lc] 26)))) := heldRules Q ra nr rc r 1 _ (hr.later (bel1 w _)) hnr hl hs (by omega) (by omega)
  have HC2 : Hid (Calls Tryz.prog 29 #[.slice la nb lc, .int .i64 (1 + cntK cntR r)] (w.alloc (.cells #[.slice ra nr rc, .slice la nb lc] 26)) (HeIs (1 + cntK cntR r + cntK cntB c) (w.alloc (.cells #[.slice ra nr rc, .slice la nb lc] 26)))) := heldLabels Q la nb lc c (1 + cntK cntR r) _ (hb.later (bel1 w _)) hnb hl2 hs2 (by omega) (by omega)
  have HFI : Hid (HgIs (1 + cntK cntR r + cntK cntB c) w (.returned (.int .i64 (1 + cntK cntR r + cntK cntB c))) (w.alloc (.cells #[.slice ra nr rc, .slice la nb lc] 26))) := ⟨rfl, Keep.alloc _ _ _⟩
  have n1 : ¬ ((1 : Int) + (cntK cntR r : Int) < 0) := by omega
  have n2 : ¬ ((1 : Int) + (cntK cntR r : Int) + (cntK cntB c : Int) < 0) := by omega
  clear h hr hb e1 e2 hnr hnb hl hl2 hs hs2 hct hct2 hct3
  generalize (cntK cntR r : Int) = q1 at *
  generalize (cntK cntB c : Int) = q2 at *
  go_enter Tryz.func11, Tryz.ntmps11
  go_wp2_with fail
  refine HC1.out.mono ?_
  rintro e W1 ⟨rfl, hW⟩
  subst W1
  go_wp2_with fail
  refine HC2.out.mono ?_
  rintro e W1 ⟨rfl, hW⟩
  subst W1
  go_wp2
  go_ret
  exact HFI.out
end
end Go.Proofs.YteoddjobpmmgeaaGreat
