import Derived.Test.YteoddjobpmmgeaaGreatT08
set_option linter.unusedVariables false
set_option linter.unusedSimpArgs false
namespace Go.Proofs.YteoddjobpmmgeaaGreat
section
open Go.RowKit
open M (OpD NodeD Gr)
def toksF (t : Tx) : Nat → Nat → List Tok
  | 0, _ => []
  | f + 1, i => if i < t.n then (if (nxtT t i).1.kind = 0 then [(nxtT t i).1] else (nxtT t i).1 :: toksF t f (skip t (nxtT t i).2)) else []
def toksT (t : Tx) : List Tok := toksF t (t.n + 1) (skip t 0)
theorem skp_ge (t : Tx) : ∀ f i, i ≤ skp t f i
  | 0, i => Nat.le_refl _
  | f + 1, i => by
    rw [skp]
    split
    · split
      · exact Nat.le_trans (Nat.le_succ i) (skp_ge t f (i + 1))
      · split
        · exact Nat.le_trans (eol_ge t _ i) (skp_ge t f _)
        · exact Nat.le_refl _
    · exact Nat.le_refl _
theorem skp_le (t : Tx) : ∀ f i, i ≤ t.n → skp t f i ≤ t.n
  | 0, i, h => h
  | f + 1, i, h => by
    rw [skp]
    split
    · split
      · exact skp_le t f (i + 1) (by omega)
      · split
        · exact skp_le t f _ (eol_le t _ i h)
        · exact h
    · exact h
theorem skip_ge (t : Tx) (i : Nat) : i ≤ skip t i := skp_ge t _ i
theorem skip_le (t : Tx) {i : Nat} (h : i ≤ t.n) : skip t i ≤ t.n := skp_le t _ i h
theorem nameF_ge (t : Tx) : ∀ (f j : Nat) (z : List Int), j ≤ t.n → j ≤ (nameF t f j z).2 ∧ (nameF t f j z).2 ≤ t.n
  | 0, j, z, h => ⟨Nat.le_refl _, h⟩
  | f + 1, j, z, h => by
    rw [nameF]
    split
    · have := nameF_ge t f (j + 1) (z ++ [t.T j]) (by omega)
      omega
    · exact ⟨Nat.le_refl _, h⟩
theorem nxt_lt (t : Tx) {i : Nat} (hi : i < t.n) (hk : (nxtT t i).1.kind ≠ 0) : i < (nxtT t i).2 ∧ (nxtT t i).2 ≤ t.n := by
  unfold nxtT at hk ⊢
  split
  · rename_i hl
    have h1 : t.n - i = (t.n - i - 1) + 1 := by omega
    rw [h1, nameF, if_pos ⟨hi, .inl hl⟩]
    have := nameF_ge t (t.n - i - 1) (i + 1) ([] ++ [t.T i]) hi
    simp only at this ⊢
    omega
  · rename_i hl
    rw [if_neg hl] at hk
    split
    · rename_i h2
      rw [if_pos h2] at hk
      cases h : strT t i with
      | none => rw [h] at hk; exact absurd rfl hk
      | some q => have := strT_lt hi h; simp only; omega
    · rename_i h2
      rw [if_neg h2] at hk
      split
      · rename_i h3
        rw [if_pos h3] at hk
        cases h : clsT t i with
        | none => rw [h] at hk; exact absurd rfl hk
        | some q => have := clsT_lt hi h; simp only; omega
      · rename_i h3
        split
        · simp only; omega
        · simp only; omega
structure TC where
  k : Tok
  na : Option Addr
  nc : Nat
  sa : Option Addr
  sc : Nat
def tcv (x : TC) : List Value := [.int .u8 x.k.kind, .int .i64 x.k.at_, .slice x.na x.k.nm.length x.nc, .slice x.sa x.k.set.length x.sc]
theorem tcv_len (x : TC) : (tcv x).length = 4 := rfl
theorem info42 : (Tryz.prog.info? 42).map (fun i => (i.zero, i.size, i.bytes)) = some (some (.agg #[.int .u8 0, .int .i64 0, .slice none 0 0, .slice none 0 0]), 4, 64) := by kernel_rfl
theorem elem35 : ElemT 35 42 4 64 := ⟨Tryz.underlying35, ⟨_, info42, rfl⟩, by omega⟩
structure TokP (w0 wr : World) (v : Value) (l : List TC) (P : Nat → Prop) : Prop where
  own : OwnC P wr v 4 l.length (l.flatMap tcv)
  new : ∀ b, P b → New w0 wr b
  nm : ∀ x ∈ l, Ints (fun b => New w0 wr b ∧ ¬ P b) .u8 wr x.na x.k.nm.length (lf x.k.nm) ∧ Ints (fun b => New w0 wr b ∧ ¬ P b) .i64 wr x.sa x.k.set.length (lf x.k.set)
  keep : Keep (fun _ => False) w0 wr
def TokR (w0 wr : World) (v : Value) (l : List TC) : Prop := ∃ P, TokP w0 wr v l P
theorem TokR.nil {w0 wr : World} (h : Keep (fun _ => False) w0 wr) : TokR w0 wr (.slice none 0 0) [] :=
  ⟨fun _ => False, .inl ⟨rfl, rfl, rfl⟩, fun _ q => q.elim, (fun x hx => by cases hx), h⟩
theorem tokP_snoc {w0 wr W W1 W5 : World} {v v5 : Value} {l : List TC} {x : TC} {P : Nat → Prop} (h : TokP w0 wr v l P) (k1 : Keep (fun _ => False) wr W) (k2 : Keep (fun _ => False) W W1)
    (hn : Ints (New wr W) .u8 W x.na x.k.nm.length (lf x.k.nm)) (hs : Ints (New wr W) .i64 W x.sa x.k.set.length (lf x.k.set))
    (hown : OwnC (fun b => P b ∨ W1.heap.size ≤ b) W5 v5 4 (l.length + 1) (l.flatMap tcv ++ tcv x)) (hg : Grew P W1 W5) : TokR w0 W5 v5 (l ++ [x]) := by
  have z0 := h.keep.size
  have z1 := k1.size
  have z2 := k2.size
  have z3 := hg.size
  refine ⟨fun b => (P b ∨ W1.heap.size ≤ b) ∧ b < W5.heap.size, ?_, ?_, ?_, keep_new ((h.keep.trans k1).trans k2) hg (fun b q => (h.new b q).1)⟩
  · have e : (l ++ [x]).flatMap tcv = l.flatMap tcv ++ tcv x := by simp
    rw [e, List.length_append, List.length_singleton]
    rcases hown with ⟨_, q, _⟩ | ⟨b, cap, e, hq, h3, h4, h5, h6⟩
    · omega
    refine .inr ⟨b, cap, e, ⟨hq, ?_⟩, h3, h4, h5, h6⟩
    obtain ⟨u, hu⟩ := Option.isSome_iff_exists.1 (h6 0 (by omega)).1
    exact lt_of_cell hu
  · rintro b ⟨q | q, hlt⟩
    · exact ⟨(h.new b q).1, hlt⟩
    · exact ⟨by omega, hlt⟩
  · intro y hy
    rcases List.mem_append.1 hy with q | q
    · obtain ⟨a1, a2⟩ := h.nm y q
      have st : Stay (fun b => New w0 wr b ∧ ¬ P b) wr W5 := fun b hb => (hg.block b (by have := hb.1.2; omega) hb.2).trans ((k2.block b (by have := hb.1.2; omega) (fun e => e)).trans (k1.block b hb.1.2 (fun e => e)))
      have wd : ∀ b, (New w0 wr b ∧ ¬ P b) → New w0 W5 b ∧ ¬ ((P b ∨ W1.heap.size ≤ b) ∧ b < W5.heap.size) := fun b hb => ⟨⟨hb.1.1, by have := hb.1.2; omega⟩, fun r => r.1.elim hb.2 (fun r => by have := hb.1.2; omega)⟩
      exact ⟨(a1.on st).wide wd, (a2.on st).wide wd⟩
    · obtain rfl := List.mem_singleton.1 q
      have st : Stay (New wr W) W W5 := fun b hb => (hg.block b (by have := hb.2; omega) (fun r => by have := (h.new b r).2; have := hb.1; omega)).trans (k2.block b hb.2 (fun e => e))
      have wd : ∀ b, New wr W b → New w0 W5 b ∧ ¬ ((P b ∨ W1.heap.size ≤ b) ∧ b < W5.heap.size) := fun b hb => ⟨⟨by have := hb.1; omega, by have := hb.2; omega⟩, fun r => r.1.elim (fun r => by have := (h.new b r).2; have := hb.1; omega) (fun r => by have := hb.2; omega)⟩
      exact ⟨(hn.on st).wide wd, (hs.on st).wide wd⟩
theorem TokR.shape {w0 wr : World} {v : Value} {l : List TC} (h : TokR w0 wr v l) : ∃ a c, v = .slice a l.length c := by
  obtain ⟨P, h⟩ := h
  exact own_shape h.own
theorem src_tok (W : World) (x : TC) {ty : TypeId} : Src Tryz.prog 4 35 (.slice (some ⟨W.heap.size, 0, none⟩) 1 1) 1 (tcv x) (W.alloc (.cells #[.int .u8 x.k.kind, .int .i64 x.k.at_, .slice x.na x.k.nm.length x.nc, .slice x.sa x.k.set.length x.sc] ty)) :=
  src_cells Tryz.underlying35 rfl (fun j u hu => by
    have hb := World.alloc_heap_new W (.cells #[.int .u8 x.k.kind, .int .i64 x.k.at_, .slice x.na x.k.nm.length x.nc, .slice x.sa x.k.set.length x.sc] ty)
    simp only [World.cell?, hb]
    rw [← hu]
    simp [tcv]) (fun u hu => by
    simp only [tcv, List.mem_cons, List.not_mem_nil, or_false] at hu
    rcases hu with rfl | rfl | rfl | rfl <;> rfl)
def ToksIs (l : List Tok) (w : World) (e : Ending) (w' : World) : Prop := ∃ a c L, e = .returned (.slice a l.length c) ∧ L.map (·.k) = l ∧ TokR w w' (.slice a l.length c) L
set_option maxHeartbeats 400000 in
set_option maxRecDepth 100000 in
theorem l2tokens_any (Q : Nat → Prop) (t : Tx) (a : Option Addr) (c : Nat) (w : World) (hT : TxA Q w a t) :
    Calls Tryz.prog 12 #[.slice a t.n c] w (ToksIs (toksT t) w) := by
  have hle := t.le
  have HT : Hid (TxA Q w a t) := hT
  clear hT
  obtain ⟨R, hR⟩ : ∃ R, toksT t = R := ⟨_, rfl⟩
  rw [hR]
  have HR : Hid (toksF t (t.n + 1) (skip t 0) = R) := hR
  clear hR
  go_enter Tryz.func12, Tryz.ntmps12
  go_wp2_with fail
  refine (l2skip_any Q t a c 0 w HT.out (Nat.zero_le _)).mono ?_
  rintro e W ⟨rfl, hw⟩
  subst W
  have hsk := skip_le t (Nat.zero_le t.n)
  generalize skip t 0 = i0 at *
  go_wp2_with fail
  go_loopw [3, 4] (fun v u wr => ∃ (f i : Nat) (L : List TC), i ≤ t.n ∧ t.n - i < f ∧ L.length ≤ i ∧ u = .int .i64 i ∧ L.map (·.k) ++ toksF t f i = R ∧ TokR w wr v L) (fun _ u _ => t.n - (intOf u).toNat)
  case atStart => exact ⟨t.n + 1, i0, [], hsk, by omega, by simp, rfl, HR.out, TokR.nil (Keep.refl _ _)⟩
  case round =>
    obtain ⟨f, i, L, hi, hf, hL, rfl, he, hK⟩ := hrel
    obtain ⟨f, rfl⟩ : ∃ q, f = q + 1 := ⟨f - 1, by omega⟩
    obtain ⟨va, vc, rfl⟩ := hK.shape
    have HE : Hid (L.map (·.k) ++ toksF t (f + 1) i = R) := he
    have HK : Hid (TokR w wr (.slice va L.length vc) L) := hK
    have HTR : Hid (TxA Q wr a t) := by
      obtain ⟨P, h⟩ := hK
      exact HT.out.keep h.keep
    clear he hK
    by_cases hlt : i < t.n
    · have hlt' : (i : Int) < t.n := by omega
      have HNL : Hid ((nxtT t i).1.kind ≠ 0 → i < (nxtT t i).2 ∧ (nxtT t i).2 ≤ t.n) := nxt_lt t hlt
      have HE2 : Hid (L.map (·.k) ++ (if (nxtT t i).1.kind = 0 then [(nxtT t i).1] else (nxtT t i).1 :: toksF t f (skip t (nxtT t i).2)) = R) := by
        have := HE.out
        rw [toksF, if_pos hlt] at this
        exact this
      clear HE
      go_wp2_with fail
      refine (l2next_any Q t a c i wr HTR.out hlt).mono ?_
      generalize nxtT t i = r at *
      obtain ⟨⟨kk, ka, kn, ks⟩, j⟩ := r
      rintro e W ⟨na, nc, sa, sc, rfl, h1, h2, h3⟩
      simp only at h1 h2 HE2 HNL
      unfold tokV
      simp only
      have HTW : Hid (TxA Q W a t) := HTR.out.keep h3
      obtain ⟨P, hP⟩ := HK.out
      have HP : Hid (TokP w wr (.slice va L.length vc) L P) := hP
      have HSN : Hid (∀ W1 v5 W5, Keep (fun _ => False) W W1 → OwnC (fun b => P b ∨ W1.heap.size ≤ b) W5 v5 4 (L.length + 1) (L.flatMap tcv ++ tcv ⟨⟨kk, ka, kn, ks⟩, na, nc, sa, sc⟩) → Grew P W1 W5 → TokR w W5 v5 (L ++ [⟨⟨kk, ka, kn, ks⟩, na, nc, sa, sc⟩]) ∧ (∀ b, W.heap.size ≤ b → b < W1.heap.size → W5.heap[b]? = W1.heap[b]?)) := fun W1 v5 W5 k2 ho hg =>
        ⟨tokP_snoc (x := ⟨⟨kk, ka, kn, ks⟩, na, nc, sa, sc⟩) hP h3 k2 h1 h2 ho hg, fun b hb1 hb2 => hg.block b hb2 (fun q => by have := (hP.new b q).2; have := h3.size; omega)⟩
      have HOW : Hid (∀ W1, Keep (fun _ => False) W W1 → OwnC P W1 (.slice va L.length vc) 4 L.length (L.flatMap tcv)) := fun W1 k2 => hP.own.on (fun b hb => (k2.block b (by have := (hP.new b hb).2; have := h3.size; omega) (fun e => e)).trans (h3.block b (hP.new b hb).2 (fun e => e)))
      have HSR : Hid (∀ W1 : World, Src Tryz.prog 4 35 (.slice (some ⟨W1.heap.size, 0, none⟩) 1 1) 1 (tcv ⟨⟨kk, ka, kn, ks⟩, na, nc, sa, sc⟩) (W1.alloc (.cells #[.int .u8 kk, .int .i64 ka, .slice na kn.length nc, .slice sa ks.length sc] 42))) := fun W1 => src_tok W1 ⟨⟨kk, ka, kn, ks⟩, na, nc, sa, sc⟩
      have HK2 : Hid (Keep (fun _ => False) W ((W.alloc (.cells #[.int .u8 kk, .int .i64 ka, .slice na kn.length nc, .slice sa ks.length sc] 42)).alloc (.cells #[.int .u8 kk, .int .i64 ka, .slice na kn.length nc, .slice sa ks.length sc] 42))) := (Keep.alloc _ _ _).trans (Keep.alloc _ _ _)
      have HBK : Hid (((W.alloc (.cells #[.int .u8 kk, .int .i64 ka, .slice na kn.length nc, .slice sa ks.length sc] 42)).alloc (.cells #[.int .u8 kk, .int .i64 ka, .slice na kn.length nc, .slice sa ks.length sc] 42)).heap[W.heap.size]? = some (.cells #[.int .u8 kk, .int .i64 ka, .slice na kn.length nc, .slice sa ks.length sc] 42)) := blk_old (blk_new W _ _ rfl) _
      clear h1 h2 h3 hP HP HK HTR
      have HSR2 : Hid (Src Tryz.prog 4 35 (.slice (some ⟨W.heap.size + 1, 0, none⟩) 1 1) 1 (tcv ⟨⟨kk, ka, kn, ks⟩, na, nc, sa, sc⟩) ((W.alloc (.cells #[.int .u8 kk, .int .i64 ka, .slice na kn.length nc, .slice sa ks.length sc] 42)).alloc (.cells #[.int .u8 kk, .int .i64 ka, .slice na kn.length nc, .slice sa ks.length sc] 42))) := by
        have := HSR.out (W.alloc (.cells #[.int .u8 kk, .int .i64 ka, .slice na kn.length nc, .slice sa ks.length sc] 42))
        rwa [show (W.alloc (.cells #[.int .u8 kk, .int .i64 ka, .slice na kn.length nc, .slice sa ks.length sc] 42)).heap.size = W.heap.size + 1 by simp] at this
      have HOW2 := HOW.out _ HK2.out
      have hlen : L.length + 1 ≤ 16777216 := by omega
      by_cases hk0 : kk = 0
      · subst hk0
        have e := HE2.out
        rw [if_pos rfl] at e
        go_wp2_with (at_builtin; refine appE rfl _ _ 35 35 rfl rfl rfl elem35 (Q := P) (n := L.length) (cs := L.flatMap tcv) (m := 1) (news := tcv ⟨⟨0, ka, kn, ks⟩, na, nc, sa, sc⟩) HOW2 HSR2.out hlen ?_; intro v5 W5 hown hgrew hsz; obtain ⟨hR5, hB5⟩ := HSN.out _ _ _ HK2.out hown hgrew; have hb5 := (hB5 W.heap.size (Nat.le_refl _) (by simp; omega)).trans HBK.out; have c5 : W5.cell? ⟨W.heap.size, 0, none⟩ = some (.int .u8 0) := blk_cell hb5 rfl; have lt5 := lt_of_cell c5; obtain ⟨a5, c5', rfl⟩ := hR5.shape; have HR5 : Hid (TokR w W5 (.slice a5 (L ++ [(⟨⟨0, ka, kn, ks⟩, na, nc, sa, sc⟩ : TC)]).length c5') (L ++ [(⟨⟨0, ka, kn, ks⟩, na, nc, sa, sc⟩ : TC)])) := hR5; clear hown hgrew hsz hR5 hB5 hb5 HOW2)
        go_ret
        have hl : (L ++ [(⟨⟨0, ka, kn, ks⟩, na, nc, sa, sc⟩ : TC)]).length = R.length := by rw [← e]; simp
        have h5 := HR5.out
        rw [hl] at h5
        exact ⟨a5, c5', _, by rw [← hl, List.length_append]; rfl, by rw [List.map_append]; exact e, h5⟩
      · have hk0' : (kk == 0) = false := by simpa using hk0
        have e := HE2.out
        rw [if_neg hk0] at e
        obtain ⟨hj1, hj2⟩ := HNL.out hk0
        have HE3 : Hid (L.map (·.k) ++ (⟨kk, ka, kn, ks⟩ :: toksF t f (skip t j)) = R) := e
        have hs1 := skip_ge t j
        have hs2 := skip_le t hj2
        clear e HE2 HNL
        go_wp2_with (at_builtin; refine appE rfl _ _ 35 35 rfl rfl rfl elem35 (Q := P) (n := L.length) (cs := L.flatMap tcv) (m := 1) (news := tcv ⟨⟨kk, ka, kn, ks⟩, na, nc, sa, sc⟩) HOW2 HSR2.out hlen ?_; intro v5 W5 hown hgrew hsz; obtain ⟨hR5, hB5⟩ := HSN.out _ _ _ HK2.out hown hgrew; have hb5 := (hB5 W.heap.size (Nat.le_refl _) (by simp; omega)).trans HBK.out; have c5 : W5.cell? ⟨W.heap.size, 0, none⟩ = some (.int .u8 kk) := blk_cell hb5 rfl; have lt5 := lt_of_cell c5; obtain ⟨a5, c5', rfl⟩ := hR5.shape; have HR5 : Hid (TokR w W5 (.slice a5 (L ++ [(⟨⟨kk, ka, kn, ks⟩, na, nc, sa, sc⟩ : TC)]).length c5') (L ++ [(⟨⟨kk, ka, kn, ks⟩, na, nc, sa, sc⟩ : TC)])) := hR5; clear hown hgrew hsz hR5 hB5 hb5 HOW2)
        obtain ⟨P5, hP5⟩ := HR5.out
        have HT5 : Hid (TxA Q W5 a t) := HT.out.keep hP5.keep
        clear hP5
        refine (l2skip_any Q t a c j W5 HT5.out hj2).mono ?_
        rintro e W6 ⟨rfl, hw⟩
        subst W6
        generalize skip t j = j2 at *
        go_wp2
        go_roundw
        case rel => exact ⟨f, j2, L ++ [(⟨⟨kk, ka, kn, ks⟩, na, nc, sa, sc⟩ : TC)], hs2, by omega, by simp; omega, rfl, by rw [List.map_append, List.append_assoc]; exact HE3.out, by rw [List.length_append] at HR5; exact HR5.out⟩
        case measure => simp [intOf]; omega
    · have hlt' : ¬ (i : Int) < t.n := by omega
      go_wp2
      go_ret
      have e := HE.out
      rw [toksF, if_neg hlt, List.append_nil] at e
      have hl : L.length = R.length := by rw [← e]; simp
      rw [hl] at HK
      exact ⟨va, vc, L, by rw [hl]; rfl, e, HK.out⟩
end
section
open Go.RowKit
open M (OpD NodeD Gr)
def moveM (s d : Nat) (k : Int) : Nat × Nat :=
  if s = 0 then (if k = 94 then (1, 0) else if k = 110 then (2, 0) else (7, 0))
  else if s = 1 then (if k = 110 then (2, 0) else (7, 0))
  else if s = 2 then (if k = 61 then (3, 0) else (7, 0))
  else if s = 5 then (if k = 110 then (6, d) else (7, 0))
  else if k = 33 ∨ k = 38 then (4, d)
  else if k = 110 ∨ k = 34 ∨ k = 91 ∨ k = 46 then (6, d)
  else if k = 94 then (5, d)
  else if k = 40 then (3, d + 1)
  else if s = 4 then (7, 0)
  else if s = 6 ∧ (k = 42 ∨ k = 63) then (3, d)
  else if k = 47 then (3, d)
  else if k = 41 ∧ 0 < d then (6, d - 1)
  else if k = 59 ∧ d = 0 then (0, 0)
  else (7, 0)
def RetII' (r : Nat × Nat) (w : World) (e : Ending) (w' : World) : Prop := e = .returned (.tuple #[.int .i64 r.1, .int .i64 r.2]) ∧ w' = w
theorem retII' {r : Nat × Nat} {x y : Nat} {w : World} (h : r = (x, y)) : RetII' r w (.returned (.tuple #[.int .i64 x, .int .i64 y])) w := by subst h; exact ⟨rfl, rfl⟩
set_option maxHeartbeats 4000000 in
set_option maxRecDepth 100000 in
theorem l2move_low (s d : Nat) (k : Int) (w : World) (hs : s = 0 ∨ s = 1 ∨ s = 2 ∨ s = 5) (hd : d ≤ 1048576) :
    Calls Tryz.prog 32 #[.int .i64 s, .int .i64 d, .int .u8 k] w (RetII' (moveM s d k) w) := by
  rcases (show k = 94 ∨ k = 110 ∨ k = 61 ∨ (¬ k = 94 ∧ ¬ k = 110 ∧ ¬ k = 61) by omega) with rfl | rfl | rfl | ⟨h1, h2, h3⟩
  · rcases hs with rfl | rfl | rfl | rfl
    all_goals (
      go_enter Tryz.func32, Tryz.ntmps32
      go_wp2
      go_ret2
      exact retII' rfl)
  · rcases hs with rfl | rfl | rfl | rfl
    all_goals (
      go_enter Tryz.func32, Tryz.ntmps32
      go_wp2
      go_ret2
      exact retII' rfl)
  · rcases hs with rfl | rfl | rfl | rfl
    all_goals (
      go_enter Tryz.func32, Tryz.ntmps32
      go_wp2
      go_ret2
      exact retII' rfl)
  · have e1 : (k == 94) = false := by simpa using h1
    have e2 : (k == 110) = false := by simpa using h2
    have e3 : (k == 61) = false := by simpa using h3
    rcases hs with rfl | rfl | rfl | rfl
    all_goals (
      go_enter Tryz.func32, Tryz.ntmps32
      go_wp2
      go_ret2
      exact retII' (x := 7) (y := 0) (by simp [moveM, h1, h2, h3]))
set_option maxHeartbeats 8000000 in
set_option maxRecDepth 100000 in
theorem l2move_high (s d : Nat) (k : Int) (w : World) (hs : s = 3 ∨ s = 4 ∨ s = 6) (hd : d ≤ 1048576) :
    Calls Tryz.prog 32 #[.int .i64 s, .int .i64 d, .int .u8 k] w (RetII' (moveM s d k) w) := by
  rcases (show k = 33 ∨ k = 38 ∨ k = 110 ∨ k = 34 ∨ k = 91 ∨ k = 46 ∨ k = 94 ∨ k = 40 ∨ k = 42 ∨ k = 63 ∨ k = 47 ∨ (¬ k = 33 ∧ ¬ k = 38 ∧ ¬ k = 110 ∧ ¬ k = 34 ∧ ¬ k = 91 ∧ ¬ k = 46 ∧ ¬ k = 94 ∧ ¬ k = 40 ∧ ¬ k = 42 ∧ ¬ k = 63 ∧ ¬ k = 47) by omega) with rfl | rfl | rfl | rfl | rfl | rfl | rfl | rfl | rfl | rfl | rfl | ⟨h1, h2, h3, h4, h5, h6, h7, h8, h9, h10, h11⟩
  · rcases hs with rfl | rfl | rfl
    all_goals (
      go_enter Tryz.func32, Tryz.ntmps32
      go_wp2
      go_ret2
      exact retII' rfl)
  · rcases hs with rfl | rfl | rfl
    all_goals (
      go_enter Tryz.func32, Tryz.ntmps32
      go_wp2
      go_ret2
      exact retII' rfl)
  · rcases hs with rfl | rfl | rfl
    all_goals (
      go_enter Tryz.func32, Tryz.ntmps32
      go_wp2
      go_ret2
      exact retII' rfl)
  · rcases hs with rfl | rfl | rfl
    all_goals (
      go_enter Tryz.func32, Tryz.ntmps32
      go_wp2
      go_ret2
      exact retII' rfl)
  · rcases hs with rfl | rfl | rfl
    all_goals (
      go_enter Tryz.func32, Tryz.ntmps32
      go_wp2
      go_ret2
      exact retII' rfl)
  · rcases hs with rfl | rfl | rfl
    all_goals (
      go_enter Tryz.func32, Tryz.ntmps32
      go_wp2
      go_ret2
      exact retII' rfl)
  · rcases hs with rfl | rfl | rfl
    all_goals (
      go_enter Tryz.func32, Tryz.ntmps32
      go_wp2
      go_ret2
      exact retII' rfl)
  · rcases hs with rfl | rfl | rfl
    all_goals (
      go_enter Tryz.func32, Tryz.ntmps32
      go_wp2
      go_ret2
      exact retII' rfl)
  · rcases hs with rfl | rfl | rfl
    all_goals (
      go_enter Tryz.func32, Tryz.ntmps32
      go_wp2
      go_ret2
      exact retII' rfl)
  · rcases hs with rfl | rfl | rfl
    all_goals (
      go_enter Tryz.func32, Tryz.ntmps32
      go_wp2
      go_ret2
      exact retII' rfl)
  · rcases hs with rfl | rfl | rfl
    all_goals (
      go_enter Tryz.func32, Tryz.ntmps32
      go_wp2
      go_ret2
      exact retII' rfl)
  have e1 : (k == 33) = false := by simpa using h1
  have e2 : (k == 38) = false := by simpa using h2
  have e3 : (k == 110) = false := by simpa using h3
  have e4 : (k == 34) = false := by simpa using h4
  have e5 : (k == 91) = false := by simpa using h5
  have e6 : (k == 46) = false := by simpa using h6
  have e7 : (k == 94) = false := by simpa using h7
  have e8 : (k == 40) = false := by simpa using h8
  have e9 : (k == 42) = false := by simpa using h9
  have e10 : (k == 63) = false := by simpa using h10
  have e11 : (k == 47) = false := by simpa using h11
  by_cases h12 : k = 41
  · subst h12
    by_cases hd0 : d = 0
    · subst hd0
      clear h1 h2 h3 h4 h5 h6 h7 h8 h9 h10 h11
      rcases hs with rfl | rfl | rfl
      all_goals (
        go_enter Tryz.func32, Tryz.ntmps32
        go_wp2
        go_ret2
        exact retII' rfl)
    · obtain ⟨q, rfl⟩ : ∃ q, d = q + 1 := ⟨d - 1, by omega⟩
      have hd1 : (0 : Int) < ((q + 1 : Nat) : Int) := by omega
      have hd2 : ((q + 1 : Nat) : Int) - 1 = (q : Int) := by omega
      clear h1 h2 h3 h4 h5 h6 h7 h8 h9 h10 h11
      rcases hs with rfl | rfl | rfl
      all_goals (
        go_enter Tryz.func32, Tryz.ntmps32
        go_wp2
        go_ret2
        exact ⟨by congr 3 <;> simp [moveM], rfl⟩)
  have e12 : (k == 41) = false := by simpa using h12
  by_cases h13 : k = 59
  · subst h13
    by_cases hd0 : d = 0
    · subst hd0
      clear h1 h2 h3 h4 h5 h6 h7 h8 h9 h10 h11
      rcases hs with rfl | rfl | rfl
      all_goals (
        go_enter Tryz.func32, Tryz.ntmps32
        go_wp2
        go_ret2
        exact retII' rfl)
    · have hd1 : ((d : Int) == 0) = false := by simpa using hd0
      have hd2 : ¬ (d : Int) = 0 := by omega
      clear h1 h2 h3 h4 h5 h6 h7 h8 h9 h10 h11
      rcases hs with rfl | rfl | rfl
      all_goals (
        go_enter Tryz.func32, Tryz.ntmps32
        go_wp2
        go_ret2
        exact retII' (x := 7) (y := 0) (by simp [moveM, hd0]))
  have e13 : (k == 59) = false := by simpa using h13
  rcases hs with rfl | rfl | rfl
  all_goals (
    go_enter Tryz.func32, Tryz.ntmps32
    go_wp2
    go_ret2
    exact retII' (x := 7) (y := 0) (by simp [moveM, h1, h2, h3, h4, h5, h6, h7, h8, h9, h10, h11, h12, h13]))
theorem l2move_any (s d : Nat) (k : Int) (w : World) (hs : s < 7) (hd : d ≤ 1048576) :
    Calls Tryz.prog 32 #[.int .i64 s, .int .i64 d, .int .u8 k] w (RetII' (moveM s d k) w) := by
  rcases (show (s = 0 ∨ s = 1 ∨ s = 2 ∨ s = 5) ∨ (s = 3 ∨ s = 4 ∨ s = 6) by omega) with h | h
  · exact l2move_low s d k w h hd
  · exact l2move_high s d k w h hd
theorem ifP {α : Type} (P : α → Prop) {p : Prop} [Decidable p] {a b : α} (ha : P a) (hb : P b) : P (if p then a else b) := by
  split
  · exact ha
  · exact hb
theorem moveM_rng (s d : Nat) (k : Int) : (moveM s d k).1 ≤ 7 ∧ (moveM s d k).2 ≤ d + 1 := by
  show (fun r : Nat × Nat => r.1 ≤ 7 ∧ r.2 ≤ d + 1) (moveM s d k)
  unfold moveM
  repeat' (refine ifP (fun r : Nat × Nat => r.1 ≤ 7 ∧ r.2 ≤ d + 1) ?_ ?_)
  all_goals (refine ⟨?_, ?_⟩ <;> simp <;> omega)
structure TokC (Q : Nat → Prop) (w : World) (b o : Nat) (k : Tok) : Prop where
  kind : w.cell? ⟨b, o, none⟩ = some (.int .u8 k.kind)
  at_ : w.cell? ⟨b, o + 1, none⟩ = some (.int .i64 k.at_)
  nm : ∃ a c, w.cell? ⟨b, o + 2, none⟩ = some (.slice a k.nm.length c) ∧ Ints Q .u8 w a k.nm.length (lf k.nm)
  set : ∃ a c, w.cell? ⟨b, o + 3, none⟩ = some (.slice a k.set.length c) ∧ Ints Q .i64 w a k.set.length (lf k.set)
def TksA (Q : Nat → Prop) (w : World) (a : Option Addr) (l : List Tok) : Prop := l = [] ∨ ∃ b off, a = some ⟨b, off, none⟩ ∧ ∀ i x, l[i]? = some x → TokC Q w b (off + i * 4) x
theorem TokC.later {Q : Nat → Prop} {w w' : World} {b o : Nat} {k : Tok} (h : TokC Q w b o k) (t : Below w.heap.size w w') : TokC Q w' b o k := by
  obtain ⟨h1, h2, ⟨a, c, h3, h4⟩, ⟨a', c', h5, h6⟩⟩ := h
  exact ⟨cell_on h1 t, cell_on h2 t, ⟨a, c, cell_on h3 t, h4.later t⟩, ⟨a', c', cell_on h5 t, h6.later t⟩⟩
theorem TksA.later {Q : Nat → Prop} {w w' : World} {a : Option Addr} {l : List Tok} (h : TksA Q w a l) (t : Below w.heap.size w w') : TksA Q w' a l := by
  rcases h with h | ⟨b, off, e, h⟩
  · exact .inl h
  · exact .inr ⟨b, off, e, fun i x hx => (h i x hx).later t⟩
theorem TksA.at {Q : Nat → Prop} {w : World} {a : Option Addr} {l : List Tok} (h : TksA Q w a l) {i : Nat} (hi : i < l.length) : ∃ b off, a = some ⟨b, off, none⟩ ∧ ∀ i x, l[i]? = some x → TokC Q w b (off + i * 4) x := by
  rcases h with h | h
  · subst h; simp at hi
  · exact h
theorem TokR.read {w0 wr : World} {a : Option Addr} {n c : Nat} {L : List TC} (h : TokR w0 wr (.slice a n c) L) : TksA (New w0 wr) wr a (L.map (·.k)) := by
  obtain ⟨P, h⟩ := h
  rcases h.own with ⟨_, q, _⟩ | ⟨g, cap, e, hq, h3, h4, h5, h6⟩
  · exact .inl (by rw [List.eq_nil_of_length_eq_zero q]; rfl)
  injection e with e1 e2 e3
  subst e1
  refine .inr ⟨g, 0, rfl, fun i x hx => ?_⟩
  rw [List.getElem?_map] at hx
  obtain ⟨y, hy, rfl⟩ := Option.map_eq_some_iff.1 hx
  have hil := (List.getElem?_eq_some_iff.1 hy).1
  have hlen := flat_len tcv 4 tcv_len L
  have cell : ∀ j, j < 4 → wr.cell? ⟨g, 0 + i * 4 + j, none⟩ = (tcv y)[j]? := fun j hj => by
    rw [Nat.zero_add, h5 (i * 4 + j) (by rw [hlen]; omega), flat_get tcv 4 tcv_len L i j y hy hj]
  have hm := h.nm y (List.mem_of_getElem? hy)
  exact ⟨cell 0 (by omega), cell 1 (by omega), ⟨y.na, y.nc, cell 2 (by omega), hm.1.wide (fun b q => q.1)⟩, ⟨y.sa, y.sc, cell 3 (by omega), hm.2.wide (fun b q => q.1)⟩⟩
end
section
open Go.RowKit
open M (OpD NodeD Gr)
def wrongF (n : Nat) : List Tok → Nat → Nat → Int
  | [], s, _ => if s = 0 then -1 else n
  | x :: r, s, d => if x.kind = 0 then x.at_ else if (moveM s d x.kind).1 = 7 then x.at_ else wrongF n r (moveM s d x.kind).1 (moveM s d x.kind).2
theorem drop_cons {α : Type} {l : List α} {i : Nat} {x : α} (h : l[i]? = some x) : l.drop i = x :: l.drop (i + 1) := by
  obtain ⟨hl, e⟩ := List.getElem?_eq_some_iff.1 h
  rw [List.drop_eq_getElem_cons hl, e]
set_option maxHeartbeats 400000 in
set_option maxRecDepth 100000 in
theorem l2wrong_any (Q : Nat → Prop) (l : List Tok) (a : Option Addr) (c n : Nat) (w : World) (hT : TksA Q w a l) (hl : l.length ≤ 1048576) :
    Calls Tryz.prog 13 #[.slice a l.length c, .int .i64 n] w fun e w' => e = .returned (.int .i64 (wrongF n l 0 0)) ∧ w' = w := by
  have HT : Hid (TksA Q w a l) := hT
  clear hT
  obtain ⟨R, hR⟩ : ∃ R, wrongF n l 0 0 = R := ⟨_, rfl⟩
  rw [hR]
  go_enter Tryz.func13, Tryz.ntmps13
  go_wp2
  go_loopw [5, 6, 7] (fun vs vd vi wr => ∃ (s d i : Nat), s < 7 ∧ d ≤ i ∧ i ≤ l.length ∧ vs = .int .i64 s ∧ vd = .int .i64 d ∧ vi = .int .i64 i ∧ wr = w ∧ wrongF n (l.drop i) s d = R) (fun _ _ vi _ => l.length - (intOf vi).toNat)
  case atStart => exact ⟨0, 0, 0, by omega, by omega, by omega, rfl, rfl, rfl, rfl, hR⟩
  case round =>
    obtain ⟨s, d, i, hs, hd, hi, rfl, rfl, rfl, rfl, he⟩ := hrel
    have HE : Hid (wrongF n (l.drop i) s d = R) := he
    clear he hR
    by_cases hlt : i < l.length
    · have hlt' : (i : Int) < l.length := by omega
      obtain ⟨b, off, rfl, hc⟩ := HT.out.at hlt
      obtain ⟨x, hx⟩ : ∃ x, l[i]? = some x := ⟨_, List.getElem?_eq_getElem hlt⟩
      have hC := hc i x hx
      have k0 := hC.kind
      have k1 := hC.at_
      have HE2 : Hid ((if x.kind = 0 then (x.at_ : Int) else if (moveM s d x.kind).1 = 7 then (x.at_ : Int) else wrongF n (l.drop (i + 1)) (moveM s d x.kind).1 (moveM s d x.kind).2) = R) := by
        have := HE.out
        rw [drop_cons hx, wrongF] at this
        exact this
      clear HE hC hc hx
      by_cases h0 : x.kind = 0
      · have e := HE2.out
        rw [if_pos h0] at e
        rw [h0] at k0
        clear HE2
        go_wp2
        go_ret
        exact ⟨ret_int rfl, rfl⟩
      · have h0' : (x.kind == 0) = false := by simpa using h0
        have e := HE2.out
        rw [if_neg h0] at e
        have HE3 : Hid ((if (moveM s d x.kind).1 = 7 then (x.at_ : Int) else wrongF n (l.drop (i + 1)) (moveM s d x.kind).1 (moveM s d x.kind).2) = R) := e
        clear e HE2
        have HM : Hid (∀ w, Calls Tryz.prog 32 #[.int .i64 s, .int .i64 d, .int .u8 x.kind] w (RetII' (moveM s d x.kind) w)) := fun w => l2move_any s d x.kind w hs (by omega)
        obtain ⟨r1, r2⟩ := moveM_rng s d x.kind
        generalize moveM s d x.kind = p at *
        obtain ⟨s', d'⟩ := p
        simp only at r1 r2 HE3
        go_wp2_with fail
        refine (HM.out wr).mono ?_
        rintro e W ⟨rfl, hw⟩
        subst W
        by_cases h7 : s' = 7
        · subst h7
          have e := HE3.out
          rw [if_pos rfl] at e
          clear HE3
          go_wp2
          go_ret
          exact ⟨ret_int rfl, rfl⟩
        · have h7' : ((s' : Int) == 7) = false := by simp; omega
          have h7'' : ¬ (s' : Int) = 7 := by omega
          have e := HE3.out
          rw [if_neg h7] at e
          have HE4 : Hid (wrongF n (l.drop (i + 1)) s' d' = R) := e
          clear e HE3
          go_wp2
          go_roundw
          case rel => exact ⟨s', d', i + 1, by omega, by omega, by omega, rfl, rfl, by go_num, by trivial, HE4.out⟩
          case measure => simp [intOf]; omega
    · have hlt' : ¬ (i : Int) < l.length := by omega
      have e := HE.out
      rw [List.drop_of_length_le (by omega), wrongF] at e
      by_cases h0 : s = 0
      · subst h0
        rw [if_pos rfl] at e
        go_wp2
        go_ret
        exact ⟨ret_int rfl, rfl⟩
      · have h0' : ((s : Int) == 0) = false := by simp; omega
        have h0'' : ¬ (s : Int) = 0 := by omega
        rw [if_neg h0] at e
        go_wp2
        go_ret
        exact ⟨ret_int rfl, rfl⟩
end
end Go.Proofs.YteoddjobpmmgeaaGreat
