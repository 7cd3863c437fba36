import Derived.Test.YteoddjobpmmgeaaGreatT09
set_option linter.unusedVariables false
set_option linter.unusedSimpArgs false
namespace Go.Proofs.YteoddjobpmmgeaaGreat
section
open Go.RowKit
open M (OpD NodeD Gr)
def NmsA (Q : Nat → Prop) (w : World) (a : Option Addr) (ns : List (List Int)) : Prop :=
  ns = [] ∨ ∃ b off, a = some ⟨b, off, none⟩ ∧ ∀ i z, ns[i]? = some z → ∃ na nc, w.cell? ⟨b, off + i, none⟩ = some (.slice na z.length nc) ∧ Ints Q .u8 w na z.length (lf z)
theorem NmsA.later {Q : Nat → Prop} {w w' : World} {a : Option Addr} {ns : List (List Int)} (h : NmsA Q w a ns) (t : Below w.heap.size w w') : NmsA Q w' a ns := by
  rcases h with h | ⟨b, off, e, h⟩
  · exact .inl h
  · refine .inr ⟨b, off, e, fun i z hz => ?_⟩
    obtain ⟨na, nc, h1, h2⟩ := h i z hz
    exact ⟨na, nc, cell_on h1 t, h2.later t⟩
theorem NmsA.at {Q : Nat → Prop} {w : World} {a : Option Addr} {ns : List (List Int)} (h : NmsA Q w a ns) {i : Nat} (hi : i < ns.length) : ∃ b off, a = some ⟨b, off, none⟩ ∧ ∀ i z, ns[i]? = some z → ∃ na nc, w.cell? ⟨b, off + i, none⟩ = some (.slice na z.length nc) ∧ Ints Q .u8 w na z.length (lf z) := by
  rcases h with h | h
  · subst h; simp at hi
  · exact h
def BytL (z : List Int) : Prop := ∀ x ∈ z, 0 ≤ x ∧ x ≤ 255
theorem BytL.byt {z : List Int} (h : BytL z) : Byt z.length (lf z) := fun i hi => by
  unfold lf
  rw [List.getD_eq_getElem?_getD, List.getElem?_eq_getElem hi]
  exact h _ (List.getElem_mem hi)
theorem str_lists {y z : List Int} (hy : BytL y) (hz : BytL z) : str y.length (lf y) = str z.length (lf z) ↔ y = z := by
  rw [str_eq _ _ _ _ hy.byt hz.byt]
  constructor
  · rintro ⟨h1, h2⟩
    refine List.ext_getElem h1 (fun i hi hi' => ?_)
    have := h2 i hi
    unfold lf at this
    simpa [List.getD_eq_getElem?_getD, hi, hi'] using this
  · rintro rfl
    exact ⟨rfl, fun _ _ => rfl⟩
theorem ba_ext {a b : ByteArray} (h : a.toList = b.toList) : a = b := by
  rw [ByteArray.toList_eq, ByteArray.toList_eq] at h
  exact ByteArray.ext (Array.ext' h)
def findF (z : List Int) : List (List Int) → Nat → Int
  | [], _ => -1
  | y :: r, i => if y = z then i else findF z r (i + 1)
set_option maxHeartbeats 400000 in
set_option maxRecDepth 100000 in
theorem l2find_any (Q Q' : Nat → Prop) (ns : List (List Int)) (z : List Int) (a a' : Option Addr) (c c' : Nat) (w : World) (hN : NmsA Q w a ns) (hZ : Ints Q' .u8 w a' z.length (lf z)) (hb : ∀ y ∈ ns, BytL y) (hbz : BytL z) (hl : ns.length ≤ 1048576) :
    Calls Tryz.prog 15 #[.slice a ns.length c, .slice a' z.length c'] w fun e w' => e = .returned (.int .i64 (findF z ns 0)) ∧ ∃ m, w' = w.drewN m := by
  have HN : Hid (NmsA Q w a ns) := hN
  have HZ : Hid (∀ m, (convert 22 9 (.slice a' z.length c')).run Tryz.prog (w.drewN m) = .ok (.string (str z.length (lf z))) (w.drewN m)) := fun m => conv_run Q' a' z.length c' (lf z) _ (hZ.later (below_drewN (Below.refl _ w) m))
  have HB : Hid (∀ y ∈ ns, BytL y) := hb
  clear hN hZ hb
  obtain ⟨R, hR⟩ : ∃ R, findF z ns 0 = R := ⟨_, rfl⟩
  rw [hR]
  go_enter Tryz.func15, Tryz.ntmps15
  go_wp2
  go_loopw [5] (fun vi wr => ∃ (i m : Nat), i ≤ ns.length ∧ vi = .int .i64 i ∧ wr = w.drewN m ∧ findF z (ns.drop i) i = R) (fun vi _ => ns.length - (intOf vi).toNat)
  case atStart => exact ⟨0, 0, by omega, rfl, rfl, hR⟩
  case round =>
    obtain ⟨i, m, hi, rfl, rfl, he⟩ := hrel
    have HE : Hid (findF z (ns.drop i) i = R) := he
    clear he hR
    by_cases hlt : i < ns.length
    · have hlt' : (i : Int) < ns.length := by omega
      obtain ⟨b, off, rfl, hc⟩ := HN.out.at hlt
      obtain ⟨y, hy⟩ : ∃ y, ns[i]? = some y := ⟨_, List.getElem?_eq_getElem hlt⟩
      obtain ⟨na, nc, k0, hI⟩ := hc i y hy
      have HY : Hid (∀ m, (convert 22 9 (.slice na y.length nc)).run Tryz.prog (w.drewN m) = .ok (.string (str y.length (lf y))) (w.drewN m)) := fun m => conv_run Q na y.length nc (lf y) _ (hI.later (below_drewN (Below.refl _ w) m))
      have HQ : Hid (str y.length (lf y) = str z.length (lf z) ↔ y = z) := str_lists (HB.out y (List.mem_of_getElem? hy)) hbz
      have HE2 : Hid ((if y = z then (i : Int) else findF z (ns.drop (i + 1)) (i + 1)) = R) := by
        have := HE.out
        rw [drop_cons hy, findF] at this
        exact this
      clear HE hc hy hI
      have hy0 : ∀ n, (convert 22 9 (.slice na y.length nc)).run Tryz.prog ((w.drewN m).drewN n) = .ok (.string (str y.length (lf y))) ((w.drewN m).drewN n) := fun n => by rw [World.drewN_drewN]; exact HY.out _
      have hz0 : ∀ n, (convert 22 9 (.slice a' z.length c')).run Tryz.prog ((w.drewN m).drewN n) = .ok (.string (str z.length (lf z))) ((w.drewN m).drewN n) := fun n => by rw [World.drewN_drewN]; exact HZ.out _
      have HW : Hid (∀ n, ∃ q, (w.drewN m).drewN n = w.drewN q) := fun n => ⟨_, World.drewN_drewN _ _ _⟩
      have hy1 := HY.out
      have hz1 := HZ.out
      clear HY HZ
      generalize str y.length (lf y) = sy at *
      generalize str z.length (lf z) = sz at *
      by_cases hyz : y = z
      · have e := HE2.out
        rw [if_pos hyz] at e
        have HEq : Hid ((i : Int) = R) := e
        obtain rfl : sy = sz := HQ.out.2 hyz
        clear HE2 e hyz HQ
        go_wp2
        go_quiet (fail)
        go_wp2
        go_ret
        exact ⟨ret_int HEq.out, HW.out _⟩
      · have e := HE2.out
        rw [if_neg hyz] at e
        have HE3 : Hid (findF z (ns.drop (i + 1)) (i + 1) = R) := e
        have hs : ¬ sy = sz := fun q => hyz (HQ.out.1 q)
        have hs' : (sy.toList == sz.toList) = false := by
          rw [beq_eq_false_iff_ne]
          exact fun q => hs (ba_ext q)
        clear HE2 e hyz
        go_wp2
        go_quiet (fail)
        go_wp2
        exact ⟨⟨i + 1, m + nq, hlt, by simp, rfl, HE3.out⟩, by simp [intOf]; omega⟩
    · have hlt' : ¬ (i : Int) < ns.length := by omega
      have e := HE.out
      rw [List.drop_of_length_le (by omega), findF] at e
      go_wp2
      go_ret
      exact ⟨ret_int rfl, m, rfl⟩
end
section
open Go.RowKit
open M (OpD NodeD Gr)
inductive PE where
  | ref (t : Tok)
  | thr (c t : Tok)
  | str (t : Tok)
  | cls (t : Tok)
  | dot (t : Tok)
  | grp (o : Tok) (e : PE) (c : Tok)
  | star (e : PE) (t : Tok)
  | opt (e : PE) (t : Tok)
  | not (t : Tok) (e : PE)
  | amp (t : Tok) (e : PE)
  | emp
  | seq (a b : PE)
  | alt (a : PE) (t : Tok) (b : PE)
def PE.tk : PE → List Tok
  | .ref t => [t]
  | .thr c t => [c, t]
  | .str t => [t]
  | .cls t => [t]
  | .dot t => [t]
  | .grp o e c => o :: (e.tk ++ [c])
  | .star e t => e.tk ++ [t]
  | .opt e t => e.tk ++ [t]
  | .not t e => t :: e.tk
  | .amp t e => t :: e.tk
  | .emp => []
  | .seq a b => a.tk ++ b.tk
  | .alt a t b => a.tk ++ t :: b.tk
def PE.ok : PE → Nat → Prop
  | .ref t, _ => t.kind = 110
  | .thr c t, _ => c.kind = 94 ∧ t.kind = 110
  | .str t, _ => t.kind = 34
  | .cls t, _ => t.kind = 91
  | .dot t, _ => t.kind = 46
  | .grp o e c, _ => o.kind = 40 ∧ c.kind = 41 ∧ e.ok 5
  | .star e t, l => 1 ≤ l ∧ t.kind = 42 ∧ e.ok 0
  | .opt e t, l => 1 ≤ l ∧ t.kind = 63 ∧ e.ok 0
  | .not t e, l => 2 ≤ l ∧ t.kind = 33 ∧ e.ok 2
  | .amp t e, l => 2 ≤ l ∧ t.kind = 38 ∧ e.ok 2
  | .emp, l => 4 ≤ l
  | .seq a b, l => 3 ≤ l ∧ a.ok 3 ∧ b.ok 2
  | .alt a t b, l => 5 ≤ l ∧ t.kind = 47 ∧ a.ok 5 ∧ b.ok 4
theorem PE.ok_mono : ∀ (e : PE) {l m : Nat}, l ≤ m → e.ok l → e.ok m
  | .ref _, _, _, _, h => h
  | .thr _ _, _, _, _, h => h
  | .str _, _, _, _, h => h
  | .cls _, _, _, _, h => h
  | .dot _, _, _, _, h => h
  | .grp _ _ _, _, _, _, h => h
  | .star _ _, _, _, hl, h => ⟨Nat.le_trans h.1 hl, h.2⟩
  | .opt _ _, _, _, hl, h => ⟨Nat.le_trans h.1 hl, h.2⟩
  | .not _ _, _, _, hl, h => ⟨Nat.le_trans h.1 hl, h.2⟩
  | .amp _ _, _, _, hl, h => ⟨Nat.le_trans h.1 hl, h.2⟩
  | .emp, _, _, hl, h => Nat.le_trans h hl
  | .seq _ _, _, _, hl, h => ⟨Nat.le_trans h.1 hl, h.2⟩
  | .alt _ _ _, _, _, hl, h => ⟨Nat.le_trans h.1 hl, h.2⟩
def strOps : List Int → List OpD
  | [] => leafD 0 0
  | x :: r => r.foldl (fun out y => out ++ setD (oneD y) ++ [opd 4 0]) (setD (oneD x))
def PE.ops (rs ls : List (List Int)) : PE → List OpD
  | .ref t => leafD 2 (findF t.nm rs 0)
  | .thr _ t => leafD 3 (findF t.nm ls 0)
  | .str t => strOps t.nm
  | .cls t => setD t.set
  | .dot _ => setD [0, 255]
  | .grp _ e _ => e.ops rs ls
  | .star e _ => unD 6 (e.ops rs ls)
  | .opt e _ => binD 5 (e.ops rs ls) (leafD 0 0)
  | .not _ e => unD 7 (e.ops rs ls)
  | .amp _ e => unD 7 (unD 7 (e.ops rs ls))
  | .emp => leafD 0 0
  | .seq a b => binD 4 (a.ops rs ls) (b.ops rs ls)
  | .alt a _ b => binD 5 (a.ops rs ls) (b.ops rs ls)
def dstep (k : Int) (d : Int) : Int := if k = 40 then d + 1 else if k = 41 then d - 1 else d
def grpL : Int → List Tok → Nat
  | _, [] => 0
  | d, x :: r => if dstep x.kind d = 0 then 1 else grpL (dstep x.kind d) r + 1
def barS : Nat → Int → Int → List Tok → Int
  | _, _, bar, [] => bar
  | i, d, bar, x :: r => barS (i + 1) (dstep x.kind d) (if x.kind = 47 ∧ d = 0 then i else bar) r
theorem dstep_else {k : Int} (h : k ≠ 40) (h' : k ≠ 41) (d : Int) : dstep k d = d := by unfold dstep; rw [if_neg h, if_neg h']
theorem dstep_o (d : Int) : dstep 40 d = d + 1 := rfl
theorem dstep_c (d : Int) : dstep 41 d = d - 1 := rfl
theorem grpL_cons {d : Int} {x : Tok} {r : List Tok} (h : dstep x.kind d ≠ 0) : grpL d (x :: r) = grpL (dstep x.kind d) r + 1 := by rw [grpL, if_neg h]
theorem grpL_in : ∀ (e : PE) (l : Nat), e.ok l → ∀ (d : Int) (r : List Tok), 0 < d → grpL d (e.tk ++ r) = e.tk.length + grpL d r := by
  have one : ∀ (t : Tok) (d : Int) (r : List Tok), t.kind ≠ 40 → t.kind ≠ 41 → 0 < d → grpL d (t :: r) = grpL d r + 1 := fun t d r h h' hd => by
    rw [grpL_cons (by rw [dstep_else h h']; omega), dstep_else h h']
  intro e
  induction e with
  | ref t => intro l h d r hd; have : t.kind = 110 := h; rw [PE.tk, List.singleton_append, one t d r (by omega) (by omega) hd, List.length_singleton]; omega
  | str t => intro l h d r hd; have : t.kind = 34 := h; rw [PE.tk, List.singleton_append, one t d r (by omega) (by omega) hd, List.length_singleton]; omega
  | cls t => intro l h d r hd; have : t.kind = 91 := h; rw [PE.tk, List.singleton_append, one t d r (by omega) (by omega) hd, List.length_singleton]; omega
  | dot t => intro l h d r hd; have : t.kind = 46 := h; rw [PE.tk, List.singleton_append, one t d r (by omega) (by omega) hd, List.length_singleton]; omega
  | thr c t =>
    intro l h d r hd
    obtain ⟨h1, h2⟩ := h
    show grpL d (c :: t :: r) = 2 + _
    rw [one c d _ (by omega) (by omega) hd, one t d _ (by omega) (by omega) hd]
    omega
  | grp o e c ih =>
    intro l h d r hd
    obtain ⟨h1, h2, h3⟩ := h
    show grpL d (o :: ((e.tk ++ [c]) ++ r)) = (e.tk ++ [c]).length + 1 + _
    rw [grpL_cons (by rw [h1, dstep_o]; omega), h1, dstep_o, List.append_assoc, ih 5 h3 (d + 1) _ (by omega)]
    show e.tk.length + grpL (d + 1) (c :: r) + 1 = _
    rw [grpL_cons (by rw [h2, dstep_c]; omega), h2, dstep_c, List.length_append, List.length_singleton, show d + 1 - 1 = d by omega]
    omega
  | star e t ih =>
    intro l h d r hd
    obtain ⟨_, h2, h3⟩ := h
    show grpL d ((e.tk ++ [t]) ++ r) = (e.tk ++ [t]).length + _
    rw [List.append_assoc, ih 0 h3 d _ hd, List.singleton_append, one t d r (by omega) (by omega) hd, List.length_append, List.length_singleton]
    omega
  | opt e t ih =>
    intro l h d r hd
    obtain ⟨_, h2, h3⟩ := h
    show grpL d ((e.tk ++ [t]) ++ r) = (e.tk ++ [t]).length + _
    rw [List.append_assoc, ih 0 h3 d _ hd, List.singleton_append, one t d r (by omega) (by omega) hd, List.length_append, List.length_singleton]
    omega
  | not t e ih =>
    intro l h d r hd
    obtain ⟨_, h2, h3⟩ := h
    show grpL d (t :: (e.tk ++ r)) = e.tk.length + 1 + _
    rw [one t d _ (by omega) (by omega) hd, ih 2 h3 d r hd]
    omega
  | amp t e ih =>
    intro l h d r hd
    obtain ⟨_, h2, h3⟩ := h
    show grpL d (t :: (e.tk ++ r)) = e.tk.length + 1 + _
    rw [one t d _ (by omega) (by omega) hd, ih 2 h3 d r hd]
    omega
  | emp => intro l h d r hd; show grpL d r = 0 + _; omega
  | seq a b iha ihb =>
    intro l h d r hd
    obtain ⟨_, h2, h3⟩ := h
    show grpL d ((a.tk ++ b.tk) ++ r) = (a.tk ++ b.tk).length + _
    rw [List.append_assoc, iha 3 h2 d _ hd, ihb 2 h3 d r hd, List.length_append]
    omega
  | alt a t b iha ihb =>
    intro l h d r hd
    obtain ⟨_, h1, h2, h3⟩ := h
    show grpL d ((a.tk ++ t :: b.tk) ++ r) = (a.tk ++ t :: b.tk).length + _
    rw [List.append_assoc, iha 5 h2 d _ hd, List.cons_append, one t d _ (by omega) (by omega) hd, ihb 4 h3 d r hd, List.length_append, List.length_cons]
    omega
theorem barS_cons (i : Nat) (d bar : Int) (x : Tok) (r : List Tok) : barS i d bar (x :: r) = barS (i + 1) (dstep x.kind d) (if x.kind = 47 ∧ d = 0 then i else bar) r := rfl
theorem barS_in : ∀ (e : PE) (l : Nat), e.ok l → ∀ (i : Nat) (d bar : Int) (r : List Tok), (l ≤ 4 ∨ 0 < d) → 0 ≤ d → barS i d bar (e.tk ++ r) = barS (i + e.tk.length) d bar r := by
  have one : ∀ (t : Tok) (i : Nat) (d bar : Int) (r : List Tok), t.kind ≠ 40 → t.kind ≠ 41 → t.kind ≠ 47 → barS i d bar (t :: r) = barS (i + 1) d bar r := fun t i d bar r h h' h'' => by
    rw [barS_cons, dstep_else h h', if_neg (fun q => h'' q.1)]
  intro e
  induction e with
  | ref t => intro l h i d bar r _ _; have : t.kind = 110 := h; exact one t i d bar r (by omega) (by omega) (by omega)
  | str t => intro l h i d bar r _ _; have : t.kind = 34 := h; exact one t i d bar r (by omega) (by omega) (by omega)
  | cls t => intro l h i d bar r _ _; have : t.kind = 91 := h; exact one t i d bar r (by omega) (by omega) (by omega)
  | dot t => intro l h i d bar r _ _; have : t.kind = 46 := h; exact one t i d bar r (by omega) (by omega) (by omega)
  | thr c t =>
    intro l h i d bar r _ _
    obtain ⟨h1, h2⟩ := h
    show barS i d bar (c :: t :: r) = _
    rw [one c i d bar _ (by omega) (by omega) (by omega), one t _ d bar _ (by omega) (by omega) (by omega)]
    rfl
  | grp o e c ih =>
    intro l h i d bar r _ hd
    obtain ⟨h1, h2, h3⟩ := h
    show barS i d bar (o :: ((e.tk ++ [c]) ++ r)) = barS (i + ((e.tk ++ [c]).length + 1)) d bar r
    rw [barS_cons, if_neg (fun q => by omega), h1, dstep_o, List.append_assoc, ih 5 h3 _ (d + 1) _ _ (.inr (by omega)) (by omega)]
    show barS _ (d + 1) bar (c :: r) = _
    rw [barS_cons, if_neg (fun q => by omega), h2, dstep_c, List.length_append, List.length_singleton, show d + 1 - 1 = d by omega]
    congr 1; omega
  | star e t ih =>
    intro l h i d bar r hl hd
    obtain ⟨_, h2, h3⟩ := h
    show barS i d bar ((e.tk ++ [t]) ++ r) = barS (i + (e.tk ++ [t]).length) d bar r
    rw [List.append_assoc, ih 0 h3 _ d _ _ (.inl (by omega)) hd, List.singleton_append, one t _ d bar r (by omega) (by omega) (by omega), List.length_append, List.length_singleton]
    congr 1
  | opt e t ih =>
    intro l h i d bar r hl hd
    obtain ⟨_, h2, h3⟩ := h
    show barS i d bar ((e.tk ++ [t]) ++ r) = barS (i + (e.tk ++ [t]).length) d bar r
    rw [List.append_assoc, ih 0 h3 _ d _ _ (.inl (by omega)) hd, List.singleton_append, one t _ d bar r (by omega) (by omega) (by omega), List.length_append, List.length_singleton]
    congr 1
  | not t e ih =>
    intro l h i d bar r hl hd
    obtain ⟨_, h2, h3⟩ := h
    show barS i d bar (t :: (e.tk ++ r)) = barS (i + (e.tk.length + 1)) d bar r
    rw [one t i d bar _ (by omega) (by omega) (by omega), ih 2 h3 _ d _ _ (.inl (by omega)) hd]
    congr 1; omega
  | amp t e ih =>
    intro l h i d bar r hl hd
    obtain ⟨_, h2, h3⟩ := h
    show barS i d bar (t :: (e.tk ++ r)) = barS (i + (e.tk.length + 1)) d bar r
    rw [one t i d bar _ (by omega) (by omega) (by omega), ih 2 h3 _ d _ _ (.inl (by omega)) hd]
    congr 1; omega
  | emp => intro l h i d bar r _ _; rfl
  | seq a b iha ihb =>
    intro l h i d bar r hl hd
    obtain ⟨_, h2, h3⟩ := h
    show barS i d bar ((a.tk ++ b.tk) ++ r) = barS (i + (a.tk ++ b.tk).length) d bar r
    rw [List.append_assoc, iha 3 h2 _ d _ _ (.inl (by omega)) hd, ihb 2 h3 _ d _ _ (.inl (by omega)) hd, List.length_append]
    congr 1; omega
  | alt a t b iha ihb =>
    intro l h i d bar r hl hd
    obtain ⟨h0, h1, h2, h3⟩ := h
    have hd' : 0 < d := by omega
    show barS i d bar ((a.tk ++ t :: b.tk) ++ r) = barS (i + (a.tk ++ t :: b.tk).length) d bar r
    rw [List.append_assoc, iha 5 h2 _ d _ _ (.inr hd') hd, List.cons_append, barS_cons, if_neg (fun q => by omega), dstep_else (by omega) (by omega), ihb 4 h3 _ d _ _ (.inl (by omega)) hd, List.length_append, List.length_cons]
    congr 1; omega
theorem barS_some (e : PE) (h : e.ok 5) (i : Nat) (bar : Int) : ∃ bar', ∀ r, barS i 0 bar (e.tk ++ r) = barS (i + e.tk.length) 0 bar' r := by
  induction e generalizing i bar with
  | alt a t b iha ihb =>
    obtain ⟨_, h1, h2, h3⟩ := h
    obtain ⟨b1, e1⟩ := iha h2 i bar
    refine ⟨((i + a.tk.length : Nat) : Int), fun r => ?_⟩
    show barS i 0 bar ((a.tk ++ t :: b.tk) ++ r) = barS (i + (a.tk ++ t :: b.tk).length) 0 _ r
    rw [List.append_assoc, e1, List.cons_append, barS_cons, if_pos ⟨h1, rfl⟩, dstep_else (by omega) (by omega), barS_in b 4 h3 _ 0 _ _ (.inl (by omega)) (by omega), List.length_append, List.length_cons]
    congr 1; omega
  | _ => exact ⟨bar, fun r => barS_in _ 4 (by first | exact h | exact ⟨by omega, h.2⟩ | exact Nat.le_refl 4) i 0 bar r (.inl (by omega)) (by omega)⟩
theorem bar_none (e : PE) (h : e.ok 4) : barS 0 0 (-1) e.tk = -1 := by
  have := barS_in e 4 h 0 0 (-1) [] (.inl (by omega)) (by omega)
  rw [List.append_nil] at this
  exact this
theorem bar_alt (a : PE) (t : Tok) (b : PE) (h : (PE.alt a t b).ok 5) : barS 0 0 (-1) (PE.alt a t b).tk = (a.tk.length : Int) := by
  obtain ⟨_, h1, h2, h3⟩ := h
  obtain ⟨b1, e1⟩ := barS_some a h2 0 (-1)
  show barS 0 0 (-1) (a.tk ++ t :: b.tk) = _
  rw [e1, barS_cons, if_pos ⟨h1, rfl⟩, dstep_else (by omega) (by omega)]
  have := barS_in b 4 h3 (0 + a.tk.length + 1) 0 ((0 + a.tk.length : Nat) : Int) [] (.inl (by omega)) (by omega)
  rw [List.append_nil] at this
  rw [this, barS]
  omega
def kAt (l : List Tok) (i : Nat) : Int := match l[i]? with | some x => x.kind | none => 0
def preL : List Tok → Nat
  | [] => 0
  | x :: r => if x.kind = 33 ∨ x.kind = 38 then preL r + 1 else 0
def coreL (l : List Tok) : Nat := if kAt l 0 = 94 then 1 + grpL 0 (l.drop 1) else grpL 0 l
def sufL (l : List Tok) (i : Nat) : Nat := if kAt l i = 42 ∨ kAt l i = 63 then i + 1 else i
def partL (l : List Tok) : Nat := preL l + sufL (l.drop (preL l)) (coreL (l.drop (preL l)))
theorem prim_len (e : PE) (h : e.ok 0) (r : List Tok) : preL (e.tk ++ r) = 0 ∧ coreL (e.tk ++ r) = e.tk.length := by
  have one : ∀ (t : Tok), t.kind ≠ 33 → t.kind ≠ 38 → t.kind ≠ 94 → t.kind ≠ 40 → t.kind ≠ 41 → preL (t :: r) = 0 ∧ coreL (t :: r) = 1 := fun t h1 h2 h3 h4 h5 => by
    refine ⟨by rw [preL, if_neg (by omega)], ?_⟩
    unfold coreL
    rw [if_neg (by show ¬ t.kind = 94; exact h3), grpL, dstep_else h4 h5, if_pos rfl]
  cases e with
  | ref t => have : t.kind = 110 := h; exact one t (by omega) (by omega) (by omega) (by omega) (by omega)
  | str t => have : t.kind = 34 := h; exact one t (by omega) (by omega) (by omega) (by omega) (by omega)
  | cls t => have : t.kind = 91 := h; exact one t (by omega) (by omega) (by omega) (by omega) (by omega)
  | dot t => have : t.kind = 46 := h; exact one t (by omega) (by omega) (by omega) (by omega) (by omega)
  | thr c t =>
    obtain ⟨h1, h2⟩ := h
    refine ⟨by show preL (c :: t :: r) = 0; rw [preL, if_neg (by omega)], ?_⟩
    show coreL (c :: t :: r) = 2
    unfold coreL
    rw [if_pos (by show c.kind = 94; exact h1)]
    show 1 + grpL 0 (t :: r) = 2
    rw [grpL, dstep_else (by omega) (by omega), if_pos rfl]
  | grp o e c =>
    obtain ⟨h1, h2, h3⟩ := h
    refine ⟨by show preL (o :: _) = 0; rw [preL, if_neg (by omega)], ?_⟩
    show coreL (o :: ((e.tk ++ [c]) ++ r)) = (e.tk ++ [c]).length + 1
    unfold coreL
    rw [if_neg (by show ¬ o.kind = 94; omega), grpL_cons (by rw [h1, dstep_o]; omega), h1, dstep_o, List.append_assoc, grpL_in e 5 h3 _ _ (by omega)]
    show e.tk.length + grpL (0 + 1) (c :: r) + 1 = _
    rw [grpL, h2, dstep_c, if_pos (by omega), List.length_append, List.length_singleton]
  | star _ _ => exact absurd h.1 (by omega)
  | opt _ _ => exact absurd h.1 (by omega)
  | not _ _ => exact absurd h.1 (by omega)
  | amp _ _ => exact absurd h.1 (by omega)
  | emp => exact absurd h (by show ¬ (4 ≤ 0); omega)
  | seq _ _ => exact absurd h.1 (by omega)
  | alt _ _ _ => exact absurd h.1 (by omega)
theorem kAt_right (l r : List Tok) : kAt (l ++ r) l.length = kAt r 0 := by unfold kAt; rw [List.getElem?_append_right (Nat.le_refl _), Nat.sub_self]
theorem part_len : ∀ (e : PE), e.ok 2 → ∀ (r : List Tok), kAt r 0 ≠ 42 → kAt r 0 ≠ 63 → partL (e.tk ++ r) = e.tk.length := by
  have prim : ∀ (e : PE), e.ok 0 → ∀ (r : List Tok), kAt r 0 ≠ 42 → kAt r 0 ≠ 63 → partL (e.tk ++ r) = e.tk.length := fun e h r h1 h2 => by
    obtain ⟨p1, p2⟩ := prim_len e h r
    unfold partL
    rw [p1, List.drop_zero, p2]
    unfold sufL
    rw [kAt_right, if_neg (fun q => q.elim h1 h2)]
    omega
  have suf : ∀ (e : PE) (t : Tok), e.ok 0 → (t.kind = 42 ∨ t.kind = 63) → ∀ (r : List Tok), partL ((e.tk ++ [t]) ++ r) = (e.tk ++ [t]).length := fun e t h ht r => by
    rw [List.append_assoc]
    obtain ⟨p1, p2⟩ := prim_len e h ([t] ++ r)
    unfold partL
    rw [p1, List.drop_zero, p2]
    unfold sufL
    rw [kAt_right, if_pos (by exact ht), List.length_append, List.length_singleton]
    omega
  have pre : ∀ (t : Tok) (l : List Tok), (t.kind = 33 ∨ t.kind = 38) → partL (t :: l) = partL l + 1 := fun t l ht => by
    unfold partL
    rw [preL, if_pos ht]
    show preL l + 1 + sufL (l.drop (preL l)) (coreL (l.drop (preL l))) = _
    omega
  intro e
  induction e with
  | not t e ih =>
    intro h r h1 h2
    obtain ⟨_, h3, h4⟩ := h
    show partL (t :: (e.tk ++ r)) = e.tk.length + 1
    rw [pre t _ (.inl h3), ih h4 r h1 h2]
  | amp t e ih =>
    intro h r h1 h2
    obtain ⟨_, h3, h4⟩ := h
    show partL (t :: (e.tk ++ r)) = e.tk.length + 1
    rw [pre t _ (.inr h3), ih h4 r h1 h2]
  | star e t _ => intro h r _ _; exact suf e t h.2.2 (.inl h.2.1) r
  | opt e t _ => intro h r _ _; exact suf e t h.2.2 (.inr h.2.1) r
  | emp => intro h; exact absurd h (by show ¬ (4 ≤ 2); omega)
  | seq a b _ _ => intro h; exact absurd h.1 (by omega)
  | alt a t b _ _ => intro h; exact absurd h.1 (by omega)
  | ref t => intro h r h1 h2; exact prim _ h r h1 h2
  | thr c t => intro h r h1 h2; exact prim _ h r h1 h2
  | str t => intro h r h1 h2; exact prim _ h r h1 h2
  | cls t => intro h r h1 h2; exact prim _ h r h1 h2
  | dot t => intro h r h1 h2; exact prim _ h r h1 h2
  | grp o e c _ => intro h r h1 h2; exact prim _ h r h1 h2
theorem part_head : ∀ (e : PE), e.ok 2 → ∀ (r : List Tok), kAt (e.tk ++ r) 0 ≠ 42 ∧ kAt (e.tk ++ r) 0 ≠ 63 ∧ 0 < e.tk.length := by
  intro e
  induction e with
  | not t e ih => intro h r; have h3 := h.2.1; exact ⟨by show t.kind ≠ 42; omega, by show t.kind ≠ 63; omega, by simp [PE.tk]⟩
  | amp t e ih => intro h r; have h3 := h.2.1; exact ⟨by show t.kind ≠ 42; omega, by show t.kind ≠ 63; omega, by simp [PE.tk]⟩
  | star e t ih =>
    intro h r
    have := ih (PE.ok_mono e (by omega) h.2.2) ([t] ++ r)
    show kAt ((e.tk ++ [t]) ++ r) 0 ≠ 42 ∧ kAt ((e.tk ++ [t]) ++ r) 0 ≠ 63 ∧ 0 < (e.tk ++ [t]).length
    rw [List.append_assoc]
    exact ⟨this.1, this.2.1, by simp⟩
  | opt e t ih =>
    intro h r
    have := ih (PE.ok_mono e (by omega) h.2.2) ([t] ++ r)
    show kAt ((e.tk ++ [t]) ++ r) 0 ≠ 42 ∧ kAt ((e.tk ++ [t]) ++ r) 0 ≠ 63 ∧ 0 < (e.tk ++ [t]).length
    rw [List.append_assoc]
    exact ⟨this.1, this.2.1, by simp⟩
  | emp => intro h; exact absurd h (by show ¬ (4 ≤ 2); omega)
  | seq a b _ _ => intro h; exact absurd h.1 (by omega)
  | alt a t b _ _ => intro h; exact absurd h.1 (by omega)
  | ref t => intro h r; have h3 : t.kind = 110 := h; exact ⟨by show t.kind ≠ 42; omega, by show t.kind ≠ 63; omega, by simp [PE.tk]⟩
  | thr c t => intro h r; have h3 := h.1; exact ⟨by show c.kind ≠ 42; omega, by show c.kind ≠ 63; omega, by simp [PE.tk]⟩
  | str t => intro h r; have h3 : t.kind = 34 := h; exact ⟨by show t.kind ≠ 42; omega, by show t.kind ≠ 63; omega, by simp [PE.tk]⟩
  | cls t => intro h r; have h3 : t.kind = 91 := h; exact ⟨by show t.kind ≠ 42; omega, by show t.kind ≠ 63; omega, by simp [PE.tk]⟩
  | dot t => intro h r; have h3 : t.kind = 46 := h; exact ⟨by show t.kind ≠ 42; omega, by show t.kind ≠ 63; omega, by simp [PE.tk]⟩
  | grp o e c _ => intro h r; have h3 := h.1; exact ⟨by show o.kind ≠ 42; omega, by show o.kind ≠ 63; omega, by simp [PE.tk]⟩
end
end Go.Proofs.YteoddjobpmmgeaaGreat
