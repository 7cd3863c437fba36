/-
  Walks: the link.
-/
import Derived.Test.YtjndcajblpgjmaaCPut
namespace Go.Proofs.Ytjndcajblpgjmaa
open Go.RowKit
open M (OpD NodeD Gr InsD EX ins lk)
set_option linter.unusedVariables false
set_option linter.unusedSimpArgs false

def lkI (f : Int → Int) (x : IC) : IC := ⟨lk f x.d, x.a, x.c⟩
def lkd (f : Int → Int) (l : List IC) (k : Nat) : List IC := (l.take k).map (lkI f) ++ l.drop k
theorem lkd_len (f : Int → Int) (l : List IC) (k : Nat) : (lkd f l k).length = l.length := by
  unfold lkd
  rw [List.length_append, List.length_map, List.length_take, List.length_drop]
  omega
theorem lkd_get {f : Int → Int} {l : List IC} {k : Nat} {x : IC} (h : l[k]? = some x) : (lkd f l k)[k]? = some x := by
  have hk : k < l.length := (List.getElem?_eq_some_iff.1 h).1
  unfold lkd
  rw [List.getElem?_append_right (by rw [List.length_map, List.length_take]; omega), List.length_map, List.length_take, show k - min k l.length = 0 by omega, List.getElem?_drop]
  simpa using h
theorem lkd_succ {f : Int → Int} {l : List IC} {k : Nat} {x : IC} (h : l[k]? = some x) : lkd f l (k + 1) = (lkd f l k).set k (lkI f x) := by
  have hk : k < l.length := (List.getElem?_eq_some_iff.1 h).1
  have hx : l[k] = x := (List.getElem?_eq_some_iff.1 h).2
  unfold lkd
  rw [List.set_append_right _ _ (by rw [List.length_map, List.length_take]; omega), List.length_map, List.length_take, show k - min k l.length = 0 by omega, List.drop_eq_getElem_cons hk, List.set_cons_zero, List.take_succ_eq_append_getElem hk, List.map_append, List.append_assoc, hx]
  rfl
theorem lkI_same {f : Int → Int} {x : IC} (h : ¬ (x.d.kind = 6 ∨ x.d.kind = 8)) : lkI f x = x := by
  unfold lkI lk
  rw [if_neg h]
theorem lkI_turn {f : Int → Int} {x : IC} (h : x.d.kind = 6 ∨ x.d.kind = 8) : lkI f x = toI x (f x.d.to) := by
  unfold lkI lk toI
  rw [if_pos h]
theorem lkd_full (f : Int → Int) (l : List IC) : lkd f l l.length = l.map (lkI f) := by
  unfold lkd
  simp
theorem lkd_zero (f : Int → Int) (l : List IC) : lkd f l 0 = l := by simp [lkd]

def lnI (w0 : World) (cb : Nat) (u0 u1 : Value) (l : List IC) (fl : List Int) (f : Int → Int) (P F S : Nat → Prop) (vp vf : Value) (iv : Value) (wr : World) : Prop :=
  ∃ k : Nat, k ≤ l.length ∧ iv = .int .i64 (k : Int) ∧ CP w0 cb u0 u1 (lkd f l k) [] fl wr P F S vp vf

set_option maxRecDepth 100000 in
set_option maxHeartbeats 8000000 in
theorem link_any (w0 : World) (cb : Nat) (u0 u1 : Value) (l : List IC) (fl : List Int) (f : Int → Int) (w : World) (h : CS w0 cb u0 u1 l [] fl w) (hl0 : 0 < l.length) (hl : l.length ≤ 200000) (hfl : fl.length ≤ 200000)
    (hto : ∀ (i : Nat) (x : IC), l[i]? = some x → x.d.kind = 6 ∨ x.d.kind = 8 → ∃ n : Nat, x.d.to = (n : Int) ∧ fl[n]? = some (f x.d.to)) :
    Calls Try.prog 87 #[.pointer (some ⟨cb, 0, none⟩)] w fun e w' => (∃ v, e = .returned v) ∧ CS w0 cb u0 u1 (l.map (lkI f)) [] fl w' := by
  obtain ⟨P, F, S, vp, vf, h⟩ := h
  obtain ⟨g, cap, rfl, hcap⟩ : ∃ g cap, vp = .slice (some ⟨g, 0, none⟩) l.length cap ∧ l.length ≤ cap := by
    rcases h.own with ⟨_, q, _⟩ | ⟨g, cap, e, hq, h3, h4, h5, h6⟩
    · omega
    · exact ⟨g, cap, e, h4⟩
  have HTO : Hid (∀ (i : Nat) (x : IC), l[i]? = some x → x.d.kind = 6 ∨ x.d.kind = 8 → ∃ n : Nat, x.d.to = (n : Int) ∧ fl[n]? = some (f x.d.to)) := hto
  have HP : Hid (CP w0 cb u0 u1 (lkd f l 0) [] fl w P F S (.slice (some ⟨g, 0, none⟩) l.length cap) vf) := by show CP _ _ _ _ _ _ _ _ _ _ _ _ _; rw [lkd_zero]; exact h
  have p2 := h.p
  have lcb := h.cb0.2
  clear h hto
  go_enter Try.func87, Try.ntmps87
  go_wp2
  go_loopw [9] (fun iv wr => lnI w0 cb u0 u1 l fl f P F S (.slice (some ⟨g, 0, none⟩) l.length cap) vf iv wr) (fun iv _ => l.length - (intOf iv).toNat)
  case atStart => exact ⟨0, Nat.zero_le _, rfl, HP.out⟩
  case round =>
    clear p2
    obtain ⟨k, hk, rfl, hC⟩ := hrel
    have HC : Hid (CP w0 cb u0 u1 (lkd f l k) [] fl wr P F S (.slice (some ⟨g, 0, none⟩) l.length cap) vf) := hC
    by_cases hlt : k < l.length
    · obtain ⟨x, hx⟩ : ∃ x, l[k]? = some x := ⟨l[k], List.getElem?_eq_getElem hlt⟩
      have hgx := lkd_get (f := f) hx
      have hrow : ∀ j, j < 4 → wr.cell? ⟨g, k * 4 + j, none⟩ = (icv x)[j]? ∧ wr.frozen? ⟨g, k * 4 + j, none⟩ = false := fun j hj => by
        rcases hC.own with ⟨q, _⟩ | ⟨g', cap', q, hq, h3, h4, h5, h6⟩
        · cases q
        · obtain ⟨rfl, rfl⟩ : g = g' ∧ cap = cap' := by
            injection q with e1 e2 e3
            injection e1 with e1
            injection e1 with e1
            exact ⟨e1, e3⟩
          have hlen := cellsI_len (lkd f l k)
          rw [lkd_len] at hlen
          exact ⟨by rw [h5 _ (by rw [hlen]; omega)]; exact cellsI_get _ k j x hgx hj, (h6 _ (by omega)).2⟩
      have c0 : wr.cell? ⟨g, k * 4, none⟩ = some (.int .i64 x.d.kind) := (hrow 0 (by omega)).1
      have c1 : wr.cell? ⟨g, k * 4 + 1, none⟩ = some (.int .i64 x.d.arg) := (hrow 1 (by omega)).1
      have c2 : wr.cell? ⟨g, k * 4 + 2, none⟩ = some (.int .i64 x.d.to) := (hrow 2 (by omega)).1
      have c3 : wr.cell? ⟨g, k * 4 + 3, none⟩ = some (.slice x.a x.d.sl x.c) := (hrow 3 (by omega)).1
      have cf := (hrow 2 (by omega)).2
      have lg := lt_of_cell c0
      have q2 := hC.p
      have q3 := hC.f
      have lcb2 := hC.cb0.2
      have HX : Hid (l[k]? = some x) := hx
      have HSU : Hid (lkd f l (k + 1) = (lkd f l k).set k (lkI f x)) := lkd_succ hx
      have HGX : Hid ((lkd f l k)[k]? = some x) := hgx
      have hk' : (k : Int) < (l.length : Int) := by omega
      clear hrow hgx hx
      by_cases e68 : x.d.kind = 6 ∨ x.d.kind = 8
      · obtain ⟨n, hn, hfn⟩ := HTO.out k x HX.out e68
        have hnl : n < fl.length := (List.getElem?_eq_some_iff.1 hfn).1
        obtain ⟨fg, fcap, rfl, hfc⟩ : ∃ fg fcap, vf = .slice (some ⟨fg, 0, none⟩) fl.length fcap ∧ wr.cell? ⟨fg, n, none⟩ = some (.int .i64 (f x.d.to)) := by
          rcases hC.ownf with ⟨_, q, _⟩ | ⟨fg, fcap, e, hq, h3, h4, h5, h6⟩
          · omega
          · refine ⟨fg, fcap, e, ?_⟩
            rw [h5 n (by rw [intsV_len]; exact hnl)]
            unfold intsV
            rw [List.getElem?_map, hfn]
            rfl
        have HTU : Hid (lkI f x = toI x (f x.d.to)) := lkI_turn e68
        have lfg := lt_of_cell hfc
        rw [hn] at c2 hfc HTU
        have hn' : (n : Int) < (fl.length : Int) := by omega
        have HAIM : Hid (∀ t : Int, CP w0 cb u0 u1 ((lkd f l k).set k (toI x t)) [] fl ((wr.setCell ⟨g, k * 4 + 2, none⟩ (.int .i64 t)).alloc (.cells #[.int .i64 x.d.kind, .int .i64 x.d.arg, .int .i64 (n : Int), .slice x.a x.d.sl x.c] 118)).drew P F S (.slice (some ⟨g, 0, none⟩) l.length cap) (.slice (some ⟨fg, 0, none⟩) fl.length fcap)) := fun t => (HC.out.aim HGX.out).later (bel1 _ _).drew
        clear hC hfn hn
        generalize f (n : Int) = fv at *
        by_cases e6 : x.d.kind = 6
        · have f6 : (x.d.kind == 6) = true := by simp [e6]
          clear e6 e68
          go_wp2
          go_region
          all_goals go_wp2
          all_goals go_roundw
          all_goals first
            | exact ⟨k + 1, by omega, by go_num, by rw [HSU.out, HTU.out]; exact HAIM.out fv⟩
            | (simp [intOf]; omega)
        · have f6 : (x.d.kind == 6) = false := by simp [e6]
          have f8 : (x.d.kind == 8) = true := by simp; omega
          clear e6 e68
          go_wp2
          go_region
          all_goals go_wp2
          all_goals go_roundw
          all_goals first
            | exact ⟨k + 1, by omega, by go_num, by rw [HSU.out, HTU.out]; exact HAIM.out fv⟩
            | (simp [intOf]; omega)
      · have f6 : (x.d.kind == 6) = false := by simp; omega
        have f8 : (x.d.kind == 8) = false := by simp; omega
        have HSA : Hid (lkd f l (k + 1) = lkd f l k) := by
          show _ = _
          rw [HSU.out, lkI_same e68]
          obtain ⟨hk2, hk3⟩ := List.getElem?_eq_some_iff.1 HGX.out
          rw [← hk3]
          exact List.set_getElem_self hk2
        clear hC e68
        go_wp2
        go_roundw
        case rel => exact ⟨k + 1, by omega, by go_num, by rw [HSA.out]; exact HC.out.later (bel1 wr _)⟩
        case measure => simp [intOf]; omega
    · obtain rfl : k = l.length := by omega
      clear hC
      go_wp2
      go_end0
      exact ⟨⟨_, rfl⟩, _, _, _, _, _, by rw [← lkd_full]; exact HC.out⟩

end Go.Proofs.Ytjndcajblpgjmaa
