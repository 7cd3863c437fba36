/-
  Lists of instructions, held against one another; the specification's Compile. Marks and what is held: instructions that own their memory.
-/
import Derived.Test.YtjndcajblpgjmaaCComp
import Derived.Test.YtjndcajblpgjmaaSame
namespace Go.Proofs.Ytjndcajblpgjmaa
open Go.RowKit
open M (OpD NodeD Gr InsD EX ins emit wsum lk)
set_option linter.unusedVariables false
set_option linter.unusedSimpArgs false

/-! ### The sets of a program are short -/
namespace M
def EX.SetLe (m : Nat) : EX → Prop
  | .empty => True
  | .set n _ => n ≤ m
  | .ref _ => True
  | .thr _ _ => True
  | .seq x y => x.SetLe m ∧ y.SetLe m
  | .alt x y => x.SetLe m ∧ y.SetLe m
  | .star x => x.SetLe m
  | .not x => x.SetLe m
theorem node_setLe {nr m : Nat} {o : OpD} (ho : o.sl ≤ m) {x y : EX} (hx : x.SetLe m) (hy : y.SetLe m) : (nodeE nr o x y).SetLe m := by
  unfold nodeE
  repeat' split
  all_goals first | exact ho | exact ⟨hx, hy⟩ | exact hx | trivial
theorem stk_setLe {nr m : Nat} (B : Nat → OpD) (n : Nat) (hB : ∀ i, i < n → (B i).sl ≤ m) : ∀ p, p ∈ stk (nodeE nr) B n → p.2.SetLe m := by
  induction n with
  | zero => intro p hp; simp [stk] at hp
  | succ n ih =>
    have ih' := ih (fun i hi => hB i (by omega))
    have ho := hB n (by omega)
    have hd : (default : EX).SetLe m := trivial
    rw [stk]
    generalize stk (nodeE nr) B n = l at *
    intro p hp
    unfold stp at hp
    split at hp
    · match l, ih', hp with
      | [], _, hp => simp at hp
      | [_], _, hp => simp at hp
      | (s2, y) :: (s1, x) :: r, ih', hp =>
        rcases List.mem_cons.1 hp with rfl | hp
        · exact node_setLe ho (ih' (s1, x) (by simp)) (ih' (s2, y) (by simp))
        · exact ih' p (by simp [hp])
    · split at hp
      · match l, ih', hp with
        | [], _, hp => simp at hp
        | (s1, x) :: r, ih', hp =>
          rcases List.mem_cons.1 hp with rfl | hp
          · exact node_setLe ho (ih' (s1, x) (by simp)) hd
          · exact ih' p (by simp [hp])
      · rcases List.mem_cons.1 hp with rfl | hp
        · exact node_setLe ho hd hd
        · exact ih' p hp
theorem tree_setLe {nr m n : Nat} {B : Nat → OpD} (hB : ∀ i, i < n → (B i).sl ≤ m) : (treeE nr n B).SetLe m := by
  unfold treeE
  have := stk_setLe (nr := nr) B n hB
  generalize stk (nodeE nr) B n = l at *
  match l, this with
  | [], _ => trivial
  | (s, t) :: r, h => exact h (s, t) (by simp)
theorem emit_setLe (r : Nat → Int) (m : Nat) (t : EX) (ht : t.SetLe m) : ∀ p d, d ∈ emit r t p → d.sl ≤ m := by
  have hin : ∀ k a z : Int, (ins k a z).sl ≤ m := fun k a z => Nat.zero_le _
  induction t with
  | empty => intro p d hd; simp [emit] at hd
  | set n S => intro p d hd; simp [emit] at hd; subst hd; exact ht
  | ref n => intro p d hd; simp [emit] at hd; subst hd; exact hin _ _ _
  | thr l n => intro p d hd; simp [emit] at hd; subst hd; exact hin _ _ _
  | seq x y ihx ihy =>
    intro p d hd
    rw [emit] at hd
    rcases List.mem_append.1 hd with q | q
    · exact ihx ht.1 _ d q
    · exact ihy ht.2 _ d q
  | alt x y ihx ihy =>
    intro p d hd
    rw [emit] at hd
    rcases List.mem_cons.1 hd with rfl | q
    · exact hin _ _ _
    · rcases List.mem_append.1 q with q | q
      · exact ihx ht.1 _ d q
      · rcases List.mem_cons.1 q with rfl | q
        · exact hin _ _ _
        · exact ihy ht.2 _ d q
  | star x ih =>
    intro p d hd
    rw [emit] at hd
    rcases List.mem_cons.1 hd with rfl | q
    · exact hin _ _ _
    · rcases List.mem_append.1 q with q | q
      · exact ih ht _ d q
      · simp at q; subst q; exact hin _ _ _
  | not x ih =>
    intro p d hd
    rw [emit] at hd
    rcases List.mem_cons.1 hd with rfl | q
    · exact hin _ _ _
    · rcases List.mem_append.1 q with q | q
      · exact ih ht _ d q
      · simp at q; subst q; exact hin _ _ _
end M

theorem nd_small {g : Gr} (hs : SmallG g) {p : Nat} (hp : p < g.nr + g.nb) : ∀ i, i < (nd g p).bl → ((nd g p).body i).sl ≤ 1048576 := by
  by_cases e : p < g.nr
  · rw [nd_rule g e]; exact (hs.rule p e).body.2
  · rw [show p = g.nr + (p - g.nr) by omega, nd_lab]; exact (hs.lab _ (by omega)).body.2
theorem progG_setLe {g : Gr} (hs : SmallG g) (k : Nat) (hk : k ≤ g.nr + g.nb) : ∀ d, d ∈ progG g k → d.sl ≤ 1048576 := by
  have hin : ∀ k a z : Int, (ins k a z).sl ≤ 1048576 := fun k a z => Nat.zero_le _
  induction k with
  | zero =>
    intro d hd
    have hd' : d = ins 6 0 (plc g 0) ∨ d = ins 12 0 0 := by simpa [progG, M.progC] using hd
    rcases hd' with rfl | rfl <;> exact hin _ _ _
  | succ k ih =>
    intro d hd
    by_cases h : 0 < (nd g k).bl
    · rw [progG_succ g k h] at hd
      simp only [List.mem_append, List.mem_singleton] at hd
      rcases hd with (((q | q) | q) | q) | q
      · exact ih (by omega) d q
      · subst q
        unfold opG
        split <;> exact hin _ _ _
      · exact M.emit_setLe _ _ _ (M.tree_setLe (nd_small hs (by omega))) _ d q
      · subst q; exact hin _ _ _
      · subst q; exact hin _ _ _
    · rw [progG_skip g k h] at hd
      exact ih (by omega) d hd

/-! ### Rows of instructions -/
def InsC (Q : Nat → Prop) (w : World) (b o : Nat) (d : InsD) : Prop :=
  w.cell? ⟨b, o, none⟩ = some (.int .i64 d.kind) ∧ w.cell? ⟨b, o + 1, none⟩ = some (.int .i64 d.arg) ∧ w.cell? ⟨b, o + 2, none⟩ = some (.int .i64 d.to) ∧
    ∃ sa sc, w.cell? ⟨b, o + 3, none⟩ = some (.slice sa d.sl sc) ∧ Ints Q .i64 w sa d.sl d.set
def InsA (Q : Nat → Prop) (w : World) (a : Option Addr) (n : Nat) (R : Nat → InsD) : Prop :=
  n = 0 ∨ ∃ b off, a = some ⟨b, off, none⟩ ∧ Q b ∧ ∀ i, i < n → InsC Q w b (off + i * 4) (R i)
theorem InsA.on {Q : Nat → Prop} {w w' : World} {a : Option Addr} {n : Nat} {R : Nat → InsD} (h : InsA Q w a n R) (k : Stay Q w w') : InsA Q w' a n R := by
  rcases h with h | ⟨b, off, e, hq, h⟩
  · exact .inl h
  · have hc : ∀ o, w'.cell? ⟨b, o, none⟩ = w.cell? ⟨b, o, none⟩ := fun o => World.cell?_of_block (a := ⟨b, o, none⟩) (k b hq)
    refine .inr ⟨b, off, e, hq, fun i hi => ?_⟩
    obtain ⟨h0, h1, h2, sa, sc, h3, h4⟩ := h i hi
    exact ⟨(hc _).trans h0, (hc _).trans h1, (hc _).trans h2, sa, sc, (hc _).trans h3, h4.on k⟩
theorem InsA.later {Q : Nat → Prop} {w w' : World} {a : Option Addr} {n : Nat} {R : Nat → InsD} (h : InsA Q w a n R) (k : Below w.heap.size w w') : InsA Q w' a n R := by
  rcases h with h | ⟨b, off, e, hq, h⟩
  · exact .inl h
  · refine .inr ⟨b, off, e, hq, fun i hi => ?_⟩
    obtain ⟨h0, h1, h2, sa, sc, h3, h4⟩ := h i hi
    exact ⟨cell_on h0 k, cell_on h1 k, cell_on h2 k, sa, sc, cell_on h3 k, h4.later k⟩
theorem InsA.wide {Q Q' : Nat → Prop} {w : World} {a : Option Addr} {n : Nat} {R : Nat → InsD} (h : InsA Q w a n R) (k : ∀ b, Q b → Q' b) : InsA Q' w a n R := by
  rcases h with h | ⟨b, off, e, hq, h⟩
  · exact .inl h
  · refine .inr ⟨b, off, e, k b hq, fun i hi => ?_⟩
    obtain ⟨h0, h1, h2, sa, sc, h3, h4⟩ := h i hi
    exact ⟨h0, h1, h2, sa, sc, h3, h4.wide k⟩

/-- The data of a list. -/
def dat (l : List InsD) (i : Nat) : InsD := (l[i]?).getD (ins 0 0 0)
theorem dat_get {L : List IC} {i : Nat} (h : i < L.length) : dat (L.map IC.d) i = L[i].d := by simp [dat, h]
theorem cells_at {Q : Nat → Prop} {w : World} {g : Nat} {L : List IC} (hcell : ∀ j, j < (cellsI L).length → w.cell? ⟨g, j, none⟩ = (cellsI L)[j]?) {i : Nat} (hi : i < L.length) :
    w.cell? ⟨g, i * 4, none⟩ = some (.int .i64 (dat (L.map IC.d) i).kind) ∧ w.cell? ⟨g, i * 4 + 1, none⟩ = some (.int .i64 (dat (L.map IC.d) i).arg) ∧ w.cell? ⟨g, i * 4 + 2, none⟩ = some (.int .i64 (dat (L.map IC.d) i).to) ∧ w.cell? ⟨g, i * 4 + 3, none⟩ = some (.slice L[i].a (dat (L.map IC.d) i).sl L[i].c) := by
  have hx : L[i]? = some L[i] := List.getElem?_eq_getElem hi
  have hl := cellsI_len L
  have hg : ∀ j, j < 4 → w.cell? ⟨g, i * 4 + j, none⟩ = (icv L[i])[j]? := fun j hj => by
    rw [hcell _ (by rw [hl]; omega), cellsI_get L i j _ hx hj]
  rw [dat_get hi]
  exact ⟨hg 0 (by omega), hg 1 (by omega), hg 2 (by omega), hg 3 (by omega)⟩
theorem insA_of {P S Q : Nat → Prop} {w : World} {a : Option Addr} {c : Nat} {L : List IC} (own : OwnC P w (.slice a L.length c) 4 L.length (cellsI L)) (sets : SetsA S w L) (hP : ∀ b, P b → Q b) (hS : ∀ b, S b → Q b) : InsA Q w a L.length (dat (L.map IC.d)) := by
  rcases own with ⟨_, e, _⟩ | ⟨g, cap, e, hq, hl, hc, hcell, hw⟩
  · exact .inl e
  · obtain rfl : a = some ⟨g, 0, none⟩ := by injection e
    refine .inr ⟨g, 0, rfl, hP g hq, fun i hi => ?_⟩
    obtain ⟨h0, h1, h2, h3⟩ := cells_at (Q := Q) hcell hi
    rw [Nat.zero_add]
    refine ⟨h0, h1, h2, _, _, h3, ?_⟩
    rw [dat_get hi]
    exact (sets L[i] (List.getElem_mem hi)).wide hS

/-! ### The same is told to be the same -/
set_option maxHeartbeats 1000000 in
theorem eqIns_same (Q Q' : Nat → Prop) (a a' : Option Addr) (c c' : Nat) (d : InsD) (w : World) (h1 : Ints Q .i64 w a d.sl d.set) (h2 : Ints Q' .i64 w a' d.sl d.set) (hn : d.sl ≤ 1048576) :
    Calls Try.prog 88 #[.agg #[.int .i64 d.kind, .int .i64 d.arg, .int .i64 d.to, .slice a d.sl c], .agg #[.int .i64 d.kind, .int .i64 d.arg, .int .i64 d.to, .slice a' d.sl c']] w (SaysB True w) := by
  have t1 := ine d.kind
  have t2 := ine d.arg
  have t3 := ine d.to
  have H1 : Hid (∀ o p, Ints Q .i64 ((w.alloc o).alloc p) a d.sl d.set) := fun o p => h1.later (bel2 w o p)
  have H2 : Hid (∀ o p, Ints Q' .i64 ((w.alloc o).alloc p) a' d.sl d.set) := fun o p => h2.later (bel2 w o p)
  clear h1 h2
  go_enter Try.func88, Try.ntmps88
  go_wp2_with (go_at_call 100; refine (eqIntS_same Q Q' a a' d.sl c c' d.set _ (H1.out _ _) (H2.out _ _) hn).mono ?_; rintro e W ⟨⟨r, rfl, hr⟩, hb⟩; obtain rfl : r = true := hr.2 trivial; have HB : Hid _ := hb; clear hr hb)
  go_ret
  exact ⟨⟨true, rfl, iffT trivial⟩, bel_tr (bel2 w _ _) HB.out⟩

set_option maxHeartbeats 2000000 in
theorem eqInsS_same (Q Q' : Nat → Prop) (a a' : Option Addr) (n c c' : Nat) (R : Nat → InsD) (w : World) (h1 : InsA Q w a n R) (h2 : InsA Q' w a' n R) (hn : n ≤ 1048576) (hs : ∀ i, i < n → (R i).sl ≤ 1048576) :
    Calls Try.prog 37 #[.slice a n c, .slice a' n c'] w (SaysB True w) := by
  have ht := nne n
  have H1 : Hid (InsA Q w a n R) := h1
  have H2 : Hid (InsA Q' w a' n R) := h2
  have HSL : Hid (∀ i, i < n → (R i).sl ≤ 1048576) := hs
  clear h1 h2 hs
  go_enter Try.func37, Try.ntmps37
  go_wp2
  go_loopw [5] (fun i wr => ∃ k : Nat, k ≤ n ∧ i = .int .i64 k ∧ Below w.heap.size w wr) (fun i _ => n - (intOf i).toNat)
  case atStart => exact ⟨0, Nat.zero_le _, rfl, Below.refl _ _⟩
  case round =>
    obtain ⟨k, hk, rfl, hbel⟩ := hrel
    by_cases hlt : k < n
    · have h1 := H1.out.later hbel
      rcases h1 with h0 | ⟨b, off, rfl, hq, h1⟩
      · omega
      have h2 := H2.out.later hbel
      rcases h2 with h0 | ⟨b', off', rfl, hq', h2⟩
      · omega
      obtain ⟨c0, c1, c2, sa, sc, c3, hs1⟩ := h1 k hlt
      obtain ⟨e0, e1, e2, sa', sc', e3, hs2⟩ := h2 k hlt
      have HS1 : Hid (Ints Q .i64 wr sa (R k).sl (R k).set) := hs1
      have HS2 : Hid (Ints Q' .i64 wr sa' (R k).sl (R k).set) := hs2
      have hlt' : (k : Int) < (n : Int) := by omega
      have HBE : Hid (Below w.heap.size w wr) := hbel
      obtain ⟨ι, hne, F, hF, hF'⟩ := family wr
      have f0 : ∀ n, (F n).cell? ⟨b, off + k * 4, none⟩ = some (.int .i64 (R k).kind) := fun n => cell_on c0 (hF n)
      have g0 : ∀ n, (F n).cell? ⟨b', off' + k * 4, none⟩ = some (.int .i64 (R k).kind) := fun n => cell_on e0 (hF n)
      have f1 : ∀ n, (F n).cell? ⟨b, off + k * 4 + 1, none⟩ = some (.int .i64 (R k).arg) := fun n => cell_on c1 (hF n)
      have g1 : ∀ n, (F n).cell? ⟨b', off' + k * 4 + 1, none⟩ = some (.int .i64 (R k).arg) := fun n => cell_on e1 (hF n)
      have f2 : ∀ n, (F n).cell? ⟨b, off + k * 4 + 2, none⟩ = some (.int .i64 (R k).to) := fun n => cell_on c2 (hF n)
      have g2 : ∀ n, (F n).cell? ⟨b', off' + k * 4 + 2, none⟩ = some (.int .i64 (R k).to) := fun n => cell_on e2 (hF n)
      have f3 : ∀ n, (F n).cell? ⟨b, off + k * 4 + 3, none⟩ = some (.slice sa (R k).sl sc) := fun n => cell_on c3 (hF n)
      have g3 : ∀ n, (F n).cell? ⟨b', off' + k * 4 + 3, none⟩ = some (.slice sa' (R k).sl sc') := fun n => cell_on e3 (hF n)
      have HC : Hid (∃ n, wr.drew = F n) := hF' _ (Below.refl _ wr).drew
      have HF : Hid (∀ n, Below wr.heap.size wr (F n)) := hF
      have HF' : Hid (∀ W, Below wr.heap.size wr W → ∃ n, W = F n) := hF'
      clear hF hF' h1 h2 hbel hs1 hs2
      go_wp2_with fail
      refine region_family F (by kernel_rfl) (by kernel_rfl) HC.out ?_
      repeat (go_big_quiet_step (first | (go_at_call 88; exact says_in (HF.out _) HF'.out (iffT trivial) (eqIns_same Q Q' sa sa' sc sc' (R k) _ (HS1.out.later (HF.out _)) (HS2.out.later (HF.out _)) (HSL.out k hlt)))))
      refine wpQuiet_nil ?_
      rintro _ ⟨nq, rfl⟩
      go_wp2
      go_roundw
      case rel => exact ⟨k + 1, by omega, by go_num, bel_tr HBE.out (HF.out nq)⟩
      case measure => simp [intOf]; omega
    · obtain rfl : k = n := by omega
      go_wp2
      go_ret
      exact ⟨⟨true, rfl, iffT trivial⟩, hbel⟩

/-! ### What Compile answers -/
def ProgIs (g : Gr) (n : Nat) (z : Int) (R : Nat → InsD) : Prop :=
  (M.Valid g ∧ n = PL g (g.nr + g.nb) ∧ z = 0 ∧ R = dat (progG g (g.nr + g.nb))) ∨ (¬ M.Valid g ∧ n = 0 ∧ z = 4 ∧ R = fun _ => ins 0 0 0)
theorem prog_some (g : Gr) : ∃ n z R, ProgIs g n z R := by
  by_cases h : M.Valid g
  · exact ⟨_, _, _, .inl ⟨h, rfl, rfl, rfl⟩⟩
  · exact ⟨_, _, _, .inr ⟨h, rfl, rfl, rfl⟩⟩
theorem ProgIs.small {g : Gr} {n : Nat} {z : Int} {R : Nat → InsD} (h : ProgIs g n z R) (hs : SmallG g) : n ≤ 5000 ∧ ∀ i, i < n → (R i).sl ≤ 1048576 := by
  rcases h with ⟨hV, rfl, rfl, rfl⟩ | ⟨_, rfl, rfl, rfl⟩
  · refine ⟨PL_small hV _ (Nat.le_refl _), fun i hi => ?_⟩
    have hl : i < (progG g (g.nr + g.nb)).length := by rw [progG_len]; exact hi
    have e : dat (progG g (g.nr + g.nb)) i = (progG g (g.nr + g.nb))[i] := by simp [dat, hl]
    rw [e]
    exact progG_setLe hs _ (Nat.le_refl _) _ (List.getElem_mem hl)
  · exact ⟨by omega, fun i hi => by omega⟩

def SCompIs (n : Nat) (z : Int) (R : Nat → InsD) (w : World) (e : Ending) (w' : World) : Prop :=
  ∃ a c, e = .returned (.tuple #[.slice a n c, .int .i64 z]) ∧ InsA (New w w') w' a n R ∧ Below w.heap.size w w'

set_option maxRecDepth 100000 in
set_option maxHeartbeats 4000000 in
theorem scompile_any (Q : Nat → Prop) (ra la : Option Addr) (rc lc : Nat) (g : Gr) (n : Nat) (z : Int) (R : Nat → InsD) (w : World) (hG : GramX Q w ra la g) (hs : SmallG g) (hp : ProgIs g n z R) :
    Calls Try.prog 35 #[.agg #[.slice ra g.nr rc, .slice la g.nb lc]] w (SCompIs n z R w) := by
  have HG : Hid (GramX Q w ra la g) := hG
  have HS : Hid (SmallG g) := hs
  have HP : Hid (ProgIs g n z R) := hp
  clear hG hs hp
  go_enter Try.func35, Try.ntmps35
  go_wp2_with fail
  refine (svalid_any Q ra la rc lc g _ (HG.out.later (bel1 w _)).plain HS.out).mono ?_
  rintro e W1 ⟨⟨r, rfl, hr⟩, hb⟩
  have g0 := cell_on (a := ⟨w.heap.size, 0, none⟩) (v := .slice ra g.nr rc) (cN w.heap.size rfl rfl) hb
  have g1 := cell_on (a := ⟨w.heap.size, 1, none⟩) (v := .slice la g.nb lc) (cN w.heap.size rfl rfl) hb
  have B1 : Hid (Below w.heap.size w W1) := bel_tr (bel1 w _) hb
  have hw1 : w.heap.size < W1.heap.size := lt_of_cell g0
  clear hb
  cases r with
  | false =>
    have HV : Hid (¬ M.Valid g) := fun q => absurd (hr.2 q) (by decide)
    clear hr
    go_wp2
    refine bodyPost_ret (by simp [results, Try.f35, go_sem]; rfl) rfl ?_
    rcases HP.out with ⟨q, _⟩ | ⟨_, rfl, rfl, rfl⟩
    · exact absurd q HV.out
    · exact ⟨none, 0, rfl, .inl rfl, B1.out⟩
  | true =>
    have HV : Hid (M.Valid g) := hr.1 rfl
    clear hr
    go_wp2_with fail
    refine (l4compile_any Q ra la rc lc g HV.out _ (HG.out.later B1.out)).mono ?_
    rintro e W2 ⟨a2, n2, c2, L, rfl, HN, HM, HR⟩
    go_wp2
    refine bodyPost_ret (by simp [results, Try.f35, go_sem]; rfl) rfl ?_
    rcases HP.out with ⟨_, rfl, rfl, rfl⟩ | ⟨q, _⟩
    · have hn : n2 = PL g (g.nr + g.nb) := by rw [HN.out, ← progG_len, ← HM.out, List.length_map]
      have hR := HR.out
      have hbb := bel_tr B1.out hR.bel
      obtain ⟨P, S, h⟩ := hR
      refine ⟨a2, c2, by rw [hn], ?_, hbb⟩
      have hN := HN.out
      subst hN
      have hb1 := B1.out.size
      have := insA_of (Q := New w W2) h.own h.sets (fun b hb => ⟨by have := h.p b hb; omega, (h.p b hb).2.1⟩) (fun b hb => ⟨by have := h.s b hb; omega, (h.s b hb).2⟩)
      rw [HM.out, hn] at this
      exact this
    · exact absurd HV.out q


/-! ### Marks and what is held -/
/-- The numbers from k on. -/
def from_ (k : Int) : Nat → Int := fun i => k + i
def mxI (Q : Nat → Prop) (w : World) (a : Option Addr) (n : Nat) (k : Int) (kv i : Value) (wr : World) : Prop :=
  ∃ m : Nat, m ≤ n ∧ kv = .int .i64 (k + m) ∧ i = .int .i64 (m : Int) ∧ Wrote Q w wr ∧ Ints Q .i64 wr a m (from_ k)
/-- What a mark answers: the next number, and the numbers lie there. -/
structure MarkX (A : World → Prop) (Q : Nat → Prop) (k' : Int) (w : World) (e : Ending) (w' : World) : Prop where
  val : e = .returned (.int .i64 k')
  lies : A w'
  wrote : Wrote Q w w'
theorem mx_snoc {Q : Nat → Prop} {wr : World} {b off m : Nat} {k : Int} {u : Value} (h : Ints Q .i64 wr (some ⟨b, off, none⟩) m (from_ k)) (hq : Q b) (hc : wr.cell? ⟨b, off + m, none⟩ = some u) :
    Ints Q .i64 (wr.setCell ⟨b, off + m, none⟩ (.int .i64 (k + m))) (some ⟨b, off, none⟩) (m + 1) (from_ k) := by
  refine .inr ⟨b, off, rfl, hq, fun i hi => ?_⟩
  by_cases e : i = m
  · subst e; exact World.cell?_setCell_same _ _ _ hc
  · rw [World.cell?_setCell_other _ _ _ _ (fun q => e (by injection q with _ q; omega))]
    rcases h with h | ⟨b', off', e', _, h⟩
    · omega
    · cases e'
      exact h i (by omega)

set_option maxHeartbeats 1000000 in
theorem markIntS_exact (Q : Nat → Prop) (a : Option Addr) (n c : Nat) (S : Nat → Int) (k : Int) (w : World) (hS : Ints Q .i64 w a n S) (hf : SoftQ Q w) (hn : n ≤ 1048576) (h0 : 0 ≤ k) (h1 : k ≤ 4611686018427387904 + 1099513724928) :
    Calls Try.prog 89 #[.slice a n c, .int .i64 k] w (MarkX (fun w' => Ints Q .i64 w' a n (from_ k)) Q (k + n) w) := by
  have HS : Hid (Ints Q .i64 w a n S) := hS
  have HF : Hid (SoftQ Q w) := hf
  clear hS hf
  go_enter Try.func89, Try.ntmps89
  go_wp2
  go_loopw [1, 5] (fun kv i wr => mxI Q w a n k kv i wr) (fun kv i _ => n - (intOf i).toNat)
  case atStart => exact ⟨0, Nat.zero_le _, by simp, rfl, Wrote.refl _ _, .inl rfl⟩
  case round =>
    obtain ⟨m, hm, rfl, rfl, hw, hI⟩ := hrel
    by_cases hlt : m < n
    · obtain ⟨S', hS'⟩ := HS.out.wrote hw
      rcases hS' with h0 | ⟨b, off, rfl, hq, hS'⟩
      · omega
      have hc := hS' m hlt
      have hfz := (HF.out.on hw) b (off + m) hq
      have HW : Hid (Wrote Q w (wr.setCell ⟨b, off + m, none⟩ (.int .i64 (k + m)))) := hw.trans (Wrote.setInt hq hc (k + m))
      have HI : Hid (Ints Q .i64 (wr.setCell ⟨b, off + m, none⟩ (.int .i64 (k + m))) (some ⟨b, off, none⟩) (m + 1) (from_ k)) := mx_snoc hI hq hc
      clear hw hS' hI
      go_wp2
      go_roundw
      case rel => exact ⟨m + 1, by omega, by congr 1; omega, by go_num, HW.out, HI.out⟩
      case measure => simp [intOf]; omega
    · obtain rfl : m = n := by omega
      go_wp2
      go_ret
      exact ⟨rfl, hI, hw⟩

def hoI (w : World) (n : Nat) (f : Nat → Int) (kv i : Value) (wr : World) : Prop :=
  ∃ m : Nat, m ≤ n ∧ kv = .int .i64 (f m) ∧ i = .int .i64 (m : Int) ∧ wr = w
def HeldIs (k : Int) (w : World) (e : Ending) (w' : World) : Prop := e = .returned (.int .i64 k) ∧ w' = w

set_option maxHeartbeats 1000000 in
theorem heldIntS_any (Q : Nat → Prop) (a : Option Addr) (n c : Nat) (k : Int) (w : World) (hS : Ints Q .i64 w a n (from_ k)) (hn : n ≤ 1048576) (h0 : 0 ≤ k) (h1 : k ≤ 4611686018427387904 + 1099513724928) :
    Calls Try.prog 90 #[.slice a n c, .int .i64 k] w (HeldIs (k + n) w) := by
  have HS : Hid (Ints Q .i64 w a n (from_ k)) := hS
  clear hS
  go_enter Try.func90, Try.ntmps90
  go_wp2
  go_loopw [1, 5] (fun kv i wr => hoI w n (fun m => k + m) kv i wr) (fun kv i _ => n - (intOf i).toNat)
  case atStart => exact ⟨0, Nat.zero_le _, by simp, rfl, rfl⟩
  case round =>
    obtain ⟨m, hm, rfl, rfl, hw⟩ := hrel
    subst wr
    by_cases hlt : m < n
    · have hS' := HS.out
      rcases hS' with h0 | ⟨b, off, rfl, hq, hS'⟩
      · omega
      have hc : w.cell? ⟨b, off + m, none⟩ = some (.int .i64 (k + m)) := hS' m hlt
      clear hS'
      go_wp2
      go_roundw
      case rel => exact ⟨m + 1, by omega, by congr 1; show _ = k + ((m + 1 : Nat) : Int); omega, by go_num, rfl⟩
      case measure => simp [intOf]; omega
    · obtain rfl : m = n := by omega
      go_wp2
      go_ret
      exact ⟨rfl, rfl⟩

/-! ### Instructions -/
def cI (R : Nat → InsD) : Nat → Nat
  | 0 => 0
  | i + 1 => cI R i + (3 + (R i).sl)
theorem cI_le (R : Nat → InsD) (n : Nat) (h : ∀ i, i < n → (R i).sl ≤ 1048576) : ∀ m, m ≤ n → cI R m ≤ m * 1048579 := by
  intro m
  induction m with
  | zero => intro _; exact Nat.le_refl _
  | succ m ih =>
    intro hm
    have h1 := ih (by omega)
    have h2 := h m (by omega)
    rw [cI]
    omega
def mkIn (k : Int) (R : Nat → InsD) (i : Nat) : InsD := ⟨k + cI R i, k + cI R i + 1, k + cI R i + 1 + 1, (R i).sl, from_ (k + cI R i + 1 + 1 + 1)⟩

def InsX (Q : Nat → Prop) (w : World) (b o : Nat) (sa : Option Addr) (sc : Nat) (d : InsD) : Prop :=
  w.cell? ⟨b, o, none⟩ = some (.int .i64 d.kind) ∧ w.cell? ⟨b, o + 1, none⟩ = some (.int .i64 d.arg) ∧ w.cell? ⟨b, o + 2, none⟩ = some (.int .i64 d.to) ∧ w.cell? ⟨b, o + 3, none⟩ = some (.slice sa d.sl sc) ∧ Ints Q .i64 w sa d.sl d.set
/-- A list whose parts lie apart and may be written. -/
def Apart (Q : Nat → Prop) (w : World) (a : Option Addr) (n : Nat) (R : Nat → InsD) : Prop :=
  n = 0 ∨ ∃ (b : Nat) (sa : Nat → Option Addr) (sc : Nat → Nat) (Bk : Nat → Nat → Prop), a = some ⟨b, 0, none⟩ ∧ Q b ∧ (∀ i, i < n → ¬ Bk i b ∧ ∀ x, Bk i x → Q x) ∧ (∀ i j x, i < n → j < n → Bk i x → Bk j x → i = j) ∧
    (∀ j, j < n * 4 → w.frozen? ⟨b, j, none⟩ = false) ∧ (∀ i, i < n → SoftQ (Bk i) w) ∧ ∀ i, i < n → InsX (Bk i) w b (i * 4) (sa i) (sc i) (R i)
theorem Apart.on {Q : Nat → Prop} {w w' : World} {a : Option Addr} {n : Nat} {R : Nat → InsD} (h : Apart Q w a n R) (k : Stay Q w w') : Apart Q w' a n R := by
  rcases h with h | ⟨b, sa, sc, Bk, e, hq, h1, h2, h3, h4, h⟩
  · exact .inl h
  · have hc : ∀ o, w'.cell? ⟨b, o, none⟩ = w.cell? ⟨b, o, none⟩ := fun o => World.cell?_of_block (a := ⟨b, o, none⟩) (k b hq)
    refine .inr ⟨b, sa, sc, Bk, e, hq, h1, h2, fun j hj => (World.frozen?_of_block (a := ⟨b, j, none⟩) (k b hq)).trans (h3 j hj), fun i hi x o hx => (World.frozen?_of_block (a := ⟨x, o, none⟩) (k x ((h1 i hi).2 x hx))).trans (h4 i hi x o hx), fun i hi => ?_⟩
    obtain ⟨g0, g1, g2, g3, g4⟩ := h i hi
    exact ⟨(hc _).trans g0, (hc _).trans g1, (hc _).trans g2, (hc _).trans g3, g4.on (fun x hx => k x ((h1 i hi).2 x hx))⟩
theorem Apart.ins {Q : Nat → Prop} {w : World} {a : Option Addr} {n : Nat} {R : Nat → InsD} (h : Apart Q w a n R) : InsA Q w a n R := by
  rcases h with h | ⟨b, sa, sc, Bk, e, hq, h1, h2, h3, h4, h⟩
  · exact .inl h
  · refine .inr ⟨b, 0, e, hq, fun i hi => ?_⟩
    obtain ⟨g0, g1, g2, g3, g4⟩ := h i hi
    rw [Nat.zero_add]
    exact ⟨g0, g1, g2, _, _, g3, g4.wide (h1 i hi).2⟩

/-- The program's answer lies apart. -/
theorem apart_of {w w' : World} {P S Q : Nat → Prop} {a : Option Addr} {c : Nat} {L : List IC} (h : IOwnP w w' (.slice a L.length c) L P S) (hP : ∀ b, P b → Q b) (hS : ∀ b, S b → Q b) : Apart Q w' a L.length (dat (L.map IC.d)) := by
  rcases h.own with ⟨_, e, _⟩ | ⟨g, cap, e, hq, hl, hc, hcell, hw⟩
  · exact .inl e
  · obtain rfl : a = some ⟨g, 0, none⟩ := by injection e
    have hin : ∀ i x, i < L.length → L[i]?.bind blk = some x → S x := fun i x hi hx => by
      rw [List.getElem?_eq_getElem hi] at hx
      exact blks_in h.sets (List.mem_filterMap.2 ⟨L[i], List.getElem_mem hi, hx⟩)
    refine .inr ⟨g, fun i => (L[i]?.map IC.a).getD none, fun i => (L[i]?.map IC.c).getD 0, fun i x => L[i]?.bind blk = some x, rfl, hP g hq, fun i hi => ⟨fun q => (h.p g hq).2 (hin i g hi q), fun x hx => hS x (hin i x hi hx)⟩, ?_, fun j hj => (hw j (by omega)).2, fun i hi x o hx => h.softS x o (hin i x hi hx), fun i hi => ?_⟩
    · intro i j x hi hj q1 q2
      rw [List.getElem?_eq_getElem hi] at q1
      rw [List.getElem?_eq_getElem hj] at q2
      have hN := h.nodup
      unfold blks at hN
      by_cases e1 : i = j
      · exact e1
      · exfalso
        have key : ∀ (l : List IC) (i j : Nat) (hi : i < l.length) (hj : j < l.length), i < j → blk l[i] = some x → blk l[j] = some x → (l.filterMap blk).Nodup → False := by
          intro l
          induction l with
          | nil => intro i j hi; simp at hi
          | cons y l ih =>
            intro i j hi hj hij b1 b2 hnd
            match j, hj, hij, b2 with
            | j + 1, hj, hij, b2 =>
              have hj' : j < l.length := by simpa using hj
              have b2' : blk l[j] = some x := by simpa using b2
              match i, hi, hij, b1 with
              | 0, _, _, b1 =>
                have b1' : blk y = some x := by simpa using b1
                rw [List.filterMap_cons_some b1'] at hnd
                exact (List.nodup_cons.1 hnd).1 (List.mem_filterMap.2 ⟨l[j], List.getElem_mem hj', b2'⟩)
              | i + 1, hi, hij, b1 =>
                have hi' : i < l.length := by simpa using hi
                refine ih i j hi' hj' (by omega) (by simpa using b1) b2' ?_
                cases hy : blk y with
                | none => rw [List.filterMap_cons_none hy] at hnd; exact hnd
                | some z => rw [List.filterMap_cons_some hy] at hnd; exact (List.nodup_cons.1 hnd).2
        have q1' : blk L[i] = some x := q1
        have q2' : blk L[j] = some x := q2
        by_cases e2 : i < j
        · exact key L i j hi hj e2 q1' q2' hN
        · exact key L j i hj hi (by omega) q2' q1' hN
    · obtain ⟨h0, h1, h2, h3⟩ := cells_at (Q := Q) hcell hi
      have e1 : (L[i]?.map IC.a).getD none = L[i].a := by simp [hi]
      have e2 : (L[i]?.map IC.c).getD 0 = L[i].c := by simp [hi]
      refine ⟨h0, h1, h2, ?_, ?_⟩
      · show w'.cell? _ = some (Value.slice ((L[i]?.map IC.a).getD none) (dat (L.map IC.d) i).sl ((L[i]?.map IC.c).getD 0))
        rw [e1, e2]; exact h3
      · show Ints _ .i64 w' ((L[i]?.map IC.a).getD none) _ _
        rw [e1, dat_get hi]
        rcases h.sets L[i] (List.getElem_mem hi) with q | ⟨b, off, ea, hb, hh⟩
        · exact .inl q
        · by_cases q0 : L[i].d.sl = 0
          · exact .inl q0
          · refine .inr ⟨b, off, ea, ?_, hh⟩
            show L[i]?.bind blk = some b
            rw [List.getElem?_eq_getElem hi]
            show blk L[i] = some b
            unfold blk
            rw [if_neg q0, ea]
            rfl

def ruI (R : Nat → InsD) (k : Int) (m i : Nat) : InsD := if i < m then mkIn k R i else R i
def mnI (Q : Nat → Prop) (w : World) (b n : Nat) (sa : Nat → Option Addr) (sc : Nat → Nat) (Bk : Nat → Nat → Prop) (R : Nat → InsD) (k : Int) (kv i : Value) (wr : World) : Prop :=
  ∃ m : Nat, m ≤ n ∧ kv = .int .i64 (k + cI R m) ∧ i = .int .i64 (m : Int) ∧ Wrote Q w wr ∧ ∀ i, i < n → InsX (Bk i) wr b (i * 4) (sa i) (sc i) (ruI R k m i)

/-- Three numbers are stored. -/
def set3 (w : World) (b o : Nat) (x y z : Int) : World := ((w.setCell ⟨b, o, none⟩ (.int .i64 x)).setCell ⟨b, o + 1, none⟩ (.int .i64 y)).setCell ⟨b, o + 2, none⟩ (.int .i64 z)

theorem set3_block (w : World) (b o : Nat) (x y z : Int) (c : Nat) (h : c ≠ b) : (set3 w b o x y z).heap[c]? = w.heap[c]? := by
  unfold set3
  rw [Below.heap_setCell _ _ _ _ h, Below.heap_setCell _ _ _ _ h, Below.heap_setCell _ _ _ _ h]
theorem set3_far (w : World) (b o : Nat) (x y z : Int) (j : Nat) (h0 : j ≠ o) (h1 : j ≠ o + 1) (h2 : j ≠ o + 2) : (set3 w b o x y z).cell? ⟨b, j, none⟩ = w.cell? ⟨b, j, none⟩ := by
  unfold set3
  rw [cell_set_other (by omega), cell_set_other (by omega), cell_set_other (by omega)]
theorem set3_frozen (w : World) (b o : Nat) (x y z : Int) (a : Addr) : (set3 w b o x y z).frozen? a = w.frozen? a := by
  unfold set3
  rw [World.frozen?_setCell, World.frozen?_setCell, World.frozen?_setCell]
theorem set3_wrote {Q : Nat → Prop} {w : World} {b o : Nat} {u0 u1 u2 : Int} (x y z : Int) (hq : Q b) (h0 : w.cell? ⟨b, o, none⟩ = some (.int .i64 u0)) (h1 : w.cell? ⟨b, o + 1, none⟩ = some (.int .i64 u1)) (h2 : w.cell? ⟨b, o + 2, none⟩ = some (.int .i64 u2)) : Wrote Q w (set3 w b o x y z) := by
  unfold set3
  have k1 : (w.setCell ⟨b, o, none⟩ (.int .i64 x)).cell? ⟨b, o + 1, none⟩ = some (.int .i64 u1) := by rw [cell_set_other (by omega)]; exact h1
  have k2 : ((w.setCell ⟨b, o, none⟩ (.int .i64 x)).setCell ⟨b, o + 1, none⟩ (.int .i64 y)).cell? ⟨b, o + 2, none⟩ = some (.int .i64 u2) := by rw [cell_set_other (by omega), cell_set_other (by omega)]; exact h2
  exact ((Wrote.setInt hq h0 x).trans (Wrote.setInt hq k1 y)).trans (Wrote.setInt hq k2 z)
theorem set3_cells {w : World} {b o : Nat} {u0 u1 u2 : Value} (x y z : Int) (h0 : w.cell? ⟨b, o, none⟩ = some u0) (h1 : w.cell? ⟨b, o + 1, none⟩ = some u1) (h2 : w.cell? ⟨b, o + 2, none⟩ = some u2) :
    (set3 w b o x y z).cell? ⟨b, o, none⟩ = some (.int .i64 x) ∧ (set3 w b o x y z).cell? ⟨b, o + 1, none⟩ = some (.int .i64 y) ∧ (set3 w b o x y z).cell? ⟨b, o + 2, none⟩ = some (.int .i64 z) := by
  unfold set3
  have k1 : (w.setCell ⟨b, o, none⟩ (.int .i64 x)).cell? ⟨b, o + 1, none⟩ = some u1 := by rw [cell_set_other (by omega)]; exact h1
  have k2 : ((w.setCell ⟨b, o, none⟩ (.int .i64 x)).setCell ⟨b, o + 1, none⟩ (.int .i64 y)).cell? ⟨b, o + 2, none⟩ = some u2 := by rw [cell_set_other (by omega), cell_set_other (by omega)]; exact h2
  refine ⟨?_, ?_, World.cell?_setCell_same _ _ _ k2⟩
  · rw [cell_set_other (by omega), cell_set_other (by omega)]; exact World.cell?_setCell_same _ _ _ h0
  · rw [cell_set_other (by omega)]; exact World.cell?_setCell_same _ _ _ k1

theorem mn_step {Q : Nat → Prop} {w wr W : World} {b n m : Nat} {sa : Nat → Option Addr} {sc : Nat → Nat} {Bk : Nat → Nat → Prop} {R : Nat → InsD} {k : Int} (hlt : m < n) (hq : Q b) (h1 : ∀ i, i < n → ¬ Bk i b ∧ ∀ x, Bk i x → Q x) (h2 : ∀ i j x, i < n → j < n → Bk i x → Bk j x → i = j)
    (hw : Wrote Q w wr) (h : ∀ i, i < n → InsX (Bk i) wr b (i * 4) (sa i) (sc i) (ruI R k m i))
    (hW : Wrote (Bk m) (set3 wr b (m * 4) (k + cI R m) (k + cI R m + 1) (k + cI R m + 1 + 1)) W) (hI : Ints (Bk m) .i64 W (sa m) (R m).sl (from_ (k + cI R m + 1 + 1 + 1))) :
    mnI Q w b n sa sc Bk R k (.int .i64 (k + cI R (m + 1))) (.int .i64 ((m + 1 : Nat) : Int)) W := by
  have em : ruI R k m m = R m := by unfold ruI; rw [if_neg (Nat.lt_irrefl m)]
  obtain ⟨c0, c1, c2, c3, c4⟩ := h m hlt
  have w3 := set3_wrote (Q := Q) (k + cI R m) (k + cI R m + 1) (k + cI R m + 1 + 1) hq c0 c1 c2
  obtain ⟨d0, d1, d2⟩ := set3_cells (k + cI R m) (k + cI R m + 1) (k + cI R m + 1 + 1) c0 c1 c2
  have hWQ : Wrote Q (set3 wr b (m * 4) (k + cI R m) (k + cI R m + 1) (k + cI R m + 1 + 1)) W := ⟨hW.os, hW.tape, hW.output, hW.size, fun x hx => hW.block x (fun q => hx ((h1 m hlt).2 x q)), hW.cell, hW.frozen⟩
  have hc : ∀ o, W.cell? ⟨b, o, none⟩ = (set3 wr b (m * 4) (k + cI R m) (k + cI R m + 1) (k + cI R m + 1 + 1)).cell? ⟨b, o, none⟩ := fun o => World.cell?_of_block (a := ⟨b, o, none⟩) (hW.block b (h1 m hlt).1)
  refine ⟨m + 1, hlt, rfl, rfl, (hw.trans w3).trans hWQ, fun i hi => ?_⟩
  by_cases e : i = m
  · subst e
    have en : ruI R k (i + 1) i = mkIn k R i := by unfold ruI; rw [if_pos (by omega)]
    rw [en]
    refine ⟨(hc _).trans d0, (hc _).trans d1, (hc _).trans d2, ?_, hI⟩
    rw [hc, set3_far _ _ _ _ _ _ _ (by omega) (by omega) (by omega), c3, em]
    rfl
  · have en : ruI R k (m + 1) i = ruI R k m i := by
      unfold ruI
      by_cases q : i < m
      · rw [if_pos q, if_pos (by omega)]
      · rw [if_neg q, if_neg (by omega)]
    rw [en]
    obtain ⟨e0, e1, e2, e3, e4⟩ := h i hi
    refine ⟨?_, ?_, ?_, ?_, ?_⟩
    · rw [hc, set3_far _ _ _ _ _ _ _ (by omega) (by omega) (by omega)]; exact e0
    · rw [hc, set3_far _ _ _ _ _ _ _ (by omega) (by omega) (by omega)]; exact e1
    · rw [hc, set3_far _ _ _ _ _ _ _ (by omega) (by omega) (by omega)]; exact e2
    · rw [hc, set3_far _ _ _ _ _ _ _ (by omega) (by omega) (by omega)]; exact e3
    · refine e4.on (fun x hx => ?_)
      rw [hW.block x (fun q => e (h2 i m x hi hlt hx q)), set3_block _ _ _ _ _ _ x (fun (q : x = b) => (h1 i hi).1 (q ▸ hx))]

set_option maxRecDepth 100000 in
set_option maxHeartbeats 4000000 in
theorem markInsS_exact (Q : Nat → Prop) (a : Option Addr) (n c : Nat) (R : Nat → InsD) (k : Int) (w : World) (hA : Apart Q w a n R) (hs : ∀ i, i < n → (R i).sl ≤ 1048576) (hn : n ≤ 1048576) (h0 : 0 ≤ k) (h1 : k ≤ 4) :
    Calls Try.prog 38 #[.slice a n c, .int .i64 k] w (MarkX (fun w' => InsA Q w' a n (mkIn k R)) Q (k + cI R n) w) := by
  have HC : Hid (∀ m, m ≤ n → cI R m ≤ m * 1048579) := cI_le R n hs
  have HSL : Hid (∀ i, i < n → (R i).sl ≤ 1048576) := hs
  clear hs
  rcases hA with hz | ⟨b, sa, sc, Bk, rfl, hq, ap1, ap2, hfz, hsf, hB⟩
  · subst hz
    go_enter Try.func38, Try.ntmps38
    go_wp2
    go_loopw [1, 5] (fun kv i wr => kv = .int .i64 k ∧ i = .int .i64 0 ∧ wr = w) (fun _ _ _ => 0)
    case atStart => exact ⟨rfl, rfl, rfl⟩
    case round =>
      obtain ⟨rfl, rfl, hw⟩ := hrel
      subst hw
      go_wp2
      go_ret
      exact ⟨by simp [cI], .inl rfl, Wrote.refl _ _⟩
  have HQ : Hid (Q b) := hq
  have A1 : Hid (∀ i, i < n → ¬ Bk i b ∧ ∀ x, Bk i x → Q x) := ap1
  have A2 : Hid (∀ i j x, i < n → j < n → Bk i x → Bk j x → i = j) := ap2
  have HFZ : Hid (∀ j, j < n * 4 → w.frozen? ⟨b, j, none⟩ = false) := hfz
  have HSF : Hid (∀ i, i < n → SoftQ (Bk i) w) := hsf
  have HB : Hid (∀ i, i < n → InsX (Bk i) w b (i * 4) (sa i) (sc i) (R i)) := hB
  clear hq ap1 ap2 hfz hsf hB
  go_enter Try.func38, Try.ntmps38
  go_wp2
  go_loopw [1, 5] (fun kv i wr => mnI Q w b n sa sc Bk R k kv i wr) (fun kv i _ => n - (intOf i).toNat)
  case atStart => exact ⟨0, Nat.zero_le _, by simp [cI], rfl, Wrote.refl _ _, HB.out⟩
  case round =>
    obtain ⟨m, hm, rfl, rfl, hw, hru⟩ := hrel
    by_cases hlt : m < n
    · obtain ⟨c0, c1, c2, c3, c4⟩ := hru m hlt
      have em : ruI R k m m = R m := by unfold ruI; rw [if_neg (Nat.lt_irrefl m)]
      rw [em] at c0 c1 c2 c3 c4
      have hsl := HSL.out m hlt
      have hcm := HC.out m hm
      have hlt' : (m : Int) < (n : Int) := by omega
      have f0 : wr.frozen? ⟨b, m * 4, none⟩ = false := (hw.frozen _).trans (HFZ.out _ (by omega))
      have f1 : wr.frozen? ⟨b, m * 4 + 1, none⟩ = false := (hw.frozen _).trans (HFZ.out _ (by omega))
      have f2 : wr.frozen? ⟨b, m * 4 + 2, none⟩ = false := (hw.frozen _).trans (HFZ.out _ (by omega))
      have HI1 : Hid (Ints (Bk m) .i64 (set3 wr b (m * 4) (k + cI R m) (k + cI R m + 1) (k + cI R m + 1 + 1)) (sa m) (R m).sl (R m).set) := c4.on (fun x hx => set3_block _ _ _ _ _ _ x (fun q => (A1.out m hlt).1 (q ▸ hx)))
      have HF1 : Hid (SoftQ (Bk m) (set3 wr b (m * 4) (k + cI R m) (k + cI R m + 1) (k + cI R m + 1 + 1))) := fun x o hx => by
        rw [set3_frozen, hw.frozen]; exact HSF.out m hlt x o hx
      have HW : Hid (Wrote Q w wr) := hw
      have HRU : Hid (∀ i, i < n → InsX (Bk i) wr b (i * 4) (sa i) (sc i) (ruI R k m i)) := hru
      have rb0 : 0 ≤ k + cI R m + 1 + 1 + 1 := by omega
      have rb1 : k + cI R m + 1 + 1 + 1 ≤ 4611686018427387904 + 1099513724928 := by omega
      clear hw hru c4 em
      go_wp2_with (go_at_call 89; refine (markIntS_exact (Bk m) (sa m) (R m).sl (sc m) (R m).set (k + cI R m + 1 + 1 + 1) _ HI1.out HF1.out hsl rb0 rb1).mono ?_; rintro e W ⟨rfl, hI, hW⟩; have HIW : Hid (Ints (Bk m) .i64 W (sa m) (R m).sl (from_ (k + cI R m + 1 + 1 + 1))) := hI; have HWW : Hid (Wrote (Bk m) (set3 wr b (m * 4) (k + cI R m) (k + cI R m + 1) (k + cI R m + 1 + 1)) W) := hW; clear hI hW)
      go_roundw
      case rel =>
        have h := mn_step hlt HQ.out A1.out A2.out HW.out HRU.out HWW.out HIW.out
        have ev : k + (cI R m : Int) + 1 + 1 + 1 + ((R m).sl : Int) = k + (cI R (m + 1) : Int) := by rw [cI]; omega
        have e2 : ((m + 1 : Nat) : Int) = (m : Int) + 1 := by omega
        rw [e2] at h
        rw [ev]
        exact h
      case measure => simp [intOf]; omega
    · obtain rfl : m = n := by omega
      go_wp2
      go_ret
      refine ⟨rfl, .inr ⟨b, 0, rfl, HQ.out, fun i hi => ?_⟩, hw⟩
      obtain ⟨g0, g1, g2, g3, g4⟩ := hru i hi
      have en : ruI R k m i = mkIn k R i := by unfold ruI; rw [if_pos hi]
      rw [en] at g0 g1 g2 g3 g4
      rw [Nat.zero_add]
      exact ⟨g0, g1, g2, _, _, g3, g4.wide (A1.out i hi).2⟩

set_option maxRecDepth 100000 in
set_option maxHeartbeats 4000000 in
theorem heldInsS_any (Q : Nat → Prop) (a : Option Addr) (n c : Nat) (R : Nat → InsD) (k : Int) (w : World) (hA : InsA Q w a n (mkIn k R)) (hs : ∀ i, i < n → (R i).sl ≤ 1048576) (hn : n ≤ 1048576) (h0 : 0 ≤ k) (h1 : k ≤ 4) :
    Calls Try.prog 39 #[.slice a n c, .int .i64 k] w (HeldIs (k + cI R n) w) := by
  have HA : Hid (InsA Q w a n (mkIn k R)) := hA
  have HC : Hid (∀ m, m ≤ n → cI R m ≤ m * 1048579) := cI_le R n hs
  have HSL : Hid (∀ i, i < n → (R i).sl ≤ 1048576) := hs
  clear hs hA
  go_enter Try.func39, Try.ntmps39
  go_wp2
  go_loopw [1, 5] (fun kv i wr => hoI w n (fun m => k + cI R m) kv i wr) (fun kv i _ => n - (intOf i).toNat)
  case atStart => exact ⟨0, Nat.zero_le _, by simp [cI], rfl, rfl⟩
  case round =>
    obtain ⟨m, hm, rfl, rfl, hw⟩ := hrel
    subst wr
    by_cases hlt : m < n
    · have hA' := HA.out
      rcases hA' with h0 | ⟨b, off, rfl, hq, hA'⟩
      · omega
      obtain ⟨c0, c1, c2, sa, sc, c3, hs1⟩ := hA' m hlt
      have hsl := HSL.out m hlt
      have hcm := HC.out m hm
      have hlt' : (m : Int) < (n : Int) := by omega
      have d0 : w.cell? ⟨b, off + m * 4, none⟩ = some (.int .i64 (k + cI R m)) := c0
      have d1 : w.cell? ⟨b, off + m * 4 + 1, none⟩ = some (.int .i64 (k + cI R m + 1)) := c1
      have d2 : w.cell? ⟨b, off + m * 4 + 2, none⟩ = some (.int .i64 (k + cI R m + 1 + 1)) := c2
      have d3 : w.cell? ⟨b, off + m * 4 + 3, none⟩ = some (.slice sa (R m).sl sc) := c3
      have HI : Hid (Ints Q .i64 w sa (R m).sl (from_ (k + cI R m + 1 + 1 + 1))) := hs1
      have rb0 : 0 ≤ k + cI R m + 1 + 1 + 1 := by omega
      have rb1 : k + cI R m + 1 + 1 + 1 ≤ 4611686018427387904 + 1099513724928 := by omega
      have nneg : ¬ (k + (cI R m : Int) + 1 + 1 + 1 + ((R m).sl : Int) < 0) := by omega
      have t0 := ine (k + (cI R m : Int))
      have t1 := ine (k + (cI R m : Int) + 1)
      have t2 := ine (k + (cI R m : Int) + 1 + 1)
      clear hA' hs1 c0 c1 c2 c3
      go_wp2_with (go_at_call 90; refine (heldIntS_any Q sa (R m).sl sc (k + cI R m + 1 + 1 + 1) _ HI.out hsl rb0 rb1).mono ?_; rintro e W ⟨rfl, hW⟩; subst W)
      go_roundw
      case rel => exact ⟨m + 1, by omega, by congr 1; show _ = k + (cI R (m + 1) : Int); rw [cI]; omega, by go_num, rfl⟩
      case measure => simp [intOf]; omega
    · obtain rfl : m = n := by omega
      go_wp2
      go_ret
      exact ⟨rfl, rfl⟩

/-- The program's Compile, in the law's words. -/
def ICompIs (n : Nat) (z : Int) (R : Nat → InsD) (w : World) (e : Ending) (w' : World) : Prop :=
  ∃ a c, e = .returned (.tuple #[.slice a n c, .int .i64 z]) ∧ Apart (New w w') w' a n R ∧ Below w.heap.size w w'
theorem icompile_any (Q : Nat → Prop) (ra la : Option Addr) (rc lc : Nat) (g : Gr) (n : Nat) (z : Int) (R : Nat → InsD) (w : World) (hG : GramX Q w ra la g) (hs : SmallG g) (hp : ProgIs g n z R) :
    Calls Try.prog 36 #[.agg #[.slice ra g.nr rc, .slice la g.nb lc]] w (ICompIs n z R w) := by
  refine (compile_any Q ra la rc lc g w hG hs).mono ?_
  rintro e w' ⟨⟨hV, a, n', c, L, P, S, rfl, rfl, hL, hO⟩ | ⟨hV, rfl⟩, hb⟩
  · rcases hp with ⟨_, rfl, rfl, rfl⟩ | ⟨q, _⟩
    · have hn : L.length = PL g (g.nr + g.nb) := by rw [← progG_len, ← hL, List.length_map]
      refine ⟨a, c, by rw [hn], ?_, hb⟩
      have := apart_of (Q := New w w') hO (fun b q => (hO.p b q).1) (fun b q => hO.s b q)
      rw [hL, hn] at this
      exact this
    · exact absurd hV q
  · rcases hp with ⟨q, _⟩ | ⟨_, rfl, rfl, rfl⟩
    · exact absurd q hV
    · exact ⟨none, 0, rfl, .inl rfl, hb⟩

end Go.Proofs.Ytjndcajblpgjmaa
