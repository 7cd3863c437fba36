/-
  Walks: the program's Erase.
-/
import Derived.Test.YtjndcajblpgjmaaEraseBody
import Derived.Test.YtjndcajblpgjmaaValid
namespace Go.Proofs.Ytjndcajblpgjmaa
open Go.RowKit
open M (OpD NodeD Gr)
set_option linter.unusedVariables false

def erN (d : NodeD) : NodeD := ⟨d.nl, d.name, d.has, d.bl, fun i => er (d.body i)⟩

/-- Where the memory of a rule lies: its name's blocks from l on, its body's from mid to h. -/
structure Seat where
  na : Option Addr
  nc : Nat
  ba : Option Addr
  bc : Nat
  l : Nat
  mid : Nat
  h : Nat
instance : Inhabited Seat := ⟨⟨none, 0, none, 0, 0, 0, 0⟩⟩

def hdr (R : Nat → NodeD) (s : Nat → Seat) (i : Nat) : List Value := [.slice (s i).na (R i).nl (s i).nc, .slice (s i).ba (R i).bl (s i).bc]
def hdrs (R : Nat → NodeD) (s : Nat → Seat) : Nat → List Value
  | 0 => []
  | k + 1 => hdrs R s k ++ hdr R s k
theorem hdrs_len (R : Nat → NodeD) (s : Nat → Seat) (k : Nat) : (hdrs R s k).length = k * 2 := by
  induction k with
  | zero => rfl
  | succ k ih => rw [hdrs, List.length_append, ih]; simp [hdr]; omega
theorem hdrs_get (R : Nat → NodeD) (s : Nat → Seat) (k i : Nat) (h : i < k) : (hdrs R s k)[i * 2]? = some (.slice (s i).na (R i).nl (s i).nc) ∧ (hdrs R s k)[i * 2 + 1]? = some (.slice (s i).ba (R i).bl (s i).bc) := by
  induction k with
  | zero => omega
  | succ k ih =>
    rw [hdrs]
    by_cases e : i < k
    · rw [List.getElem?_append_left (by rw [hdrs_len]; omega), List.getElem?_append_left (by rw [hdrs_len]; omega)]
      exact ih e
    · obtain rfl : i = k := by omega
      rw [List.getElem?_append_right (by rw [hdrs_len]; omega), List.getElem?_append_right (by rw [hdrs_len]; omega), hdrs_len]
      rw [show i * 2 - i * 2 = 0 by omega, show i * 2 + 1 - i * 2 = 1 by omega]
      exact ⟨rfl, rfl⟩
theorem hdrs_congr (R : Nat → NodeD) (s s' : Nat → Seat) (k : Nat) (h : ∀ i, i < k → s i = s' i) : hdrs R s k = hdrs R s' k := by
  induction k with
  | zero => rfl
  | succ k ih => rw [hdrs, hdrs, ih (fun i hi => h i (by omega)), hdr, hdr, h k (by omega)]

/-- The rules so far: each in blocks of its own, none of which is below B. -/
structure Seats (B : Nat) (w : World) (R : Nat → NodeD) (s : Nat → Seat) (k : Nat) : Prop where
  lo : ∀ i, i < k → B < (s i).l ∧ (s i).l ≤ (s i).mid ∧ (s i).mid ≤ (s i).h ∧ (s i).h ≤ w.heap.size
  ap : ∀ i j, i < j → j < k → (s i).h ≤ (s j).l
  nm : ∀ i, i < k → Ints (fun b => (s i).l ≤ b ∧ b < (s i).mid) .u8 w (s i).na (R i).nl (R i).name
  bd : ∀ i, i < k → OpsO (s i).mid (s i).h w (s i).ba (R i).bl (R i).body

/-- The blocks that are none of the rules'. -/
def Free (B : Nat) (s : Nat → Seat) (k : Nat) (b : Nat) : Prop := B < b ∧ ∀ i, i < k → ¬ ((s i).l ≤ b ∧ b < (s i).h)

theorem OpsO.on {lo hi : Nat} {w w' : World} {a : Option Addr} {n : Nat} {B : Nat → OpD} (h : OpsO lo hi w a n B) (t : Stay (fun b => lo ≤ b ∧ b < hi) w w') : OpsO lo hi w' a n B := by
  rcases h with h | ⟨b, e, h1, h2, l, hl, h⟩
  · exact .inl h
  · refine .inr ⟨b, e, h1, h2, l, hl, fun i hi => ?_⟩
    obtain ⟨q1, ⟨a, c, q2, q3⟩, q4⟩ := h i hi
    exact ⟨(t.cell ⟨h1, h2⟩).trans q1, ⟨a, c, (t.cell ⟨h1, h2⟩).trans q2, q3.on (t.mono (fun x hx => ⟨by have := (hl i hi).1; omega, by have := (hl i hi).2.2; omega⟩))⟩, (t.cell ⟨h1, h2⟩).trans q4⟩

theorem Seats.on {B : Nat} {w w' : World} {R : Nat → NodeD} {s : Nat → Seat} {k : Nat} (h : Seats B w R s k) (hs : w.heap.size ≤ w'.heap.size) (t : ∀ b, b < w.heap.size → ¬ Free B s k b → w'.heap[b]? = w.heap[b]?) : Seats B w' R s k := by
  have key : ∀ i, i < k → Stay (fun b => (s i).l ≤ b ∧ b < (s i).h) w w' := fun i hi b hb => t b (by have := h.lo i hi; omega) (fun f => f.2 i hi hb)
  refine ⟨fun i hi => ?_, h.ap, fun i hi => ?_, fun i hi => ?_⟩
  · have := h.lo i hi
    exact ⟨this.1, this.2.1, this.2.2.1, by omega⟩
  · exact (h.nm i hi).on ((key i hi).mono (fun b hb => ⟨hb.1, by have := h.lo i hi; omega⟩))
  · exact (h.bd i hi).on ((key i hi).mono (fun b hb => ⟨by have := h.lo i hi; omega, hb.2⟩))

/-- Where the rule number k comes to lie. -/
def upd (s : Nat → Seat) (k : Nat) (x : Seat) : Nat → Seat := fun i => if i = k then x else s i
theorem upd_lt {s : Nat → Seat} {k i : Nat} {x : Seat} (h : i < k) : upd s k x i = s i := by unfold upd; rw [if_neg (by omega)]
theorem upd_at {s : Nat → Seat} {k : Nat} {x : Seat} : upd s k x k = x := by simp [upd]

theorem Seats.snoc {B : Nat} {w : World} {R : Nat → NodeD} {s : Nat → Seat} {k : Nat} {x : Seat} (h : Seats B w R s k) (h1 : B < x.l) (h2 : x.l ≤ x.mid) (h3 : x.mid ≤ x.h) (h4 : x.h ≤ w.heap.size) (h5 : ∀ i, i < k → (s i).h ≤ x.l)
    (hn : Ints (fun b => x.l ≤ b ∧ b < x.mid) .u8 w x.na (R k).nl (R k).name) (hb : OpsO x.mid x.h w x.ba (R k).bl (R k).body) : Seats B w R (upd s k x) (k + 1) := by
  refine ⟨fun i hi => ?_, fun i j hij hj => ?_, fun i hi => ?_, fun i hi => ?_⟩
  · by_cases e : i = k
    · subst e; rw [upd_at]; exact ⟨h1, h2, h3, h4⟩
    · rw [upd_lt (by omega)]; exact h.lo i (by omega)
  · by_cases e : j = k
    · subst e; rw [upd_at, upd_lt hij]; exact h5 i hij
    · rw [upd_lt (show j < k by omega), upd_lt (show i < k by omega)]; exact h.ap i j hij (by omega)
  · by_cases e : i = k
    · subst e; rw [upd_at]; exact hn
    · rw [upd_lt (by omega)]; exact h.nm i (by omega)
  · by_cases e : i = k
    · subst e; rw [upd_at]; exact hb
    · rw [upd_lt (by omega)]; exact h.bd i (by omega)

theorem OwnC.shape {Q : Nat → Prop} {w : World} {v : Value} {sz n : Nat} {cs : List Value} (h : OwnC Q w v sz n cs) : ∃ a c, v = .slice a n c := by
  rcases h with ⟨rfl, rfl, _⟩ | ⟨g, cap, rfl, _⟩
  · exact ⟨_, _, rfl⟩
  · exact ⟨_, _, rfl⟩
theorem own_later {Q : Nat → Prop} {w w' : World} {v : Value} {sz n : Nat} {cs : List Value} (h : OwnC (fun b => Q b ∧ b < w.heap.size) w v sz n cs) (k : Below w.heap.size w w') : OwnC (fun b => Q b ∧ b < w.heap.size) w' v sz n cs :=
  h.on (fun b hb => k.block b hb.2)
theorem src_two {w : World} {g : Nat} {u0 u1 : Value} (h0 : w.cell? ⟨g, 0, none⟩ = some u0) (h1 : w.cell? ⟨g, 1, none⟩ = some u1) (o0 : u0.oneCell' = true) (o1 : u1.oneCell' = true) : Src Try.prog 2 33 (.slice (some ⟨g, 0, none⟩) 1 1) 1 [u0, u1] w := by
  refine Src.ofSlice (P := Try.prog) w Try.underlying33 ⟨g, 0, none⟩ 1 1 [u0, u1] rfl (fun j u hu => ?_) (fun u hu => ?_)
  · match j, hu with
    | 0, hu => simp at hu; subst hu; simpa [Addr.add] using h0
    | 1, hu => simp at hu; subst hu; simpa [Addr.add] using h1
    | j + 2, hu => simp at hu
  · simp at hu
    rcases hu with rfl | rfl
    · exact o0
    · exact o1

def eraI (W0 : World) (R : Nat → NodeD) (n : Nat) (i : Value) (wr : World) : Prop :=
  ∃ (k : Nat) (v : Value) (s : Nat → Seat), k ≤ n ∧ i = .int .i64 (k : Int) ∧ wr.cell? ⟨W0.heap.size, 0, none⟩ = some v ∧ wr.cell? ⟨W0.heap.size, 1, none⟩ = some (.slice none 0 0) ∧
    OwnC (fun b => Free W0.heap.size s k b ∧ b < wr.heap.size) wr v 2 k (hdrs R s k) ∧ Seats W0.heap.size wr R s k ∧ Below W0.heap.size W0 wr ∧ Soft W0 wr ∧ W0.heap.size < wr.heap.size

/-- What the program's Erase answers. -/
structure EraseIs (g : Gr) (w : World) (e : Ending) (w' : World) : Prop where
  val : ∃ v, e = .returned (.agg #[v, .slice none 0 0]) ∧ ((M.Valid g ∧ ∃ s B, w.heap.size ≤ B ∧ OwnC (fun b => Free B s g.nr b ∧ b < w'.heap.size) w' v 2 g.nr (hdrs (fun i => erN (g.rule i)) s g.nr) ∧ Seats B w' (fun i => erN (g.rule i)) s g.nr ∧ ∀ b o, B ≤ b → b < w'.heap.size → w'.frozen? ⟨b, o, none⟩ = false) ∨ (¬ M.Valid g ∧ v = .slice none 0 0))
  bel : Below w.heap.size w w'

end Go.Proofs.Ytjndcajblpgjmaa
