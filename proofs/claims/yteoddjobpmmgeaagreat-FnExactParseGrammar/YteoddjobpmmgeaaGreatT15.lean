import Derived.Test.YteoddjobpmmgeaaGreatT11
import Derived.Test.YteoddjobpmmgeaaGreatT14
set_option linter.unusedVariables false
set_option linter.unusedSimpArgs false
namespace Go.Proofs.YteoddjobpmmgeaaGreat
section
open Go.RowKit
open M (OpD NodeD Gr)
theorem PE.no59 (e : PE) : ∀ l, e.ok l → ∀ t ∈ e.tk, t.kind ≠ 59 := by
  induction e with
  | ref t => intro l h x hx; have := List.mem_singleton.1 hx; subst this; have h : x.kind = 110 := h; omega
  | thr c t => intro l h x hx; obtain ⟨h1, h2⟩ := h; simp [PE.tk] at hx; rcases hx with rfl | rfl <;> omega
  | str t => intro l h x hx; have := List.mem_singleton.1 hx; subst this; have h : x.kind = 34 := h; omega
  | cls t => intro l h x hx; have := List.mem_singleton.1 hx; subst this; have h : x.kind = 91 := h; omega
  | dot t => intro l h x hx; have := List.mem_singleton.1 hx; subst this; have h : x.kind = 46 := h; omega
  | grp o e c ih => intro l h x hx; obtain ⟨h1, h2, h3⟩ := h; simp [PE.tk] at hx; rcases hx with rfl | hx | rfl <;> first | omega | exact ih 5 h3 x hx
  | star e t ih => intro l h x hx; obtain ⟨h1, h2, h3⟩ := h; simp [PE.tk] at hx; rcases hx with hx | rfl <;> first | omega | exact ih 0 h3 x hx
  | opt e t ih => intro l h x hx; obtain ⟨h1, h2, h3⟩ := h; simp [PE.tk] at hx; rcases hx with hx | rfl <;> first | omega | exact ih 0 h3 x hx
  | not t e ih => intro l h x hx; obtain ⟨h1, h2, h3⟩ := h; simp [PE.tk] at hx; rcases hx with rfl | hx <;> first | omega | exact ih 2 h3 x hx
  | amp t e ih => intro l h x hx; obtain ⟨h1, h2, h3⟩ := h; simp [PE.tk] at hx; rcases hx with rfl | hx <;> first | omega | exact ih 2 h3 x hx
  | emp => intro l h x hx; cases hx
  | seq a b iha ihb => intro l h x hx; obtain ⟨h1, h2, h3⟩ := h; simp [PE.tk] at hx; rcases hx with hx | hx; exact iha 3 h2 x hx; exact ihb 2 h3 x hx
  | alt a t b iha ihb => intro l h x hx; obtain ⟨h1, h2, h3, h4⟩ := h; simp [PE.tk] at hx; rcases hx with hx | rfl | hx; exact iha 5 h3 x hx; omega; exact ihb 4 h4 x hx
def Rl.k (q : Rl) : Nat := if q.car.isSome then 1 else 0
theorem Rl.len (q : Rl) : q.tk.length = q.k + 2 + q.body.tk.length + 1 := by
  unfold Rl.tk Rl.k
  cases q.car <;> simp <;> omega
theorem Rl.name_at (q : Rl) : q.tk[q.k]? = some q.name := by
  unfold Rl.tk Rl.k
  cases q.car <;> simp
theorem Rl.body_at (q : Rl) : (q.tk.drop (q.k + 2)).take q.body.tk.length = q.body.tk := by
  unfold Rl.tk Rl.k
  cases q.car <;> simp
theorem Rl.last (q : Rl) : q.tk[q.k + 2 + q.body.tk.length]? = some q.semi := by
  unfold Rl.tk Rl.k
  cases q.car
  · simp [show 2 + q.body.tk.length = q.body.tk.length + 1 + 1 by omega]
  · simp [show 1 + 2 + q.body.tk.length = q.body.tk.length + 1 + 1 + 1 by omega]
theorem Rl.inner {q : Rl} (h : q.ok) {m : Nat} {x : Tok} (hm : m < q.k + 2 + q.body.tk.length) (hx : q.tk[m]? = some x) : x.kind ≠ 59 := by
  obtain ⟨h1, h2, h3, h4, h5⟩ := h
  have e : q.tk = (q.car.toList ++ (q.name :: q.eq :: q.body.tk)) ++ [q.semi] := by simp [Rl.tk]
  rw [e, List.getElem?_append_left (by unfold Rl.k at hm; cases hc : q.car <;> simp [hc] at hm ⊢ <;> omega)] at hx
  have hmem := List.mem_of_getElem? hx
  simp at hmem
  rcases hmem with h | rfl | rfl | h
  · have := h1 x h; omega
  · omega
  · omega
  · exact q.body.no59 5 h4 x h
def RlC (Q : Nat → Prop) (w : World) (b o : Nat) (q : Rl) : Prop :=
  w.cell? ⟨b, o, none⟩ = some (.bool q.car.isSome) ∧ TokC Q w b (o + 1) q.name ∧ ∃ a c, w.cell? ⟨b, o + 5, none⟩ = some (.slice a q.body.tk.length c) ∧ TksA Q w a q.body.tk ∧ q.body.tk.length ≤ c
def RlsA (Q : Nat → Prop) (w : World) (a : Option Addr) (qs : List Rl) : Prop := qs = [] ∨ ∃ b off, a = some ⟨b, off, none⟩ ∧ ∀ i q, qs[i]? = some q → RlC Q w b (off + i * 6) q
theorem RlC.later {Q : Nat → Prop} {w w' : World} {b o : Nat} {q : Rl} (h : RlC Q w b o q) (t : Below w.heap.size w w') : RlC Q w' b o q := by
  obtain ⟨h1, h2, a, c, h3, h4, h5⟩ := h
  exact ⟨cell_on h1 t, h2.later t, a, c, cell_on h3 t, h4.later t, h5⟩
theorem RlsA.later {Q : Nat → Prop} {w w' : World} {a : Option Addr} {qs : List Rl} (h : RlsA Q w a qs) (t : Below w.heap.size w w') : RlsA Q w' a qs := by
  rcases h with h | ⟨b, off, e, h⟩
  · exact .inl h
  · exact .inr ⟨b, off, e, fun i q hq => (h i q hq).later t⟩
theorem RlsA.at {Q : Nat → Prop} {w : World} {a : Option Addr} {qs : List Rl} (h : RlsA Q w a qs) {i : Nat} (hi : i < qs.length) : ∃ b off, a = some ⟨b, off, none⟩ ∧ ∀ i q, qs[i]? = some q → RlC Q w b (off + i * 6) q := by
  rcases h with h | h
  · subst h; simp at hi
  · exact h
structure RC where
  q : Rl
  na : Option Addr
  nc : Nat
  sa : Option Addr
  sc : Nat
  ba : Option Addr
  bc : Nat
def rcv (x : RC) : List Value := [.bool x.q.car.isSome, .int .u8 x.q.name.kind, .int .i64 x.q.name.at_, .slice x.na x.q.name.nm.length x.nc, .slice x.sa x.q.name.set.length x.sc, .slice x.ba x.q.body.tk.length x.bc]
theorem rcv_len (x : RC) : (rcv x).length = 6 := rfl
theorem info44 : (Tryz.prog.info? 44).map (fun i => (i.zero, i.size, i.bytes)) = some (some (.agg #[.bool false, .int .u8 0, .int .i64 0, .slice none 0 0, .slice none 0 0, .slice none 0 0]), 6, 96) := by kernel_rfl
theorem elem38 : ElemT 38 44 6 96 := ⟨Tryz.underlying38, ⟨_, info44, rfl⟩, by omega⟩
structure RowP (Q : Nat → Prop) (w wr : World) (v : Value) (L : List RC) (P : Nat → Prop) : Prop where
  own : OwnC P wr v 6 L.length (L.flatMap rcv)
  new : ∀ b, P b → New w wr b
  old : ∀ x ∈ L, Ints Q .u8 w x.na x.q.name.nm.length (lf x.q.name.nm) ∧ Ints Q .i64 w x.sa x.q.name.set.length (lf x.q.name.set) ∧ TksA Q w x.ba x.q.body.tk ∧ x.q.body.tk.length ≤ x.bc
  keep : Keep (fun _ => False) w wr
def RowR (Q : Nat → Prop) (w wr : World) (v : Value) (L : List RC) : Prop := ∃ P, RowP Q w wr v L P
theorem RowR.nil {Q : Nat → Prop} {w wr : World} (h : Keep (fun _ => False) w wr) : RowR Q w wr (.slice none 0 0) [] :=
  ⟨fun _ => False, .inl ⟨rfl, rfl, rfl⟩, fun _ q => q.elim, (fun x hx => by cases hx), h⟩
theorem RowR.shape {Q : Nat → Prop} {w wr : World} {v : Value} {l : List RC} (h : RowR Q w wr v l) : ∃ a c, v = .slice a l.length c := by
  obtain ⟨P, h⟩ := h
  exact own_shape h.own
theorem rowP_snoc {Q : Nat → Prop} {w wr W1 W5 : World} {v v5 : Value} {l : List RC} {x : RC} {P : Nat → Prop} (h : RowP Q w wr v l P) (k : Keep (fun _ => False) wr W1)
    (ho : Ints Q .u8 w x.na x.q.name.nm.length (lf x.q.name.nm) ∧ Ints Q .i64 w x.sa x.q.name.set.length (lf x.q.name.set) ∧ TksA Q w x.ba x.q.body.tk ∧ x.q.body.tk.length ≤ x.bc)
    (hown : OwnC (fun b => P b ∨ W1.heap.size ≤ b) W5 v5 6 (l.length + 1) (l.flatMap rcv ++ rcv x)) (hg : Grew P W1 W5) : RowR Q w W5 v5 (l ++ [x]) := by
  have z0 := h.keep.size
  have z1 := k.size
  have z3 := hg.size
  refine ⟨fun b => (P b ∨ W1.heap.size ≤ b) ∧ b < W5.heap.size, ?_, ?_, ?_, keep_new (h.keep.trans k) hg (fun b q => (h.new b q).1)⟩
  · have e : (l ++ [x]).flatMap rcv = l.flatMap rcv ++ rcv x := by simp
    rw [e, List.length_append, List.length_singleton]
    rcases hown with ⟨_, q, _⟩ | ⟨b, cap, e, hq, h3, h4, h5, h6⟩
    · omega
    refine .inr ⟨b, cap, e, ⟨hq, ?_⟩, h3, h4, h5, h6⟩
    obtain ⟨u, hu⟩ := Option.isSome_iff_exists.1 (h6 0 (by omega)).1
    exact lt_of_cell hu
  · rintro b ⟨q | q, hlt⟩
    · exact ⟨(h.new b q).1, hlt⟩
    · exact ⟨by omega, hlt⟩
  · intro y hy
    rcases List.mem_append.1 hy with q | q
    · exact h.old y q
    · obtain rfl := List.mem_singleton.1 q
      exact ho
theorem RowR.read {Q : Nat → Prop} {w wr : World} {a : Option Addr} {n c : Nat} {L : List RC} (h : RowR Q w wr (.slice a n c) L) : RlsA Q wr a (L.map (·.q)) := by
  obtain ⟨P, h⟩ := h
  rcases h.own with ⟨_, q, _⟩ | ⟨g, cap, e, hq, h3, h4, h5, h6⟩
  · exact .inl (by rw [List.eq_nil_of_length_eq_zero q]; rfl)
  injection e with e1 e2 e3
  subst e1
  refine .inr ⟨g, 0, rfl, fun i x hx => ?_⟩
  rw [List.getElem?_map] at hx
  obtain ⟨y, hy, rfl⟩ := Option.map_eq_some_iff.1 hx
  have hil := (List.getElem?_eq_some_iff.1 hy).1
  have hlen := flat_len rcv 6 rcv_len L
  have cell : ∀ j, j < 6 → wr.cell? ⟨g, 0 + i * 6 + j, none⟩ = (rcv y)[j]? := fun j hj => by
    rw [Nat.zero_add, h5 (i * 6 + j) (by rw [hlen]; omega), flat_get rcv 6 rcv_len L i j y hy hj]
  obtain ⟨m1, m2, m3, m4⟩ := h.old y (List.mem_of_getElem? hy)
  have bl := h.keep.bel
  exact ⟨cell 0 (by omega), ⟨cell 1 (by omega), cell 2 (by omega), ⟨y.na, y.nc, cell 3 (by omega), m1.later bl⟩, ⟨y.sa, y.sc, cell 4 (by omega), m2.later bl⟩⟩, y.ba, y.bc, cell 5 (by omega), m3.later bl, m4⟩
theorem src_rc (W : World) (x : RC) {ty : TypeId} : Src Tryz.prog 6 38 (.slice (some ⟨W.heap.size, 0, none⟩) 1 1) 1 (rcv x) (W.alloc (.cells #[.bool x.q.car.isSome, .int .u8 x.q.name.kind, .int .i64 x.q.name.at_, .slice x.na x.q.name.nm.length x.nc, .slice x.sa x.q.name.set.length x.sc, .slice x.ba x.q.body.tk.length x.bc] ty)) :=
  src_cells Tryz.underlying38 rfl (fun j u hu => by
    have hb := World.alloc_heap_new W (.cells #[.bool x.q.car.isSome, .int .u8 x.q.name.kind, .int .i64 x.q.name.at_, .slice x.na x.q.name.nm.length x.nc, .slice x.sa x.q.name.set.length x.sc, .slice x.ba x.q.body.tk.length x.bc] ty)
    simp only [World.cell?, hb]
    rw [← hu]
    simp [rcv]) (fun u hu => by
    simp only [rcv, List.mem_cons, List.not_mem_nil, or_false] at hu
    rcases hu with rfl | rfl | rfl | rfl | rfl | rfl <;> rfl)
def rlI (Q : Nat → Prop) (w : World) (qs : List Rl) (v u : Value) (wr : World) : Prop :=
  ∃ (done rest : List Rl) (L : List RC) (d : Nat), qs = done ++ rest ∧ L.map (·.q) = done ∧ d = (done.flatMap Rl.tk).length ∧ u = .int .i64 (d : Nat) ∧ RowR Q w wr v L
def RulesIs (Q : Nat → Prop) (qs : List Rl) (w : World) (e : Ending) (w' : World) : Prop := ∃ a c, e = .returned (.slice a qs.length c) ∧ RlsA Q w' a qs ∧ Keep (fun _ => False) w w'
set_option maxHeartbeats 1000000 in
set_option maxRecDepth 100000 in
theorem l2rules_any (Q : Nat → Prop) (qs : List Rl) (hok : ∀ q ∈ qs, q.ok) (a : Option Addr) (c n : Nat) (w : World) (hn : n = (qs.flatMap Rl.tk).length) (hT : TksA Q w a (qs.flatMap Rl.tk)) (hl : n ≤ 1048576) (hc : n ≤ c) :
    Calls Tryz.prog 14 #[.slice a n c] w (RulesIs Q qs w) := by
  have HT : Hid (TksA Q w a (qs.flatMap Rl.tk)) := hT
  have HN : Hid (n = (qs.flatMap Rl.tk).length) := hn
  have HOK : Hid (∀ q ∈ qs, q.ok) := hok
  clear hT hn hok
  go_enter Tryz.func14, Tryz.ntmps14
  go_wp2
  go_loopw [3, 4] (rlI Q w qs) (fun _ u _ => n - (intOf u).toNat)
  case atStart => exact ⟨[], qs, [], 0, rfl, rfl, rfl, rfl, RowR.nil (Keep.refl _ _)⟩
  case round =>
    obtain ⟨done, rest, L, d, hq, hL, hd, rfl, hR⟩ := hrel
    obtain ⟨va, vc, rfl⟩ := hR.shape
    cases rest with
    | nil =>
      have hdn : d = n := by rw [hd, HN.out, hq, List.append_nil]
      have hnl : ¬ (d : Int) < (n : Int) := by omega
      clear HN hd hdn
      have HR : Hid (RowR Q w wr (.slice va L.length vc) L) := hR
      have HL : Hid (L.map (·.q) = qs) := by rw [hq, List.append_nil]; exact hL
      clear hq hL hR
      go_wp2
      go_ret
      have hl : L.length = qs.length := by rw [← HL.out, List.length_map]
      obtain ⟨P, hP⟩ := HR.out
      exact ⟨va, vc, by rw [hl]; rfl, by rw [← HL.out]; exact HR.out.read, hP.keep⟩
    | cons q rest =>
      have hqok : q.ok := HOK.out q (by rw [hq]; simp)
      have hfl : qs.flatMap Rl.tk = done.flatMap Rl.tk ++ (q.tk ++ rest.flatMap Rl.tk) := by rw [hq]; simp
      have hlen : n = d + (q.tk.length + (rest.flatMap Rl.tk).length) := by rw [HN.out, hfl, List.length_append, List.length_append, hd]
      have hql := q.len
      have hlt : d < n := by omega
      obtain ⟨b, off, rfl, hcell⟩ := HT.out.at (i := d) (by rw [← HN.out]; exact hlt)
      have hget : ∀ m, m < q.tk.length → (qs.flatMap Rl.tk)[d + m]? = q.tk[m]? := fun m hm => by
        rw [hfl, List.getElem?_append_right (by omega), show d + m - (done.flatMap Rl.tk).length = m by omega, List.getElem?_append_left hm]
      have hcq : ∀ m x, q.tk[m]? = some x → TokC Q w b (off + (d + m) * 4) x := fun m x hx => hcell (d + m) x ((hget m (List.getElem?_eq_some_iff.1 hx).1).trans hx)
      have hbody : TksA Q w (some ⟨b, off + (d + q.k + 2) * 4, none⟩) q.body.tk := by
        have := TksA.sub (l := q.tk) (off := off + d * 4) (fun m x hx => by rw [show off + d * 4 + m * 4 = off + (d + m) * 4 by omega]; exact hcq m x hx) (q.k + 2) q.body.tk.length
        rw [q.body_at] at this
        rwa [show off + (d + q.k + 2) * 4 = off + d * 4 + (q.k + 2) * 4 by omega]
      obtain ⟨P, hP⟩ := hR
      have kb := hP.keep.bel
      have HP : Hid (RowP Q w wr (.slice va L.length vc) L P) := hP
      have hcr : ∀ m x, q.tk[m]? = some x → TokC Q wr b (off + (d + m) * 4) x := fun m x hx => (hcq m x hx).later kb
      obtain ⟨E, hE⟩ : ∃ E, E = q.k + 2 + q.body.tk.length := ⟨_, rfl⟩
      have hdE : d + E < n := by omega
      have HSEMI : Hid (wr.cell? ⟨b, off + (d + E) * 4, none⟩ = some (.int .u8 59)) := by
        have := (hcr E q.semi (by rw [hE]; exact q.last)).kind
        rw [hqok.2.2.2.2] at this
        exact this
      have HIN : Hid (∀ m, m < E → ∃ kk, wr.cell? ⟨b, off + (d + m) * 4, none⟩ = some (.int .u8 kk) ∧ kk ≠ 59) := fun m hm => by
        obtain ⟨x, hx⟩ : ∃ x, q.tk[m]? = some x := ⟨_, List.getElem?_eq_getElem (by omega)⟩
        exact ⟨x.kind, (hcr m x hx).kind, Rl.inner hqok (by omega) hx⟩
      have HNM : Hid (TokC Q w b (off + (d + q.k) * 4) q.name) := hcq q.k q.name q.name_at
      have HBO : Hid (TksA Q w (some ⟨b, off + (d + q.k + 2) * 4, none⟩) q.body.tk) := hbody
      have HF : Hid (∃ k0, wr.cell? ⟨b, off + d * 4, none⟩ = some (.int .u8 k0) ∧ (k0 == 94) = q.car.isSome) := by
        obtain ⟨x, hx⟩ : ∃ x, q.tk[0]? = some x := ⟨_, List.getElem?_eq_getElem (by omega)⟩
        refine ⟨x.kind, (hcr 0 x hx).kind, ?_⟩
        unfold Rl.tk at hx
        obtain ⟨h1, h2, _⟩ := hqok
        cases hc : q.car with
        | none => rw [hc] at hx; simp at hx; subst hx; simp [h2]
        | some c => rw [hc] at hx; simp at hx; subst hx; simp [h1 c hc]
      have HQ : Hid (qs = done ++ q :: rest ∧ L.map (·.q) = done ∧ d = (done.flatMap Rl.tk).length) := ⟨hq, hL, hd⟩
      have hLn : L.length ≤ 1048576 := by
        have h1 : L.length = done.length := by rw [← hL, List.length_map]
        have h2 : ∀ l : List Rl, l.length ≤ (l.flatMap Rl.tk).length := fun l => by
          induction l with
          | nil => simp
          | cons x l ih => have := x.len; simp only [List.flatMap_cons, List.length_append, List.length_cons]; omega
        have := h2 done
        omega
      clear hq hL hd hfl hget hcq hbody hcr hP hcell HN hqok hlen hql
      have hlt' : (d : Int) < n := by omega
      go_wp2
      go_loopw [5] (fun vj w2 => ∃ m, m ≤ E ∧ vj = .int .i64 ((d + m : Nat) : Int) ∧ wr = w2) (fun vj _ => n - (intOf vj).toNat)
      case atStart => exact ⟨0, by omega, rfl, rfl⟩
      case round =>
        obtain ⟨m, hm, rfl, rfl⟩ := hrel
        by_cases hmE : m = E
        · subst hmE
          have ks := HSEMI.out
          obtain ⟨k0, kf, hk0⟩ := HF.out
          clear HF HIN HSEMI
          have hE' : m = q.k + 2 + q.body.tk.length := hE
          have HEE : Hid (m = q.k + 2 + q.body.tk.length) := hE
          clear hE hE'
          obtain ⟨na, nc, n2, n2'⟩ := HNM.out.nm
          obtain ⟨sa, sc, n3, n3'⟩ := HNM.out.set
          have HOL : Hid (Ints Q .u8 w na q.name.nm.length (lf q.name.nm) ∧ Ints Q .i64 w sa q.name.set.length (lf q.name.set)) := ⟨n2', n3'⟩
          have r0 := cell_on HNM.out.kind kb
          have r1 := cell_on HNM.out.at_ kb
          have r2 := cell_on n2 kb
          have r3 := cell_on n3 kb
          clear n2 n3 n2' n3' HNM
          cases hcar : q.car with
          | none =>
            have hk : q.k = 0 := by unfold Rl.k; rw [hcar]; rfl
            rw [hcar] at hk0
            rw [hk] at r0 r1 r2 r3 HBO HEE
            simp only [Nat.add_zero, Option.isSome_none] at r0 r1 r2 r3 hk0 HBO HEE
            obtain rfl : q.name.kind = k0 := by rw [kf] at r0; injection r0 with r0; injection r0 with _ r0; exact r0.symm
            clear kf
            have hmm : m = 2 + q.body.tk.length := by have := HEE.out; omega
            obtain ⟨I2, hI2⟩ : ∃ I2, I2 = d + 2 := ⟨_, rfl⟩
            rw [← hI2] at HBO
            obtain ⟨J, hJ⟩ : ∃ J, J = d + m := ⟨_, rfl⟩
            have z9 : d ≤ J := by omega
            have z2 : I2 ≤ J := by omega
            have z3 : (J : Int) ≤ (c : Int) := by omega
            have z4 : ¬ c = I2 := by omega
            have z5 : q.body.tk.length ≤ c - I2 := by omega
            have z6 : J - I2 = q.body.tk.length := by omega
            have z7 : IntKind.i64.wrap ((d : Int) + 2) = (I2 : Int) := by rw [show (d : Int) + 2 = (I2 : Int) by omega]; exact wrapI (by omega) (by omega)
            have z8 : 0 ≤ (d : Int) := by omega
            have HO3 : Hid (Ints Q .u8 w na q.name.nm.length (lf q.name.nm) ∧ Ints Q .i64 w sa q.name.set.length (lf q.name.set) ∧ TksA Q w (some ⟨b, off + I2 * 4, none⟩) q.body.tk ∧ q.body.tk.length ≤ c - I2) := ⟨HOL.out.1, HOL.out.2, HBO.out, z5⟩
            have HNX : Hid (qs = (done ++ [q]) ++ rest ∧ (L ++ [(⟨q, na, nc, sa, sc, some ⟨b, off + I2 * 4, none⟩, c - I2⟩ : RC)]).map (·.q) = done ++ [q] ∧ J + 1 = ((done ++ [q]).flatMap Rl.tk).length) := by
              obtain ⟨e1, e2, e3⟩ := HQ.out
              refine ⟨by rw [e1]; simp, by rw [List.map_append, e2]; rfl, ?_⟩
              rw [List.flatMap_append, List.length_append, ← e3]
              simp only [List.flatMap_cons, List.flatMap_nil, List.append_nil, q.len]
              omega
            have HSN : Hid (∀ W1 v5 W5, Keep (fun _ => False) wr W1 → OwnC (fun b => P b ∨ W1.heap.size ≤ b) W5 v5 6 (L.length + 1) (L.flatMap rcv ++ rcv ⟨q, na, nc, sa, sc, some ⟨b, off + I2 * 4, none⟩, c - I2⟩) → Grew P W1 W5 → RowR Q w W5 v5 (L ++ [⟨q, na, nc, sa, sc, some ⟨b, off + I2 * 4, none⟩, c - I2⟩])) := fun W1 v5 W5 k ho hg => rowP_snoc (x := ⟨q, na, nc, sa, sc, some ⟨b, off + I2 * 4, none⟩, c - I2⟩) HP.out k HO3.out ho hg
            have HOW : Hid (OwnC P (wr.drew.alloc (.cells #[.bool false, .int .u8 q.name.kind, .int .i64 q.name.at_, .slice na q.name.nm.length nc, .slice sa q.name.set.length sc, .slice (some ⟨b, off + I2 * 4, none⟩) q.body.tk.length (c - I2)] 44)) (.slice va L.length vc) 6 L.length (L.flatMap rcv)) := HP.out.own.on (fun b hb => ((Keep.drew (fun _ => False) wr).trans (Keep.alloc _ _ _)).block b (HP.out.new b hb).2 (fun q => q))
            have HSR : Hid (Src Tryz.prog 6 38 (.slice (some ⟨wr.drew.heap.size, 0, none⟩) 1 1) 1 (rcv ⟨q, na, nc, sa, sc, some ⟨b, off + I2 * 4, none⟩, c - I2⟩) (wr.drew.alloc (.cells #[.bool false, .int .u8 q.name.kind, .int .i64 q.name.at_, .slice na q.name.nm.length nc, .slice sa q.name.set.length sc, .slice (some ⟨b, off + I2 * 4, none⟩) q.body.tk.length (c - I2)] 44))) := by
              have := src_rc wr.drew ⟨q, na, nc, sa, sc, some ⟨b, off + I2 * 4, none⟩, c - I2⟩ (ty := 44)
              simp only [hcar, Option.isSome_none] at this
              exact this
            have hnv : (J : Int) < (n : Int) := by omega
            rw [← hJ] at ks
            rw [← hJ]
            have hlti : (d : Int) < (n : Int) := by omega
            clear hmm HP HOL HBO HQ HEE hI2 hJ
            go_upto_region 10 with fail
            go_region_law
              (refine stepE rfl (.tmp 29) (.tmp 41) 38 38 rfl (v := .slice va L.length vc) (y := .slice (some ⟨wr.drew.heap.size, 0, none⟩) 1 1) (by simp [Act.eval, Act.put]) (by simp [Act.eval, Act.put]) elem38 (Q := P) (n := L.length) (cs := L.flatMap rcv) (m := 1) (news := rcv ⟨q, na, nc, sa, sc, some ⟨b, off + I2 * 4, none⟩, c - I2⟩) HOW.out HSR.out (by omega) ?_
               intro v4 W4 hown4 hgrew4 hsz4
               have HE : Hid (rlI Q w qs v4 (.int .i64 ((J + 1 : Nat) : Int)) W4) := ⟨_, _, _, _, HNX.out.1, HNX.out.2.1, HNX.out.2.2, rfl, HSN.out _ _ _ ((Keep.drew (fun _ => False) wr).trans (Keep.alloc _ _ _)) hown4 hgrew4⟩
               clear hown4 hgrew4 hsz4)
            all_goals go_goals
            all_goals (
              go_wp2
              go_roundw
              all_goals first
                | exact HE.out
                | (simp [intOf]; omega)
                | omega)
          | some cc =>
            have hk : q.k = 1 := by unfold Rl.k; rw [hcar]; rfl
            rw [hcar] at hk0
            rw [hk] at r0 r1 r2 r3 HBO HEE
            simp only [Option.isSome_some] at r0 r1 r2 r3 hk0 HBO HEE
            have hmm : m = 3 + q.body.tk.length := by have := HEE.out; omega
            obtain ⟨I2, hI2⟩ : ∃ I2, I2 = d + 1 + 2 := ⟨_, rfl⟩
            rw [← hI2] at HBO
            obtain ⟨J, hJ⟩ : ∃ J, J = d + m := ⟨_, rfl⟩
            have z9 : d ≤ J := by omega
            have z2 : I2 ≤ J := by omega
            have z3 : (J : Int) ≤ (c : Int) := by omega
            have z4 : ¬ c = I2 := by omega
            have z5 : q.body.tk.length ≤ c - I2 := by omega
            have z6 : J - I2 = q.body.tk.length := by omega
            have z7 : IntKind.i64.wrap (((d : Int) + 1) + 2) = (I2 : Int) := by rw [show ((d : Int) + 1) + 2 = (I2 : Int) by omega]; exact wrapI (by omega) (by omega)
            have z8 : 0 ≤ ((d : Int) + 1) := by omega
            have HO3 : Hid (Ints Q .u8 w na q.name.nm.length (lf q.name.nm) ∧ Ints Q .i64 w sa q.name.set.length (lf q.name.set) ∧ TksA Q w (some ⟨b, off + I2 * 4, none⟩) q.body.tk ∧ q.body.tk.length ≤ c - I2) := ⟨HOL.out.1, HOL.out.2, HBO.out, z5⟩
            have HNX : Hid (qs = (done ++ [q]) ++ rest ∧ (L ++ [(⟨q, na, nc, sa, sc, some ⟨b, off + I2 * 4, none⟩, c - I2⟩ : RC)]).map (·.q) = done ++ [q] ∧ J + 1 = ((done ++ [q]).flatMap Rl.tk).length) := by
              obtain ⟨e1, e2, e3⟩ := HQ.out
              refine ⟨by rw [e1]; simp, by rw [List.map_append, e2]; rfl, ?_⟩
              rw [List.flatMap_append, List.length_append, ← e3]
              simp only [List.flatMap_cons, List.flatMap_nil, List.append_nil, q.len]
              omega
            have HSN : Hid (∀ W1 v5 W5, Keep (fun _ => False) wr W1 → OwnC (fun b => P b ∨ W1.heap.size ≤ b) W5 v5 6 (L.length + 1) (L.flatMap rcv ++ rcv ⟨q, na, nc, sa, sc, some ⟨b, off + I2 * 4, none⟩, c - I2⟩) → Grew P W1 W5 → RowR Q w W5 v5 (L ++ [⟨q, na, nc, sa, sc, some ⟨b, off + I2 * 4, none⟩, c - I2⟩])) := fun W1 v5 W5 k ho hg => rowP_snoc (x := ⟨q, na, nc, sa, sc, some ⟨b, off + I2 * 4, none⟩, c - I2⟩) HP.out k HO3.out ho hg
            have HOW : Hid (OwnC P (wr.drew.alloc (.cells #[.bool true, .int .u8 q.name.kind, .int .i64 q.name.at_, .slice na q.name.nm.length nc, .slice sa q.name.set.length sc, .slice (some ⟨b, off + I2 * 4, none⟩) q.body.tk.length (c - I2)] 44)) (.slice va L.length vc) 6 L.length (L.flatMap rcv)) := HP.out.own.on (fun b hb => ((Keep.drew (fun _ => False) wr).trans (Keep.alloc _ _ _)).block b (HP.out.new b hb).2 (fun q => q))
            have HSR : Hid (Src Tryz.prog 6 38 (.slice (some ⟨wr.drew.heap.size, 0, none⟩) 1 1) 1 (rcv ⟨q, na, nc, sa, sc, some ⟨b, off + I2 * 4, none⟩, c - I2⟩) (wr.drew.alloc (.cells #[.bool true, .int .u8 q.name.kind, .int .i64 q.name.at_, .slice na q.name.nm.length nc, .slice sa q.name.set.length sc, .slice (some ⟨b, off + I2 * 4, none⟩) q.body.tk.length (c - I2)] 44))) := by
              have := src_rc wr.drew ⟨q, na, nc, sa, sc, some ⟨b, off + I2 * 4, none⟩, c - I2⟩ (ty := 44)
              simp only [hcar, Option.isSome_some] at this
              exact this
            have hnv : (J : Int) < (n : Int) := by omega
            rw [← hJ] at ks
            rw [← hJ]
            have hlti : ((d : Int) + 1) < (n : Int) := by omega
            clear hmm HP HOL HBO HQ HEE hI2 hJ
            go_upto_region 10 with fail
            go_region_law
              (refine stepE rfl (.tmp 29) (.tmp 41) 38 38 rfl (v := .slice va L.length vc) (y := .slice (some ⟨wr.drew.heap.size, 0, none⟩) 1 1) (by simp [Act.eval, Act.put]) (by simp [Act.eval, Act.put]) elem38 (Q := P) (n := L.length) (cs := L.flatMap rcv) (m := 1) (news := rcv ⟨q, na, nc, sa, sc, some ⟨b, off + I2 * 4, none⟩, c - I2⟩) HOW.out HSR.out (by omega) ?_
               intro v4 W4 hown4 hgrew4 hsz4
               have HE : Hid (rlI Q w qs v4 (.int .i64 ((J + 1 : Nat) : Int)) W4) := ⟨_, _, _, _, HNX.out.1, HNX.out.2.1, HNX.out.2.2, rfl, HSN.out _ _ _ ((Keep.drew (fun _ => False) wr).trans (Keep.alloc _ _ _)) hown4 hgrew4⟩
               clear hown4 hgrew4 hsz4)
            all_goals go_goals
            all_goals (
              go_wp2
              go_roundw
              all_goals first
                | exact HE.out
                | (simp [intOf]; omega)
                | omega)
        · obtain ⟨kk, ks, hk⟩ := HIN.out m (by omega)
          have hk' : (kk != 59) = true := by simpa using hk
          have hlt2 : ((d + m : Nat) : Int) < n := by omega
          clear HF HIN HSEMI
          go_wp2
          go_roundw
          case rel => exact ⟨m + 1, by omega, by go_num, by trivial⟩
          case measure => simp [intOf]; omega
end
end Go.Proofs.YteoddjobpmmgeaaGreat
