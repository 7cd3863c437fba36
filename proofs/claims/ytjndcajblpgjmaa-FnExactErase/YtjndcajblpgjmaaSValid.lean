/-
  Walks: the model's ValidGrammar.
-/
import Derived.Test.YtjndcajblpgjmaaValid
import Derived.BigQuiet
namespace Go.Proofs.Ytjndcajblpgjmaa
open Go.RowKit
open M (OpD NodeD Gr)
set_option linter.unusedVariables false

/-- A region that draws its order, whose operations leave the world within a family of worlds and read the same in each of them. -/
theorem region_family {P : Program} {ι : Type} (F : ι → World) {id : Nat} {Q : Exit → Act → World → Prop} {a : Act} {w : World} {l : List Oper} (hm : P.follows .mixedOrders = true) (hB : Region.lexB .any l.toArray = true)
    (hC : ∃ n, w.drew = F n) (h : wpQuiet P l.toArray (fun w' => ∃ n, w' = F n) (fun a' => ∀ w', (∃ n, w' = F n) → Q .normal a' w') l a) : (Code.region id l.toArray true).wp P Q a w :=
  wp_region_quiet (C := fun w' => ∃ n, w' = F n) hm hB hC (by simpa using h)

/-- All worlds that are as w was, as a family. -/
theorem family (w : World) : ∃ (ι : Type) (_ : Nonempty ι) (F : ι → World), (∀ n, Below w.heap.size w (F n)) ∧ ∀ W, Below w.heap.size w W → ∃ n, W = F n :=
  ⟨{W : World // Below w.heap.size w W}, ⟨⟨w, Below.refl _ w⟩⟩, Subtype.val, fun n => n.2, fun W h => ⟨⟨W, h⟩, rfl⟩⟩

theorem says_in {P : Prop} {ι : Type} {F : ι → World} {w : World} {f : FuncId} {args : Array Value} {n : ι} (hF : Below w.heap.size w (F n)) (hF' : ∀ W, Below w.heap.size w W → ∃ n, W = F n) {r : Bool} (hr : r = true ↔ P)
    (h : Calls Try.prog f args (F n) (SaysB P (F n))) : Calls Try.prog f args (F n) fun e w'' => e = .returned (.bool r) ∧ ∃ m, w'' = F m :=
  h.mono fun e W q => by
    obtain ⟨⟨r', rfl, h1⟩, h2⟩ := q
    have : r' = r := by
      cases r <;> cases r' <;> first | rfl | exact absurd (hr.2 (h1.1 rfl)) (by decide) | exact absurd (h1.2 (hr.1 rfl)) (by decide)
    exact ⟨by rw [this], hF' W (bel_tr hF h2)⟩

def RuleOK (g : Gr) (i : Nat) : Prop := M.NameOK (g.rule i).nl (g.rule i).name ∧ M.BodyOK g.nr g.nb (g.rule i).bl (g.rule i).body ∧ ∀ j, j < i → ¬ M.SameName (g.rule i) (g.rule j)
def Thrown (g : Gr) (i : Nat) : Prop := (∃ j, j < g.nr ∧ M.Throws (g.rule j).bl (g.rule j).body i) ∨ ∃ j, j < g.nb ∧ M.Throws (g.lab j).bl (g.lab j).body i
def LabOK (g : Gr) (i : Nat) : Prop := M.NameOK (g.lab i).nl (g.lab i).name ∧ (0 < i → M.LessName (g.lab (i - 1)) (g.lab i)) ∧
  ((g.lab i).has = true → M.BodyOK g.nr g.nb (g.lab i).bl (g.lab i).body) ∧ ((g.lab i).has = false → Thrown g i ∧ (g.lab i).bl = 0)

theorem svalid_iff (g : Gr) : M.Valid g ↔ 0 < g.nr ∧ g.nr ≤ 100 ∧ g.nb ≤ 100 ∧ (∀ i, i < g.nr → RuleOK g i) ∧ (∀ i, i < g.nb → LabOK g i) ∧ M.ops g ≤ 2000 := by
  constructor
  · intro h
    exact ⟨h.r1, h.r2, h.l2, fun i hi => ⟨h.rn i hi, h.rb i hi, h.ru i hi⟩, fun i hi => ⟨h.ln i hi, h.la i hi, h.lb i hi, fun q => ⟨h.lt i hi q, h.lz i hi q⟩⟩, h.ol⟩
  · rintro ⟨h1, h2, h3, h4, h5, h6⟩
    exact { r1 := h1, r2 := h2, l2 := h3, rn := fun i hi => (h4 i hi).1, ru := fun i hi => (h4 i hi).2.2, ln := fun i hi => (h5 i hi).1, la := fun i hi => (h5 i hi).2.1,
            rb := fun i hi => (h4 i hi).2.1, lb := fun i hi => (h5 i hi).2.2.1, lz := fun i hi q => ((h5 i hi).2.2.2 q).2, lt := fun i hi q => ((h5 i hi).2.2.2 q).1, ol := h6 }

theorem sum_bd (f : Nat → Nat) (N : Nat) : ∀ n, (∀ i, i < n → f i ≤ N) → M.sum f n ≤ n * N
  | 0, _ => Nat.zero_le _
  | n + 1, h => by
    have h1 := sum_bd f N n (fun i hi => h i (by omega))
    have h2 := h n (by omega)
    rw [M.sum, Nat.add_mul]
    omega

def srulesI (W1 : World) (g : Gr) (o i : Value) (wr : World) : Prop :=
  ∃ k : Nat, k ≤ g.nr ∧ o = .int .i64 ((M.sum (fun i => (g.rule i).bl) k : Nat) : Int) ∧ i = .int .i64 (k : Int) ∧ Below W1.heap.size W1 wr ∧ ∀ j, j < k → RuleOK g j

def sameI (V : World) (g : Gr) (k : Nat) (j : Value) (wr : World) : Prop :=
  ∃ m d : Nat, m ≤ k ∧ j = .int .i64 (m : Int) ∧ wr = V.drewN d ∧ ∀ t, t < m → ¬ M.SameName (g.rule k) (g.rule t)
def slabsI (W1 : World) (g : Gr) (o i : Value) (wr : World) : Prop :=
  ∃ k : Nat, k ≤ g.nb ∧ o = .int .i64 ((M.sum (fun i => (g.rule i).bl) g.nr + M.sum (fun i => (g.lab i).bl) k : Nat) : Int) ∧ i = .int .i64 (k : Int) ∧ Below W1.heap.size W1 wr ∧ ∀ j, j < k → LabOK g j
def thrownI (V : World) (n : Nat) (p : Nat → Prop) (P0 : Prop) (t j : Value) (wr : World) : Prop :=
  ∃ (m : Nat) (b : Bool), m ≤ n ∧ j = .int .i64 (m : Int) ∧ t = .bool b ∧ wr = V ∧ (b = true ↔ P0 ∨ ∃ q, q < m ∧ p q)
theorem ex_snoc {p : Nat → Prop} {m : Nat} : (∃ q, q < m + 1 ∧ p q) ↔ (∃ q, q < m ∧ p q) ∨ p m := by
  constructor
  · rintro ⟨q, hq, h⟩
    by_cases e : q = m
    · subst e; exact .inr h
    · exact .inl ⟨q, by omega, h⟩
  · rintro (⟨q, hq, h⟩ | h)
    · exact ⟨q, by omega, h⟩
    · exact ⟨m, by omega, h⟩

set_option maxRecDepth 100000 in
set_option maxHeartbeats 8000000 in
theorem svalid_any (Q : Nat → Prop) (ra la : Option Addr) (rc lc : Nat) (g : Gr) (w : World) (hG : GramA Q w ra la g) (hs : SmallG g) :
    Calls Try.prog 16 #[.agg #[.slice ra g.nr rc, .slice la g.nb lc]] w (SaysB (M.Valid g) w) := by
  have h1 := hs.nr
  have h2 := hs.nb
  by_cases n1 : g.nr < 1
  · have t1 : (g.nr : Int) < 1 := by omega
    go_enter Try.func16, Try.ntmps16
    go_wp2
    go_ret
    exact ⟨⟨false, rfl, iffF fun q => by have := q.r1; omega⟩, bel1 w _⟩
  have t1 : ¬ (g.nr : Int) < 1 := by omega
  by_cases n2 : 100 < g.nr
  · have t2 : (100 : Int) < (g.nr : Int) := by omega
    go_enter Try.func16, Try.ntmps16
    go_wp2
    go_ret
    exact ⟨⟨false, rfl, iffF fun q => by have := q.r2; omega⟩, bel1 w _⟩
  have t2 : ¬ (100 : Int) < (g.nr : Int) := by omega
  by_cases n3 : 100 < g.nb
  · have t3 : (100 : Int) < (g.nb : Int) := by omega
    go_enter Try.func16, Try.ntmps16
    go_wp2
    go_ret
    exact ⟨⟨false, rfl, iffF fun q => by have := q.l2; omega⟩, bel1 w _⟩
  have t3 : ¬ (100 : Int) < (g.nb : Int) := by omega
  have HR : Hid (RulesA Q w ra g.nr g.rule) := hG.rules
  have HL : Hid (LabsA Q w la g.nb g.lab) := hG.labs
  have S1 : Hid (∀ i, i < g.nr → SmallN (g.rule i)) := hs.rule
  have S2 : Hid (∀ i, i < g.nb → SmallN (g.lab i)) := hs.lab
  clear hG hs
  go_enter Try.func16, Try.ntmps16
  go_wp2
  go_loopw [3, 4] (fun o i wr => srulesI (w.alloc (.cells #[.slice ra g.nr rc, .slice la g.nb lc] 36)) g o i wr) (fun o i _ => g.nr - (intOf i).toNat)
  case atStart => exact ⟨0, Nat.zero_le _, rfl, rfl, Below.refl _ _, fun j hj => absurd hj (Nat.not_lt_zero _)⟩
  case round =>
    obtain ⟨k, hk, rfl, rfl, hbel, hall⟩ := hrel
    have HA : Hid (∀ j, j < k → RuleOK g j) := hall
    clear hall
    have hbw : Below w.heap.size w wr := bel_tr (bel1 w _) hbel
    have g0 : wr.cell? ⟨w.heap.size, 0, none⟩ = some (.slice ra g.nr rc) := cell_on (by simp) hbel
    have g1 : wr.cell? ⟨w.heap.size, 1, none⟩ = some (.slice la g.nb lc) := cell_on (by simp) hbel
    have hsz : w.heap.size < wr.heap.size := by have := hbel.size; simp at this; omega
    by_cases hlt : k < g.nr
    · have hlt' : (k : Int) < (g.nr : Int) := by omega
      have hR := HR.out.later hbw
      rcases hR with h0 | ⟨b, off, rfl, hq, hR⟩
      · omega
      obtain ⟨⟨na, nc, c0, hn⟩, ⟨ba, bc, c1, hb⟩⟩ := hR k hlt
      have hbl : b < wr.heap.size := lt_of_cell c0
      have hsb : M.sum (fun i => (g.rule i).bl) k ≤ k * 1048576 := sum_bd _ _ _ (fun i hi => (S1.out i (by omega)).body.1)
      have hso : M.sum (fun i => (g.rule i).bl) k ≤ 104857600 := by have : k * 1048576 ≤ 100 * 1048576 := Nat.mul_le_mul_right _ (by omega); omega
      have hbb := (S1.out k hlt).body.1
      have HSS : Hid (M.sum (fun i => (g.rule i).bl) (k + 1) = M.sum (fun i => (g.rule i).bl) k + (g.rule k).bl) := rfl
      generalize M.sum (fun i => (g.rule i).bl) k = so at hso HSS hsb ⊢
      clear hsb
      have HBW : Hid (Below w.heap.size w wr) := hbw
      have HBE : Hid (Below (w.alloc (.cells #[.slice (some ⟨b, off, none⟩) g.nr rc, .slice la g.nb lc] 36)).heap.size (w.alloc (.cells #[.slice (some ⟨b, off, none⟩) g.nr rc, .slice la g.nb lc] 36)) wr) := hbel
      have HO : Hid (OpsA Q wr ba (g.rule k).bl (g.rule k).body) := hb
      have HI : Hid (Ints Q .u8 wr na (g.rule k).nl (g.rule k).name) := hn
      have HRR : Hid (∀ i, i < g.nr → RuleC Q wr b (off + i * 2) (g.rule i)) := hR
      have SB := S1.out k hlt
      have HSB : Hid (SmallN (g.rule k)) := SB
      clear hR hbw hbel hn hb SB
      obtain ⟨ι, hne, F, hF, hF'⟩ := family wr
      have f0 : ∀ n, (F n).cell? ⟨w.heap.size, 0, none⟩ = some (.slice (some ⟨b, off, none⟩) g.nr rc) := fun n => cell_on g0 (hF n)
      have f1 : ∀ n, (F n).cell? ⟨w.heap.size, 1, none⟩ = some (.slice la g.nb lc) := fun n => cell_on g1 (hF n)
      have f2 : ∀ n, (F n).cell? ⟨b, off + k * 2, none⟩ = some (.slice na (g.rule k).nl nc) := fun n => cell_on c0 (hF n)
      have f3 : ∀ n, (F n).cell? ⟨b, off + k * 2 + 1, none⟩ = some (.slice ba (g.rule k).bl bc) := fun n => cell_on c1 (hF n)
      have HC : Hid (∃ n, wr.drew = F n) := hF' _ (Below.refl _ wr).drew
      have HF : Hid (∀ n, Below wr.heap.size wr (F n)) := hF
      have HF' : Hid (∀ W, Below wr.heap.size wr W → ∃ n, W = F n) := hF'
      clear hF hF'
      by_cases en : M.NameOK (g.rule k).nl (g.rule k).name
      · have HN : Hid (M.NameOK (g.rule k).nl (g.rule k).name) := en
        clear en
        by_cases eb : M.BodyOK g.nr g.nb (g.rule k).bl (g.rule k).body
        · have HB : Hid (M.BodyOK g.nr g.nb (g.rule k).bl (g.rule k).body) := eb
          clear eb
          go_wp2_with fail
          refine region_family F (by kernel_rfl) (by kernel_rfl) HC.out ?_
          repeat (go_big_quiet_step (first | (go_at_call 52; exact says_in (HF.out _) HF'.out (iffT HN.out) ((l2name_any Q na (g.rule k).nl nc (g.rule k).name _ (HI.out.later (HF.out _)) HSB.out.byt HSB.out.name).mono (fun e W q => q.b))) | (go_at_call 53; exact says_in (HF.out _) HF'.out (iffT HB.out) (l2bodyOK_any Q ba g.nr g.nb (g.rule k).bl bc (g.rule k).body _ (HO.out.later (HF.out _)) h1 h2 HSB.out.body))))
          refine wpQuiet_nil ?_
          rintro _ ⟨nq, rfl⟩
          obtain ⟨V, hV⟩ : ∃ V, F nq = V := ⟨_, rfl⟩
          have bV : Below wr.heap.size wr V := hV ▸ HF.out nq
          rw [hV]
          clear hV f0 f1 f2 f3 HC HF HF' nq
          have v0 : V.cell? ⟨w.heap.size, 0, none⟩ = some (.slice (some ⟨b, off, none⟩) g.nr rc) := cell_on g0 bV
          have v2 : V.cell? ⟨b, off + k * 2, none⟩ = some (.slice na (g.rule k).nl nc) := cell_on c0 bV
          have HBV : Hid (Below wr.heap.size wr V) := bV
          have hcv : ∀ n, (convert 22 9 (.slice na (g.rule k).nl nc)).run Try.prog (V.drewN n) = .ok (.string (str (g.rule k).nl (g.rule k).name)) (V.drewN n) := fun n => conv_run Q na (g.rule k).nl nc (g.rule k).name _ (HI.out.later (below_drewN bV n))
          have HS1 : Hid ((str (g.rule k).nl (g.rule k).name).toList = u8s (g.rule k).nl (g.rule k).name) := str_list _ _
          generalize str (g.rule k).nl (g.rule k).name = s1 at hcv HS1
          clear bV g0 g1 c0 c1
          go_wp2
          go_loopw [5] (fun j wr' => sameI V g k j wr') (fun j _ => k - (intOf j).toNat)
          case atStart => exact ⟨0, 0, Nat.zero_le _, rfl, rfl, fun t ht => absurd ht (Nat.not_lt_zero _)⟩
          case round =>
            obtain ⟨m, d, hm, rfl, rfl, hall⟩ := hrel
            have HM : Hid (∀ t, t < m → ¬ M.SameName (g.rule k) (g.rule t)) := hall
            clear hall
            by_cases hmk : m < k
            · have hmk' : (m : Int) < (k : Int) := by omega
              have hmn : (m : Int) < (g.nr : Int) := by omega
              obtain ⟨⟨na', nc', d0, hn'⟩, _⟩ := HRR.out m (by omega)
              have v3 : V.cell? ⟨b, off + m * 2, none⟩ = some (.slice na' (g.rule m).nl nc') := cell_on d0 HBV.out
              have hcv' : ∀ n, (convert 22 9 (.slice na' (g.rule m).nl nc')).run Try.prog (V.drewN n) = .ok (.string (str (g.rule m).nl (g.rule m).name)) (V.drewN n) := fun n => conv_run Q na' (g.rule m).nl nc' (g.rule m).name _ (hn'.later (below_drewN HBV.out n))
              have HS2 : Hid ((str (g.rule m).nl (g.rule m).name).toList = u8s (g.rule m).nl (g.rule m).name) := str_list _ _
              generalize str (g.rule m).nl (g.rule m).name = s2 at hcv' HS2
              have HEQ : Hid ((s1.toList = s2.toList) ↔ M.SameName (g.rule k) (g.rule m)) := by
                show _ ↔ _
                rw [HS1.out, HS2.out]; exact same_iff _ _ HSB.out.byt (S1.out m (by omega)).byt
              have hcw : ∀ n, (convert 22 9 (.slice na (g.rule k).nl nc)).run Try.prog ((V.drewN d).drewN n) = .ok (.string s1) ((V.drewN d).drewN n) := fun n => by rw [World.drewN_drewN]; exact hcv _
              have hcw' : ∀ n, (convert 22 9 (.slice na' (g.rule m).nl nc')).run Try.prog ((V.drewN d).drewN n) = .ok (.string s2) ((V.drewN d).drewN n) := fun n => by rw [World.drewN_drewN]; exact hcv' _
              clear hn' d0
              by_cases es : s1.toList = s2.toList
              · have fe : (s1.toList == s2.toList) = true := by simp [es]
                have HES : Hid (s1.toList = s2.toList) := es
                clear es
                go_wp2_with fail
                go_quiet (fail)
                go_wp2
                go_ret
                exact ⟨⟨false, rfl, iffF fun q => q.ru k hlt m hmk (HEQ.out.1 HES.out)⟩, by first | exact below_drewN (bel_tr HBW.out HBV.out) _ | exact below_drewN (below_drewN (bel_tr HBW.out HBV.out) _) _⟩
              · have fe : (s1.toList == s2.toList) = false := by simp [es]
                have HES : Hid (¬ s1.toList = s2.toList) := es
                clear es
                go_wp2_with fail
                go_quiet (fail)
                go_wp2
                go_roundw
                case rel => exact ⟨m + 1, _, by omega, by go_num, rfl, all_snoc HM.out (fun q => HES.out (HEQ.out.2 q))⟩
                case measure => simp [intOf]; omega
            · obtain rfl : m = k := by omega
              go_wp2
              go_roundw
              case rel => exact ⟨m + 1, by omega, val_int (by have := HSS.out; omega), by go_num, bel_tr HBE.out (below_drewN HBV.out _), all_snoc HA.out ⟨HN.out, HB.out, HM.out⟩⟩
              case measure => simp [intOf]; omega
        · have HB : Hid (¬ M.BodyOK g.nr g.nb (g.rule k).bl (g.rule k).body) := eb
          clear eb
          go_wp2_with fail
          refine region_family F (by kernel_rfl) (by kernel_rfl) HC.out ?_
          repeat (go_big_quiet_step (first | (go_at_call 52; exact says_in (HF.out _) HF'.out (iffT HN.out) ((l2name_any Q na (g.rule k).nl nc (g.rule k).name _ (HI.out.later (HF.out _)) HSB.out.byt HSB.out.name).mono (fun e W q => q.b))) | (go_at_call 53; exact says_in (HF.out _) HF'.out (iffF HB.out) (l2bodyOK_any Q ba g.nr g.nb (g.rule k).bl bc (g.rule k).body _ (HO.out.later (HF.out _)) h1 h2 HSB.out.body))))
          refine wpQuiet_nil ?_
          rintro _ ⟨nq, rfl⟩
          go_wp2
          go_ret
          exact ⟨⟨false, rfl, iffF fun q => HB.out (q.rb k hlt)⟩, bel_tr HBW.out (HF.out nq)⟩
      · have HN : Hid (¬ M.NameOK (g.rule k).nl (g.rule k).name) := en
        clear en
        go_wp2_with fail
        refine region_family F (by kernel_rfl) (by kernel_rfl) HC.out ?_
        repeat (go_big_quiet_step (first | (go_at_call 52; exact says_in (HF.out _) HF'.out (iffF HN.out) ((l2name_any Q na (g.rule k).nl nc (g.rule k).name _ (HI.out.later (HF.out _)) HSB.out.byt HSB.out.name).mono (fun e W q => q.b)))))
        refine wpQuiet_nil ?_
        rintro _ ⟨nq, rfl⟩
        go_wp2
        go_ret
        exact ⟨⟨false, rfl, iffF fun q => HN.out (q.rn k hlt)⟩, bel_tr HBW.out (HF.out nq)⟩
    · obtain rfl : k = g.nr := by omega
      obtain ⟨W1, eW⟩ : ∃ W1, wr = W1 := ⟨_, rfl⟩
      subst wr
      have HBW : Hid (Below w.heap.size w W1) := hbw
      have HL' : Hid (LabsA Q W1 la g.nb g.lab) := HL.out.later hbw
      have HR' : Hid (RulesA Q W1 ra g.nr g.rule) := HR.out.later hbw
      have hsr : M.sum (fun i => (g.rule i).bl) g.nr ≤ 104857600 := by
        have h := sum_bd (fun i => (g.rule i).bl) 1048576 g.nr (fun i hi => (S1.out i hi).body.1)
        have : g.nr * 1048576 ≤ 100 * 1048576 := Nat.mul_le_mul_right _ (by omega)
        omega
      have HOPS : Hid (M.ops g = M.sum (fun i => (g.rule i).bl) g.nr + M.sum (fun i => (g.lab i).bl) g.nb) := rfl
      clear hbel hbw HL HR
      go_wp2
      go_loopw [3, 6] (fun o i wr' => slabsI W1 g o i wr') (fun o i _ => g.nb - (intOf i).toNat)
      case atStart => exact ⟨0, Nat.zero_le _, rfl, rfl, Below.refl _ _, fun j hj => absurd hj (Nat.not_lt_zero _)⟩
      case round =>
        obtain ⟨m, hm, rfl, rfl, hbel, hall⟩ := hrel
        have HM : Hid (∀ j, j < m → LabOK g j) := hall
        clear hall
        have HBE : Hid (Below W1.heap.size W1 wr) := hbel
        have HBX : Hid (Below w.heap.size w wr) := bel_tr HBW.out hbel
        have e0 : wr.cell? ⟨w.heap.size, 0, none⟩ = some (.slice ra g.nr rc) := cell_on g0 hbel
        have e1 : wr.cell? ⟨w.heap.size, 1, none⟩ = some (.slice la g.nb lc) := cell_on g1 hbel
        have esz : w.heap.size < wr.heap.size := Nat.lt_of_lt_of_le hsz hbel.size
        have hsl : M.sum (fun i => (g.lab i).bl) m ≤ 104857600 := by
          have h := sum_bd (fun i => (g.lab i).bl) 1048576 m (fun i hi => (S2.out i (by omega)).body.1)
          have : m * 1048576 ≤ 100 * 1048576 := Nat.mul_le_mul_right _ (by omega)
          omega
        clear g0 g1 hsz
        by_cases hlt : m < g.nb
        · have hlt' : (m : Int) < (g.nb : Int) := by omega
          have HSS : Hid (M.sum (fun i => (g.lab i).bl) (m + 1) = M.sum (fun i => (g.lab i).bl) m + (g.lab m).bl) := rfl
          have HRW : Hid (RulesA Q wr ra g.nr g.rule) := HR'.out.later hbel
          have hL := HL'.out.later hbel
          rcases hL with h0 | ⟨b, off, rfl, hq, hL⟩
          · omega
          have HLL : Hid (∀ i, i < g.nb → LabC Q wr b (off + i * 3) (g.lab i)) := hL
          obtain ⟨⟨na, nc, c0, hn⟩, c1, ⟨ba, bc, c2, hb⟩⟩ := hL m hlt
          have hbl : b < wr.heap.size := lt_of_cell c0
          have hnl := (S2.out m hlt).name
          have hbb := (S2.out m hlt).body.1
          have HSB : Hid (SmallN (g.lab m)) := S2.out m hlt
          have HI : Hid (∀ o d, Ints Q .u8 ((wr.alloc o).drewN d) na (g.lab m).nl (g.lab m).name) := fun o d => hn.later (below_drewN (bel1 wr o) d)
          have HO : Hid (∀ o d, OpsA Q ((wr.alloc o).drewN d) ba (g.lab m).bl (g.lab m).body) := fun o d => hb.later (below_drewN (bel1 wr o) d)
          have HSR : Hid (∃ sr, M.sum (fun i => (g.rule i).bl) g.nr = sr) := ⟨_, rfl⟩
          obtain ⟨sr, hsr'⟩ := HSR.out
          rw [hsr'] at hsr HOPS ⊢
          clear HSR
          have HSR : Hid (M.sum (fun i => (g.rule i).bl) g.nr = sr) := hsr'
          clear hsr'
          generalize M.sum (fun i => (g.lab i).bl) m = so at hsl HSS ⊢
          clear hL hb hn hbel
          by_cases en : M.NameOK (g.lab m).nl (g.lab m).name
          · have HN : Hid (M.NameOK (g.lab m).nl (g.lab m).name) := en
            have HQN : Hid (∀ o d, Calls Try.prog 52 #[.slice na (g.lab m).nl nc] ((wr.alloc o).drewN d) fun e w' => e = .returned (.bool true) ∧ w' = (wr.alloc o).drewN d) := fun o d =>
              (l2name_any Q na (g.lab m).nl nc (g.lab m).name _ (HI.out o d) HSB.out.byt hnl).mono (fun e W h => by obtain ⟨⟨r, rfl, hr⟩, rfl⟩ := h; rw [hr.2 en]; exact ⟨rfl, rfl⟩)
            clear en
            by_cases hz : m = 0
            · have LESS : Hid (0 < m → M.LessName (g.lab (m - 1)) (g.lab m)) := fun q => by omega
              have fz : decide (0 < m) = false := by simp [hz]
              have fz' : decide ((0 : Int) < (m : Int)) = false := by simp [hz]
              have hz' : ¬ (0 < m) := by omega
              clear hz
              cases hh : (g.lab m).has with
              | true =>
                have HH : Hid ((g.lab m).has = true) := hh
                rw [hh] at c1
                clear hh
                go_wp2_with fail
                go_quiet (first | (go_at_call 52; exact Calls.quiet_of_same (HQN.out _ _)))
                by_cases eb : M.BodyOK g.nr g.nb (g.lab m).bl (g.lab m).body
                · have HB : Hid (M.BodyOK g.nr g.nb (g.lab m).bl (g.lab m).body) := eb
                  clear eb
                  go_wp2_with (go_at_call 53; refine (l2bodyOK_any Q ba g.nr g.nb (g.lab m).bl bc (g.lab m).body _ (HO.out _ _) h1 h2 HSB.out.body).mono ?_; rintro e W ⟨⟨r, rfl, hr⟩, hw⟩; obtain rfl : r = true := hr.2 HB.out; have HW : Hid _ := hw; clear hr hw)
                  go_roundw
                  case rel => exact ⟨m + 1, by omega, val_int (by have := HSS.out; have := HSR.out; omega), by go_num, bel_tr HBE.out (bel_tr (below_drewN (bel1 wr _) _) HW.out), all_snoc HM.out ⟨HN.out, LESS.out, fun _ => HB.out, fun q => absurd (HH.out.symm.trans q) (by decide)⟩⟩
                  case measure => simp [intOf]; omega
                · have HB : Hid (¬ M.BodyOK g.nr g.nb (g.lab m).bl (g.lab m).body) := eb
                  clear eb
                  go_wp2_with (go_at_call 53; refine (l2bodyOK_any Q ba g.nr g.nb (g.lab m).bl bc (g.lab m).body _ (HO.out _ _) h1 h2 HSB.out.body).mono ?_; rintro e W ⟨⟨r, rfl, hr⟩, hw⟩; obtain rfl : r = false := by { cases r; rfl; exact absurd (hr.1 rfl) HB.out }; have HW : Hid _ := hw; clear hr hw)
                  go_ret
                  exact ⟨⟨false, rfl, iffF fun q => HB.out (q.lb m hlt HH.out)⟩, bel_tr HBX.out (bel_tr (below_drewN (bel1 wr _) _) HW.out)⟩
              | false =>
                have HH : Hid ((g.lab m).has = false) := hh
                rw [hh] at c1
                clear hh
                go_wp2_with fail
                go_quiet (first | (go_at_call 52; exact Calls.quiet_of_same (HQN.out _ _)))
                obtain ⟨V2, hV2⟩ : ∃ V2, (wr.alloc (Obj.cells #[Value.slice na (g.lab m).nl nc, Value.bool false, Value.slice ba (g.lab m).bl bc] 80)).drewN nq = V2 := ⟨_, rfl⟩
                have bV2 : Below wr.heap.size wr V2 := hV2 ▸ below_drewN (bel1 wr _) _
                have v3 : V2.cell? ⟨wr.heap.size, 1, none⟩ = some (.bool false) := by rw [← hV2]; simp
                have v2 : V2.cell? ⟨wr.heap.size, 2, none⟩ = some (.slice ba (g.lab m).bl bc) := by rw [← hV2]; simp
                have v0 : V2.cell? ⟨w.heap.size, 0, none⟩ = some (.slice ra g.nr rc) := cell_on e0 bV2
                have v1 : V2.cell? ⟨w.heap.size, 1, none⟩ = some (.slice (some ⟨b, off, none⟩) g.nb lc) := cell_on e1 bV2
                rw [hV2]
                have HBV : Hid (Below wr.heap.size wr V2) := bV2
                have HRV : Hid (RulesA Q V2 ra g.nr g.rule) := HRW.out.later bV2
                have HLV : Hid (∀ i, i < g.nb → LabC Q V2 b (off + i * 3) (g.lab i)) := fun i hi => (HLL.out i hi).later bV2
                clear hV2 bV2 c0 c1 c2 e0 e1 HI HO HQN HLL HRW
                go_wp2
                go_loopw [8, 9] (fun t j wr' => thrownI V2 g.nr (fun q => M.Throws (g.rule q).bl (g.rule q).body m) False t j wr') (fun t j _ => g.nr - (intOf j).toNat)
                case atStart => exact ⟨0, false, Nat.zero_le _, rfl, rfl, rfl, iffF (fun q => q.elim id (fun ⟨_, h, _⟩ => absurd h (Nat.not_lt_zero _)))⟩
                case round =>
                  obtain ⟨q, bt, hq, rfl, rfl, hwv, hbt⟩ := hrel
                  subst hwv
                  by_cases hqn : q < g.nr
                  · have hqn' : (q : Int) < (g.nr : Int) := by omega
                    have hR := HRV.out
                    rcases hR with h0 | ⟨rb, ro, rfl, _, hR⟩
                    · omega
                    obtain ⟨_, ⟨ba', bc', d1, hb'⟩⟩ := hR q hqn
                    have HOB : Hid (OpsA Q wr ba' (g.rule q).bl (g.rule q).body) := hb'
                    have HBT : Hid (bt = true ↔ False ∨ ∃ t, t < q ∧ M.Throws (g.rule t).bl (g.rule t).body m) := hbt
                    have hbs := (S1.out q hqn).body.1
                    clear hR hb' hbt
                    cases bt with
                    | true =>
                      go_wp2
                      go_roundw
                      case rel => exact ⟨q + 1, true, by omega, by go_num, rfl, rfl, iffT (by rw [ex_snoc]; exact (HBT.out.1 rfl).imp id .inl)⟩
                      case measure => simp [intOf]; omega
                    | false =>
                      by_cases et : M.Throws (g.rule q).bl (g.rule q).body m
                      · have HT : Hid (M.Throws (g.rule q).bl (g.rule q).body m) := et
                        clear et
                        go_wp2_with (go_at_call 55; refine (l2throws_any Q ba' (g.rule q).bl bc' m (g.rule q).body _ HOB.out hbs).mono ?_; rintro e W ⟨⟨r, rfl, hr⟩, hw⟩; subst W; obtain rfl : r = true := hr.2 HT.out; clear hr)
                        go_roundw
                        case rel => first | exact ⟨q + 1, true, by omega, by go_num, rfl, rfl, iffT (by rw [ex_snoc]; exact .inr (.inr HT.out))⟩ | ((repeat apply Exists.intro); exact ⟨⟨q + 1, true, by omega, by go_num, rfl, rfl, iffT (by rw [ex_snoc]; exact .inr (.inr HT.out))⟩, rfl⟩)
                        case measure => simp [intOf]; omega
                      · have HT : Hid (¬ M.Throws (g.rule q).bl (g.rule q).body m) := et
                        clear et
                        go_wp2_with (go_at_call 55; refine (l2throws_any Q ba' (g.rule q).bl bc' m (g.rule q).body _ HOB.out hbs).mono ?_; rintro e W ⟨⟨r, rfl, hr⟩, hw⟩; subst W; obtain rfl : r = false := by { cases r; rfl; exact absurd (hr.1 rfl) HT.out }; clear hr)
                        go_roundw
                        case rel => first | exact ⟨q + 1, false, by omega, by go_num, rfl, rfl, iffF (by rw [ex_snoc]; exact fun h => h.elim (fun h => absurd (HBT.out.2 (.inl h)) (by decide)) (fun h => h.elim (fun h => absurd (HBT.out.2 (.inr h)) (by decide)) HT.out))⟩ | ((repeat apply Exists.intro); exact ⟨⟨q + 1, false, by omega, by go_num, rfl, rfl, iffF (by rw [ex_snoc]; exact fun h => h.elim (fun h => absurd (HBT.out.2 (.inl h)) (by decide)) (fun h => h.elim (fun h => absurd (HBT.out.2 (.inr h)) (by decide)) HT.out))⟩, rfl⟩)
                        case measure => simp [intOf]; omega
                  · obtain rfl : q = g.nr := by omega
                    have HBT : Hid (bt = true ↔ False ∨ ∃ t, t < g.nr ∧ M.Throws (g.rule t).bl (g.rule t).body m) := hbt
                    obtain ⟨V2, eV2⟩ : ∃ V2, wr = V2 := ⟨_, rfl⟩
                    subst wr
                    clear hbt
                    go_wp2
                    go_loopw [8, 10] (fun t j wr' => thrownI V2 g.nb (fun q => M.Throws (g.lab q).bl (g.lab q).body m) (∃ t, t < g.nr ∧ M.Throws (g.rule t).bl (g.rule t).body m) t j wr') (fun t j _ => g.nb - (intOf j).toNat)
                    case atStart => exact ⟨0, bt, Nat.zero_le _, rfl, rfl, rfl, HBT.out.trans ⟨fun h => h.elim False.elim .inl, fun h => h.elim .inr (fun ⟨_, h, _⟩ => absurd h (Nat.not_lt_zero _))⟩⟩
                    case round =>
                      obtain ⟨q, bu, hq, rfl, rfl, hwv, hbu⟩ := hrel
                      subst hwv
                      by_cases hqn : q < g.nb
                      · have hqn' : (q : Int) < (g.nb : Int) := by omega
                        obtain ⟨_, _, ⟨ba', bc', d1, hb'⟩⟩ := HLV.out q hqn
                        have HOB : Hid (OpsA Q wr ba' (g.lab q).bl (g.lab q).body) := hb'
                        have HBU : Hid (bu = true ↔ (∃ t, t < g.nr ∧ M.Throws (g.rule t).bl (g.rule t).body m) ∨ ∃ t, t < q ∧ M.Throws (g.lab t).bl (g.lab t).body m) := hbu
                        have hbs := (S2.out q hqn).body.1
                        clear hb' hbu
                        cases bu with
                        | true =>
                          go_wp2
                          go_roundw
                          case rel => exact ⟨q + 1, true, by omega, by go_num, rfl, rfl, iffT (by rw [ex_snoc]; exact (HBU.out.1 rfl).imp id .inl)⟩
                          case measure => simp [intOf]; omega
                        | false =>
                          by_cases et : M.Throws (g.lab q).bl (g.lab q).body m
                          · have HT : Hid (M.Throws (g.lab q).bl (g.lab q).body m) := et
                            clear et
                            go_wp2_with (go_at_call 55; refine (l2throws_any Q ba' (g.lab q).bl bc' m (g.lab q).body _ HOB.out hbs).mono ?_; rintro e W ⟨⟨r, rfl, hr⟩, hw⟩; subst W; obtain rfl : r = true := hr.2 HT.out; clear hr)
                            go_roundw
                            case rel => first | exact ⟨q + 1, true, by omega, by go_num, rfl, rfl, iffT (by rw [ex_snoc]; exact .inr (.inr HT.out))⟩ | ((repeat apply Exists.intro); exact ⟨⟨q + 1, true, by omega, by go_num, rfl, rfl, iffT (by rw [ex_snoc]; exact .inr (.inr HT.out))⟩, rfl⟩)
                            case measure => simp [intOf]; omega
                          · have HT : Hid (¬ M.Throws (g.lab q).bl (g.lab q).body m) := et
                            clear et
                            go_wp2_with (go_at_call 55; refine (l2throws_any Q ba' (g.lab q).bl bc' m (g.lab q).body _ HOB.out hbs).mono ?_; rintro e W ⟨⟨r, rfl, hr⟩, hw⟩; subst W; obtain rfl : r = false := by { cases r; rfl; exact absurd (hr.1 rfl) HT.out }; clear hr)
                            go_roundw
                            case rel => first | exact ⟨q + 1, false, by omega, by go_num, rfl, rfl, iffF (by rw [ex_snoc]; exact fun h => h.elim (fun h => absurd (HBU.out.2 (.inl h)) (by decide)) (fun h => h.elim (fun h => absurd (HBU.out.2 (.inr h)) (by decide)) HT.out))⟩ | ((repeat apply Exists.intro); exact ⟨⟨q + 1, false, by omega, by go_num, rfl, rfl, iffF (by rw [ex_snoc]; exact fun h => h.elim (fun h => absurd (HBU.out.2 (.inl h)) (by decide)) (fun h => h.elim (fun h => absurd (HBU.out.2 (.inr h)) (by decide)) HT.out))⟩, rfl⟩)
                            case measure => simp [intOf]; omega
                      · obtain rfl : q = g.nb := by omega
                        have HBU : Hid (bu = true ↔ Thrown g m) := hbu
                        clear hbu
                        cases bu with
                        | false =>
                          go_wp2
                          go_ret
                          exact ⟨⟨false, rfl, iffF fun q => absurd (HBU.out.2 (q.lt m hlt HH.out)) (by decide)⟩, bel_tr HBX.out HBV.out⟩
                        | true =>
                          by_cases hbz : (g.lab m).bl = 0
                          · have HBZ : Hid ((g.lab m).bl = 0) := hbz
                            have fz : (((g.lab m).bl : Int) != 0) = false := by simp [hbz]
                            clear hbz
                            go_wp2
                            go_roundw
                            case rel => exact ⟨m + 1, by omega, val_int (by have := HSS.out; have := HSR.out; omega), by go_num, bel_tr HBE.out HBV.out, all_snoc HM.out ⟨HN.out, LESS.out, fun q => absurd (HH.out.symm.trans q) (by decide), fun _ => ⟨HBU.out.1 rfl, HBZ.out⟩⟩⟩
                            case measure => simp [intOf]; omega
                          · have HBZ : Hid (¬ (g.lab m).bl = 0) := hbz
                            have fz : (((g.lab m).bl : Int) != 0) = true := by simp [hbz]
                            clear hbz
                            go_wp2
                            go_ret
                            exact ⟨⟨false, rfl, iffF fun q => HBZ.out (q.lz m hlt HH.out)⟩, bel_tr HBX.out HBV.out⟩
            · obtain ⟨p, hp⟩ : ∃ p, m = p + 1 := ⟨m - 1, by omega⟩
              have HP : Hid (m = p + 1) := hp
              have em : (m : Int) - 1 = (p : Int) := by omega
              have hmp : 0 < m := by omega
              have hmp' : (0 : Int) < (m : Int) := by omega
              have hpl : p < g.nb := by omega
              have hpl' : (p : Int) < (g.nb : Int) := by omega
              clear hz hp
              obtain ⟨⟨na', nc', d0, hn'⟩, _, _⟩ := HLL.out p hpl
              have hI' : ∀ o d, Ints Q .u8 ((wr.alloc o).drewN d) na' (g.lab p).nl (g.lab p).name := fun o d => hn'.later (below_drewN (bel1 wr o) d)
              by_cases el : M.LessName (g.lab (m - 1)) (g.lab m)
              · have LESS : Hid (0 < m → M.LessName (g.lab (m - 1)) (g.lab m)) := fun _ => el
                have HC : Hid (∀ o d, Calls Try.prog 54 #[.slice na' (g.lab p).nl nc', .slice na (g.lab m).nl nc] ((wr.alloc o).drewN d) fun e w' => e = .returned (.bool true) ∧ w' = (wr.alloc o).drewN d) := fun o d =>
                  (l2less_any Q na' na (g.lab p).nl nc' (g.lab m).nl nc (g.lab p).name (g.lab m).name _ (hI' o d) (HI.out o d) (S2.out p hpl).byt HSB.out.byt).mono (fun e W h => by
                    obtain ⟨⟨r, rfl, hr⟩, rfl⟩ := h
                    rw [show m - 1 = p by have := HP.out; omega] at el
                    rw [hr.2 el]; exact ⟨rfl, rfl⟩)
                clear hn' hI' el
                cases hh : (g.lab m).has with
                | true =>
                  have HH : Hid ((g.lab m).has = true) := hh
                  rw [hh] at c1
                  clear hh
                  go_wp2_with fail
                  go_quiet (first | (go_at_call 52; exact Calls.quiet_of_same (HQN.out _ _)) | (go_at_call 54; exact Calls.quiet_of_same (HC.out _ _)))
                  by_cases eb : M.BodyOK g.nr g.nb (g.lab m).bl (g.lab m).body
                  · have HB : Hid (M.BodyOK g.nr g.nb (g.lab m).bl (g.lab m).body) := eb
                    clear eb
                    go_wp2_with (go_at_call 53; refine (l2bodyOK_any Q ba g.nr g.nb (g.lab m).bl bc (g.lab m).body _ (HO.out _ _) h1 h2 HSB.out.body).mono ?_; rintro e W ⟨⟨r, rfl, hr⟩, hw⟩; obtain rfl : r = true := hr.2 HB.out; have HW : Hid _ := hw; clear hr hw)
                    go_roundw
                    case rel => exact ⟨m + 1, by omega, val_int (by have := HSS.out; have := HSR.out; omega), by go_num, bel_tr HBE.out (bel_tr (below_drewN (bel1 wr _) _) HW.out), all_snoc HM.out ⟨HN.out, LESS.out, fun _ => HB.out, fun q => absurd (HH.out.symm.trans q) (by decide)⟩⟩
                    case measure => simp [intOf]; omega
                  · have HB : Hid (¬ M.BodyOK g.nr g.nb (g.lab m).bl (g.lab m).body) := eb
                    clear eb
                    go_wp2_with (go_at_call 53; refine (l2bodyOK_any Q ba g.nr g.nb (g.lab m).bl bc (g.lab m).body _ (HO.out _ _) h1 h2 HSB.out.body).mono ?_; rintro e W ⟨⟨r, rfl, hr⟩, hw⟩; obtain rfl : r = false := by { cases r; rfl; exact absurd (hr.1 rfl) HB.out }; have HW : Hid _ := hw; clear hr hw)
                    go_ret
                    exact ⟨⟨false, rfl, iffF fun q => HB.out (q.lb m hlt HH.out)⟩, bel_tr HBX.out (bel_tr (below_drewN (bel1 wr _) _) HW.out)⟩
                | false =>
                  have HH : Hid ((g.lab m).has = false) := hh
                  rw [hh] at c1
                  clear hh
                  go_wp2_with fail
                  go_quiet (first | (go_at_call 52; exact Calls.quiet_of_same (HQN.out _ _)) | (go_at_call 54; exact Calls.quiet_of_same (HC.out _ _)))
                  obtain ⟨V2, hV2⟩ : ∃ V2, (wr.alloc (Obj.cells #[Value.slice na (g.lab m).nl nc, Value.bool false, Value.slice ba (g.lab m).bl bc] 80)).drewN nq = V2 := ⟨_, rfl⟩
                  have bV2 : Below wr.heap.size wr V2 := hV2 ▸ below_drewN (bel1 wr _) _
                  have v3 : V2.cell? ⟨wr.heap.size, 1, none⟩ = some (.bool false) := by rw [← hV2]; simp
                  have v2 : V2.cell? ⟨wr.heap.size, 2, none⟩ = some (.slice ba (g.lab m).bl bc) := by rw [← hV2]; simp
                  have v0 : V2.cell? ⟨w.heap.size, 0, none⟩ = some (.slice ra g.nr rc) := cell_on e0 bV2
                  have v1 : V2.cell? ⟨w.heap.size, 1, none⟩ = some (.slice (some ⟨b, off, none⟩) g.nb lc) := cell_on e1 bV2
                  rw [hV2]
                  have HBV : Hid (Below wr.heap.size wr V2) := bV2
                  have HRV : Hid (RulesA Q V2 ra g.nr g.rule) := HRW.out.later bV2
                  have HLV : Hid (∀ i, i < g.nb → LabC Q V2 b (off + i * 3) (g.lab i)) := fun i hi => (HLL.out i hi).later bV2
                  clear hV2 bV2 c0 c1 c2 e0 e1 HI HO HQN HLL HRW
                  go_wp2
                  go_loopw [8, 9] (fun t j wr' => thrownI V2 g.nr (fun q => M.Throws (g.rule q).bl (g.rule q).body m) False t j wr') (fun t j _ => g.nr - (intOf j).toNat)
                  case atStart => exact ⟨0, false, Nat.zero_le _, rfl, rfl, rfl, iffF (fun q => q.elim id (fun ⟨_, h, _⟩ => absurd h (Nat.not_lt_zero _)))⟩
                  case round =>
                    obtain ⟨q, bt, hq, rfl, rfl, hwv, hbt⟩ := hrel
                    subst hwv
                    by_cases hqn : q < g.nr
                    · have hqn' : (q : Int) < (g.nr : Int) := by omega
                      have hR := HRV.out
                      rcases hR with h0 | ⟨rb, ro, rfl, _, hR⟩
                      · omega
                      obtain ⟨_, ⟨ba', bc', d1, hb'⟩⟩ := hR q hqn
                      have HOB : Hid (OpsA Q wr ba' (g.rule q).bl (g.rule q).body) := hb'
                      have HBT : Hid (bt = true ↔ False ∨ ∃ t, t < q ∧ M.Throws (g.rule t).bl (g.rule t).body m) := hbt
                      have hbs := (S1.out q hqn).body.1
                      clear hR hb' hbt
                      cases bt with
                      | true =>
                        go_wp2
                        go_roundw
                        case rel => exact ⟨q + 1, true, by omega, by go_num, rfl, rfl, iffT (by rw [ex_snoc]; exact (HBT.out.1 rfl).imp id .inl)⟩
                        case measure => simp [intOf]; omega
                      | false =>
                        by_cases et : M.Throws (g.rule q).bl (g.rule q).body m
                        · have HT : Hid (M.Throws (g.rule q).bl (g.rule q).body m) := et
                          clear et
                          go_wp2_with (go_at_call 55; refine (l2throws_any Q ba' (g.rule q).bl bc' m (g.rule q).body _ HOB.out hbs).mono ?_; rintro e W ⟨⟨r, rfl, hr⟩, hw⟩; subst W; obtain rfl : r = true := hr.2 HT.out; clear hr)
                          go_roundw
                          case rel => first | exact ⟨q + 1, true, by omega, by go_num, rfl, rfl, iffT (by rw [ex_snoc]; exact .inr (.inr HT.out))⟩ | ((repeat apply Exists.intro); exact ⟨⟨q + 1, true, by omega, by go_num, rfl, rfl, iffT (by rw [ex_snoc]; exact .inr (.inr HT.out))⟩, rfl⟩)
                          case measure => simp [intOf]; omega
                        · have HT : Hid (¬ M.Throws (g.rule q).bl (g.rule q).body m) := et
                          clear et
                          go_wp2_with (go_at_call 55; refine (l2throws_any Q ba' (g.rule q).bl bc' m (g.rule q).body _ HOB.out hbs).mono ?_; rintro e W ⟨⟨r, rfl, hr⟩, hw⟩; subst W; obtain rfl : r = false := by { cases r; rfl; exact absurd (hr.1 rfl) HT.out }; clear hr)
                          go_roundw
                          case rel => first | exact ⟨q + 1, false, by omega, by go_num, rfl, rfl, iffF (by rw [ex_snoc]; exact fun h => h.elim (fun h => absurd (HBT.out.2 (.inl h)) (by decide)) (fun h => h.elim (fun h => absurd (HBT.out.2 (.inr h)) (by decide)) HT.out))⟩ | ((repeat apply Exists.intro); exact ⟨⟨q + 1, false, by omega, by go_num, rfl, rfl, iffF (by rw [ex_snoc]; exact fun h => h.elim (fun h => absurd (HBT.out.2 (.inl h)) (by decide)) (fun h => h.elim (fun h => absurd (HBT.out.2 (.inr h)) (by decide)) HT.out))⟩, rfl⟩)
                          case measure => simp [intOf]; omega
                    · obtain rfl : q = g.nr := by omega
                      have HBT : Hid (bt = true ↔ False ∨ ∃ t, t < g.nr ∧ M.Throws (g.rule t).bl (g.rule t).body m) := hbt
                      obtain ⟨V2, eV2⟩ : ∃ V2, wr = V2 := ⟨_, rfl⟩
                      subst wr
                      clear hbt
                      go_wp2
                      go_loopw [8, 10] (fun t j wr' => thrownI V2 g.nb (fun q => M.Throws (g.lab q).bl (g.lab q).body m) (∃ t, t < g.nr ∧ M.Throws (g.rule t).bl (g.rule t).body m) t j wr') (fun t j _ => g.nb - (intOf j).toNat)
                      case atStart => exact ⟨0, bt, Nat.zero_le _, rfl, rfl, rfl, HBT.out.trans ⟨fun h => h.elim False.elim .inl, fun h => h.elim .inr (fun ⟨_, h, _⟩ => absurd h (Nat.not_lt_zero _))⟩⟩
                      case round =>
                        obtain ⟨q, bu, hq, rfl, rfl, hwv, hbu⟩ := hrel
                        subst hwv
                        by_cases hqn : q < g.nb
                        · have hqn' : (q : Int) < (g.nb : Int) := by omega
                          obtain ⟨_, _, ⟨ba', bc', d1, hb'⟩⟩ := HLV.out q hqn
                          have HOB : Hid (OpsA Q wr ba' (g.lab q).bl (g.lab q).body) := hb'
                          have HBU : Hid (bu = true ↔ (∃ t, t < g.nr ∧ M.Throws (g.rule t).bl (g.rule t).body m) ∨ ∃ t, t < q ∧ M.Throws (g.lab t).bl (g.lab t).body m) := hbu
                          have hbs := (S2.out q hqn).body.1
                          clear hb' hbu
                          cases bu with
                          | true =>
                            go_wp2
                            go_roundw
                            case rel => exact ⟨q + 1, true, by omega, by go_num, rfl, rfl, iffT (by rw [ex_snoc]; exact (HBU.out.1 rfl).imp id .inl)⟩
                            case measure => simp [intOf]; omega
                          | false =>
                            by_cases et : M.Throws (g.lab q).bl (g.lab q).body m
                            · have HT : Hid (M.Throws (g.lab q).bl (g.lab q).body m) := et
                              clear et
                              go_wp2_with (go_at_call 55; refine (l2throws_any Q ba' (g.lab q).bl bc' m (g.lab q).body _ HOB.out hbs).mono ?_; rintro e W ⟨⟨r, rfl, hr⟩, hw⟩; subst W; obtain rfl : r = true := hr.2 HT.out; clear hr)
                              go_roundw
                              case rel => first | exact ⟨q + 1, true, by omega, by go_num, rfl, rfl, iffT (by rw [ex_snoc]; exact .inr (.inr HT.out))⟩ | ((repeat apply Exists.intro); exact ⟨⟨q + 1, true, by omega, by go_num, rfl, rfl, iffT (by rw [ex_snoc]; exact .inr (.inr HT.out))⟩, rfl⟩)
                              case measure => simp [intOf]; omega
                            · have HT : Hid (¬ M.Throws (g.lab q).bl (g.lab q).body m) := et
                              clear et
                              go_wp2_with (go_at_call 55; refine (l2throws_any Q ba' (g.lab q).bl bc' m (g.lab q).body _ HOB.out hbs).mono ?_; rintro e W ⟨⟨r, rfl, hr⟩, hw⟩; subst W; obtain rfl : r = false := by { cases r; rfl; exact absurd (hr.1 rfl) HT.out }; clear hr)
                              go_roundw
                              case rel => first | exact ⟨q + 1, false, by omega, by go_num, rfl, rfl, iffF (by rw [ex_snoc]; exact fun h => h.elim (fun h => absurd (HBU.out.2 (.inl h)) (by decide)) (fun h => h.elim (fun h => absurd (HBU.out.2 (.inr h)) (by decide)) HT.out))⟩ | ((repeat apply Exists.intro); exact ⟨⟨q + 1, false, by omega, by go_num, rfl, rfl, iffF (by rw [ex_snoc]; exact fun h => h.elim (fun h => absurd (HBU.out.2 (.inl h)) (by decide)) (fun h => h.elim (fun h => absurd (HBU.out.2 (.inr h)) (by decide)) HT.out))⟩, rfl⟩)
                              case measure => simp [intOf]; omega
                        · obtain rfl : q = g.nb := by omega
                          have HBU : Hid (bu = true ↔ Thrown g m) := hbu
                          clear hbu
                          cases bu with
                          | false =>
                            go_wp2
                            go_ret
                            exact ⟨⟨false, rfl, iffF fun q => absurd (HBU.out.2 (q.lt m hlt HH.out)) (by decide)⟩, bel_tr HBX.out HBV.out⟩
                          | true =>
                            by_cases hbz : (g.lab m).bl = 0
                            · have HBZ : Hid ((g.lab m).bl = 0) := hbz
                              have fz : (((g.lab m).bl : Int) != 0) = false := by simp [hbz]
                              clear hbz
                              go_wp2
                              go_roundw
                              case rel => exact ⟨m + 1, by omega, val_int (by have := HSS.out; have := HSR.out; omega), by go_num, bel_tr HBE.out HBV.out, all_snoc HM.out ⟨HN.out, LESS.out, fun q => absurd (HH.out.symm.trans q) (by decide), fun _ => ⟨HBU.out.1 rfl, HBZ.out⟩⟩⟩
                              case measure => simp [intOf]; omega
                            · have HBZ : Hid (¬ (g.lab m).bl = 0) := hbz
                              have fz : (((g.lab m).bl : Int) != 0) = true := by simp [hbz]
                              clear hbz
                              go_wp2
                              go_ret
                              exact ⟨⟨false, rfl, iffF fun q => HBZ.out (q.lz m hlt HH.out)⟩, bel_tr HBX.out HBV.out⟩
              · have LESS : Hid (¬ M.LessName (g.lab (m - 1)) (g.lab m)) := el
                have HC : Hid (∀ o d, Calls Try.prog 54 #[.slice na' (g.lab p).nl nc', .slice na (g.lab m).nl nc] ((wr.alloc o).drewN d) fun e w' => e = .returned (.bool false) ∧ w' = (wr.alloc o).drewN d) := fun o d =>
                  (l2less_any Q na' na (g.lab p).nl nc' (g.lab m).nl nc (g.lab p).name (g.lab m).name _ (hI' o d) (HI.out o d) (S2.out p hpl).byt HSB.out.byt).mono (fun e W h => by
                    obtain ⟨⟨r, rfl, hr⟩, rfl⟩ := h
                    rw [show m - 1 = p by have := HP.out; omega] at el
                    obtain rfl : r = false := by { cases r; rfl; exact absurd (hr.1 rfl) el }
                    exact ⟨rfl, rfl⟩)
                clear hn' hI' el
                go_wp2_with fail
                go_quiet (first | (go_at_call 52; exact Calls.quiet_of_same (HQN.out _ _)) | (go_at_call 54; exact Calls.quiet_of_same (HC.out _ _)))
                go_wp2
                go_ret
                exact ⟨⟨false, rfl, iffF fun q => LESS.out (q.la m hlt hmp)⟩, bel_tr HBX.out (below_drewN (bel1 wr _) _)⟩
          · have HN : Hid (¬ M.NameOK (g.lab m).nl (g.lab m).name) := en
            have HQN : Hid (∀ o d, Calls Try.prog 52 #[.slice na (g.lab m).nl nc] ((wr.alloc o).drewN d) fun e w' => e = .returned (.bool false) ∧ w' = (wr.alloc o).drewN d) := fun o d =>
              (l2name_any Q na (g.lab m).nl nc (g.lab m).name _ (HI.out o d) HSB.out.byt hnl).mono (fun e W h => by
                obtain ⟨⟨r, rfl, hr⟩, rfl⟩ := h
                obtain rfl : r = false := by { cases r; rfl; exact absurd (hr.1 rfl) HN.out }
                exact ⟨rfl, rfl⟩)
            clear en
            go_wp2_with fail
            go_quiet (first | (go_at_call 52; exact Calls.quiet_of_same (HQN.out _ _)))
            go_wp2
            go_ret
            exact ⟨⟨false, rfl, iffF fun q => HN.out (q.ln m hlt)⟩, bel_tr HBX.out (below_drewN (bel1 wr _) _)⟩
        · obtain rfl : m = g.nb := by omega
          go_wp2
          go_ret
          refine ⟨⟨_, rfl, ?_⟩, HBX.out⟩
          rw [svalid_iff]
          simp only [decide_eq_true_eq]
          constructor
          · intro q
            exact ⟨by omega, by omega, by omega, HA.out, HM.out, by rw [HOPS.out]; omega⟩
          · rintro ⟨_, _, _, _, _, q⟩
            rw [HOPS.out] at q
            omega

end Go.Proofs.Ytjndcajblpgjmaa
