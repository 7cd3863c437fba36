/-
  Names as strings: what a conversion gives, how two are held against each other.
-/
import Derived.Test.YtjndcajblpgjmaaSmall
import Derived.Laws.BytesArg
import Derived.Lib.Bytealg
import Derived.Lib.BytesEntry
namespace Go.Proofs.Ytjndcajblpgjmaa
open Go.RowKit
open M (OpD NodeD Gr LessT)
set_option linter.unusedVariables false

def Byt (n : Nat) (T : Nat → Int) : Prop := ∀ i, i < n → 0 ≤ T i ∧ T i ≤ 255
def u8s (n : Nat) (T : Nat → Int) : List UInt8 := (List.range n).map fun i => UInt8.ofNat (T i).toNat
def str (n : Nat) (T : Nat → Int) : ByteArray := strOfNums ((List.range n).map T)

theorem str_list (n : Nat) (T : Nat → Int) : (str n T).toList = u8s n T := by
  rw [ByteArray.toList_eq, str, strOfNums_data, u8s, List.map_map]; rfl
theorem str_data (n : Nat) (T : Nat → Int) : (str n T).data.toList = u8s n T := by
  rw [str, strOfNums_data, u8s, List.map_map]; rfl
theorem str_size (n : Nat) (T : Nat → Int) : (str n T).size = n := by rw [str, strOfNums_size]; simp

theorem u8s_succ (n : Nat) (T : Nat → Int) : u8s (n + 1) T = UInt8.ofNat (T 0).toNat :: u8s n (fun i => T (i + 1)) := by
  simp [u8s, List.range_succ_eq_map, Function.comp_def]
theorem u8_lt {x y : Int} (hx : 0 ≤ x ∧ x ≤ 255) (hy : 0 ≤ y ∧ y ≤ 255) : UInt8.ofNat x.toNat < UInt8.ofNat y.toNat ↔ x < y := by
  rw [UInt8.lt_iff_toNat_lt]
  simp only [UInt8.toNat_ofNat']
  omega
theorem u8_eq {x y : Int} (hx : 0 ≤ x ∧ x ≤ 255) (hy : 0 ≤ y ∧ y ≤ 255) : UInt8.ofNat x.toNat = UInt8.ofNat y.toNat ↔ x = y := by
  rw [← UInt8.toNat_inj]
  simp only [UInt8.toNat_ofNat']
  omega

theorem lessT_zero_right (n : Nat) (S T : Nat → Int) : ¬ LessT n S 0 T := by
  rintro ⟨k, _, _, _, ⟨_, h, _⟩ | ⟨_, h⟩⟩ <;> omega
theorem lessT_zero_left (m : Nat) (S T : Nat → Int) : LessT 0 S (m + 1) T := ⟨0, fun i hi => by omega, by omega, by omega, .inr ⟨rfl, by omega⟩⟩
theorem lessT_succ (n m : Nat) (S T : Nat → Int) : LessT (n + 1) S (m + 1) T ↔ S 0 < T 0 ∨ (S 0 = T 0 ∧ LessT n (fun i => S (i + 1)) m (fun i => T (i + 1))) := by
  constructor
  · rintro ⟨k, he, h1, h2, h⟩
    by_cases hk : k = 0
    · subst hk
      rcases h with ⟨_, _, h⟩ | ⟨h, _⟩
      · exact .inl h
      · omega
    · obtain ⟨q, rfl⟩ : ∃ q, k = q + 1 := ⟨k - 1, by omega⟩
      refine .inr ⟨he 0 (by omega), q, fun i hi => he (i + 1) (by omega), by omega, by omega, ?_⟩
      rcases h with ⟨a, b, h⟩ | ⟨a, b⟩
      · exact .inl ⟨by omega, by omega, h⟩
      · exact .inr ⟨by omega, by omega⟩
  · rintro (h | ⟨h, q, he, h1, h2, h3⟩)
    · exact ⟨0, fun i hi => by omega, by omega, by omega, .inl ⟨by omega, by omega, h⟩⟩
    · refine ⟨q + 1, fun i hi => ?_, by omega, by omega, ?_⟩
      · by_cases e : i = 0
        · subst e; exact h
        · obtain ⟨j, rfl⟩ : ∃ j, i = j + 1 := ⟨i - 1, by omega⟩
          exact he j (by omega)
      · rcases h3 with ⟨a, b, h⟩ | ⟨a, b⟩
        · exact .inl ⟨by omega, by omega, h⟩
        · exact .inr ⟨by omega, by omega⟩

theorem less_iff : ∀ (n m : Nat) (S T : Nat → Int), Byt n S → Byt m T → (Op.bytesLess (u8s n S) (u8s m T) = true ↔ LessT n S m T)
  | n, 0, S, T, _, _ => by
    have : u8s 0 T = [] := rfl
    rw [this]
    cases u8s n S <;> simp [Op.bytesLess, lessT_zero_right]
  | 0, m + 1, S, T, _, _ => by
    rw [u8s_succ]
    have : u8s 0 S = [] := rfl
    rw [this]
    simp [Op.bytesLess, lessT_zero_left]
  | n + 1, m + 1, S, T, hS, hT => by
    have ih := less_iff n m (fun i => S (i + 1)) (fun i => T (i + 1)) (fun i hi => hS (i + 1) (by omega)) (fun i hi => hT (i + 1) (by omega))
    rw [u8s_succ, u8s_succ, Op.bytesLess, lessT_succ, ← ih]
    simp only [Bool.or_eq_true, Bool.and_eq_true, decide_eq_true_eq, beq_iff_eq]
    rw [u8_lt (hS 0 (by omega)) (hT 0 (by omega)), u8_eq (hS 0 (by omega)) (hT 0 (by omega))]

theorem cmp_less : ∀ (xs ys : List UInt8), -1 ≤ Lib.compareBytes xs ys ∧ Lib.compareBytes xs ys ≤ 1 ∧ (Lib.compareBytes xs ys < 0 ↔ Op.bytesLess xs ys = true)
  | [], [] => by simp [Lib.compareBytes, Op.bytesLess]
  | [], _ :: _ => by simp [Lib.compareBytes, Op.bytesLess]
  | _ :: _, [] => by simp [Lib.compareBytes, Op.bytesLess]
  | a :: x, b :: y => by
    obtain ⟨h1, h2, h3⟩ := cmp_less x y
    rw [Lib.compareBytes, Op.bytesLess]
    by_cases e : a < b
    · simp [e]
    · by_cases e2 : b < a
      · have hne : ¬ a = b := fun q => e (by rw [q] at e2 ⊢; exact e2)
        simp [e, e2, hne]
      · have hab : a = b := UInt8.le_antisymm (UInt8.not_lt.1 e2) (UInt8.not_lt.1 e)
        subst hab
        simp [e]
        exact ⟨h1, h2, h3⟩

theorem u8s_eq : ∀ (n m : Nat) (S T : Nat → Int), Byt n S → Byt m T → (u8s n S = u8s m T ↔ n = m ∧ ∀ i, i < n → S i = T i)
  | 0, 0, S, T, _, _ => ⟨fun _ => ⟨rfl, fun i hi => by omega⟩, fun _ => rfl⟩
  | 0, m + 1, S, T, _, _ => by
    rw [u8s_succ]
    exact ⟨fun h => absurd h (by simp [u8s]), fun h => by omega⟩
  | n + 1, 0, S, T, _, _ => by
    rw [u8s_succ]
    exact ⟨fun h => absurd h (by simp [u8s]), fun h => by omega⟩
  | n + 1, m + 1, S, T, hS, hT => by
    have ih := u8s_eq n m (fun i => S (i + 1)) (fun i => T (i + 1)) (fun i hi => hS (i + 1) (by omega)) (fun i hi => hT (i + 1) (by omega))
    rw [u8s_succ, u8s_succ, List.cons.injEq, ih, u8_eq (hS 0 (by omega)) (hT 0 (by omega))]
    constructor
    · rintro ⟨h0, h1, h2⟩
      refine ⟨by omega, fun i hi => ?_⟩
      by_cases e : i = 0
      · subst e; exact h0
      · obtain ⟨j, rfl⟩ : ∃ j, i = j + 1 := ⟨i - 1, by omega⟩
        exact h2 j (by omega)
    · rintro ⟨h1, h2⟩
      exact ⟨h2 0 (by omega), by omega, fun i hi => h2 (i + 1) (by omega)⟩

theorem str_eq (n m : Nat) (S T : Nat → Int) (hS : Byt n S) (hT : Byt m T) : str n S = str m T ↔ n = m ∧ ∀ i, i < n → S i = T i := by
  rw [← u8s_eq n m S T hS hT, ← str_data, ← str_data]
  constructor
  · intro h; rw [h]
  · intro h
    apply ByteArray.ext
    exact Array.ext' h

/-! ### The conversion -/
theorem run_load0 (w : World) (x : Addr) : (loadCells x 0).run Try.prog w = .ok #[] w := by
  have := run_loadCells_list (P := Try.prog) w x [] (fun j v h => by simp at h)
  simpa using this

theorem conv_run (Q : Nat → Prop) (a : Option Addr) (n c : Nat) (T : Nat → Int) (w : World) (h : Ints Q .u8 w a n T) : (convert 22 9 (.slice a n c)).run Try.prog w = .ok (.string (str n T)) w := by
  by_cases h0 : n = 0
  · subst h0
    cases a with
    | none => exact run_convert_bytes_nil w 22 5 Try.underlying22 Try.underlying5 0 c 9 Try.underlying9
    | some x =>
      rw [run_convert_bytes_string w 22 9 5 _ 0 c Try.underlying22 Try.underlying5 Try.underlying9, run_bytesToString w x 0 c [] (by simpa using run_load0 w x)]
      rfl
  · rcases h with h | ⟨b, off, rfl, hq, h⟩
    · omega
    · exact run_convert_bytes_arg w 22 5 Try.underlying22 Try.underlying5 b off n c ((List.range n).map T) (by simp) (fun i hi => by rw [h i hi]; simp [hi]) 9 Try.underlying9


set_option maxHeartbeats 1000000 in
theorem l2less_any (Q : Nat → Prop) (a a' : Option Addr) (n c m c' : Nat) (S T : Nat → Int) (w : World) (hS : Ints Q .u8 w a n S) (hT : Ints Q .u8 w a' m T) (bS : Byt n S) (bT : Byt m T) :
    Calls Try.prog 54 #[.slice a n c, .slice a' m c'] w (Says (LessT n S m T) w) := by
  have r1 := conv_run Q a n c S w hS
  have r2 := conv_run Q a' m c' T w hT
  have HL : Hid (Op.bytesLess (u8s n S) (u8s m T) = true ↔ LessT n S m T) := less_iff n m S T bS bT
  have HS1 : Hid ((str n S).toList = u8s n S) := str_list n S
  have HS2 : Hid ((str m T).toList = u8s m T) := str_list m T
  clear hS hT bS bT
  generalize str n S = s1 at *
  generalize str m T = s2 at *
  go_enter Try.func54, Try.ntmps54
  go_wp2
  go_ret
  exact ⟨⟨_, rfl, by rw [HS1.out, HS2.out]; exact HL.out⟩, rfl⟩

theorem run_bytesOf (Q : Nat → Prop) (a : Option Addr) (n c : Nat) (T : Nat → Int) (w : World) (h : Ints Q .u8 w a n T) : (Extern.Bytes.bytesOf (.slice a n c)).run Try.prog w = .ok (str n T) w := by
  have hcat : (⟨ByteArray.empty.data ++ (Lib.bytesOf ((List.range n).map T)).toArray⟩ : ByteArray) = str n T := by
    apply ByteArray.ext
    show (#[] : Array UInt8) ++ (Lib.bytesOf ((List.range n).map T)).toArray = _
    simp [Lib.bytesOf, str, strOfNums]
  by_cases h0 : n = 0
  · subst h0
    cases a with
    | none => rfl
    | some x =>
      have := Lib.run_loadBytesX (P := Try.prog) w [] x .empty (fun j y h => by simp at h)
      exact this
  · rcases h with h | ⟨b, off, rfl, hq, h⟩
    · omega
    · have hl := Lib.run_loadBytesX (P := Try.prog) w ((List.range n).map T) ⟨b, off, none⟩ .empty (fun j x hj => by
        have hjl : j < n := by simpa using (List.getElem?_eq_some_iff.1 hj).1
        have e : (⟨b, off, none⟩ : Addr).add j = ⟨b, off + j, none⟩ := by unfold Addr.add; split <;> simp_all
        rw [e, h j hjl]
        simp [hjl] at hj
        rw [hj])
      rw [hcat, show ((List.range n).map T).length = n by simp] at hl
      exact hl

theorem run_compare (Q : Nat → Prop) (a a' : Option Addr) (n c m c' : Nat) (S T : Nat → Int) (w : World) (hS : Ints Q .u8 w a n S) (hT : Ints Q .u8 w a' m T) :
    (Extern.BytealgCompare.compare #[.slice a n c, .slice a' m c']).run Try.prog w = .ok (.int .i64 (Lib.compareBytes (u8s n S) (u8s m T))) w := by
  change Sem.run Try.prog (do pure (goInt (Extern.BytealgCompare.cmp (← Extern.Bytes.bytesOf (.slice a n c)) (← Extern.Bytes.bytesOf (.slice a' m c'))))) w = _
  simp only [Sem.run_bind, run_bytesOf Q a n c S w hS, run_bytesOf Q a' m c' T w hT, Sem.run_pure, Result.andThen]
  rw [Lib.cmp_eq, str_data, str_data]
  rfl

set_option maxHeartbeats 1000000 in
set_option maxRecDepth 100000 in
theorem compare_val (n m : Nat) (S T : Nat → Int) (bS : Byt n S) (bT : Byt m T) : ∃ r : Int, -1 ≤ r ∧ r ≤ 1 ∧ (r < 0 ↔ LessT n S m T) ∧
    ∀ (Q : Nat → Prop) (a a' : Option Addr) (c c' : Nat) (w : World), Ints Q .u8 w a n S → Ints Q .u8 w a' m T → Calls Try.prog 118 #[.slice a n c, .slice a' m c'] w fun e w' => e = .returned (.int .i64 r) ∧ w' = w := by
  obtain ⟨h1, h2, h3⟩ := cmp_less (u8s n S) (u8s m T)
  refine ⟨_, h1, h2, h3.trans (less_iff n m S T bS bT), fun Q a a' c c' w hS hT => ?_⟩
  have HR : Hid ((Extern.BytealgCompare.compare #[.slice a n c, .slice a' m c']).run Try.prog w = .ok (.int .i64 (Lib.compareBytes (u8s n S) (u8s m T))) w) := run_compare Q a a' n c m c' S T w hS hT
  clear hS hT bS bT h1 h2 h3
  go_enter Try.func118, Try.ntmps118
  go_wp2
  rw [run_callFunc_extern Try.func170 (by kernel_rfl) (by kernel_rfl) (by kernel_rfl) (e := Extern.BytealgCompare.compare) (by kernel_rfl), HR.out]
  simp only [Result.andThen]
  rw [Oper.upon_value]
  go_wp2
  go_ret
  exact ⟨rfl, rfl⟩

/-- What Compare answers. -/
def CmpIs (n m : Nat) (S T : Nat → Int) (w : World) (e : Ending) (w' : World) : Prop :=
  (∃ r : Int, e = .returned (.int .i64 r) ∧ -1 ≤ r ∧ r ≤ 1 ∧ (r < 0 ↔ LessT n S m T)) ∧ w = w'

set_option maxHeartbeats 1000000 in
set_option maxRecDepth 100000 in
theorem compare_any (Q : Nat → Prop) (a a' : Option Addr) (n c m c' : Nat) (S T : Nat → Int) (w : World) (hS : Ints Q .u8 w a n S) (hT : Ints Q .u8 w a' m T) (bS : Byt n S) (bT : Byt m T) :
    Calls Try.prog 118 #[.slice a n c, .slice a' m c'] w (CmpIs n m S T w) := by
  have HR : Hid ((Extern.BytealgCompare.compare #[.slice a n c, .slice a' m c']).run Try.prog w = .ok (.int .i64 (Lib.compareBytes (u8s n S) (u8s m T))) w) := run_compare Q a a' n c m c' S T w hS hT
  have HC : Hid (-1 ≤ Lib.compareBytes (u8s n S) (u8s m T) ∧ Lib.compareBytes (u8s n S) (u8s m T) ≤ 1 ∧ (Lib.compareBytes (u8s n S) (u8s m T) < 0 ↔ LessT n S m T)) := by
    obtain ⟨h1, h2, h3⟩ := cmp_less (u8s n S) (u8s m T)
    exact ⟨h1, h2, h3.trans (less_iff n m S T bS bT)⟩
  clear hS hT bS bT
  go_enter Try.func118, Try.ntmps118
  go_wp2
  rw [run_callFunc_extern Try.func170 (by kernel_rfl) (by kernel_rfl) (by kernel_rfl) (e := Extern.BytealgCompare.compare) (by kernel_rfl), HR.out]
  simp only [Result.andThen]
  rw [Oper.upon_value]
  go_wp2
  go_ret
  exact ⟨⟨_, rfl, HC.out⟩, rfl⟩

end Go.Proofs.Ytjndcajblpgjmaa
