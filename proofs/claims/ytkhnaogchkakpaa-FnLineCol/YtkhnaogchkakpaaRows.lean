/-
  No cell of these rows narrows 'for every input' (looked for: loops, veiled, ifaces, maps, wideKeys, modest, calm, conditions, laid).
  DERIVED. THE GIVEN ROWS OF THIS SEAT. 3 by the template 'for every input the law returns true; each argument reads behind the call as it read before'; 0 by the template 'total and deterministic' (their statements: YtkhnaogchkakpaaTotals.lean).
  GIVEN WITH THE SEED: the statements are not yours to turn. If you find one false, say at which input.
  Laid BY PROGRAM, IN A SANDBOX (cutbox-rows.mjs): the forced cells as the released guide's own fill.sh prints them over the translation 3bbc94e86b130268… (all of the seat's roots in one cut). By AI agents, Wed Nov 11 2026. No macro, syntax, notation, axiom, sorry.
-/
import Derived.Test.YtkhnaogchkakpaaChecked
import GoSem.Claim
import GoSem.ClaimJoined
import GoSem.ClaimMapViews
import Derived.JoinedTies
import Derived.KernelRfl
namespace Go.Proofs.Ytkhnaogchkakpaa
/- THE CELL 'sum', in the pinned program and in every row, IS THE sha256 OF THE DUMP (.gsa) THAT YtkhnaogchkakpaaProg.lean LOADS. Nothing in Lean hashes anything: it is a label: what it is worth is what the hold of that sum in a sandbox is worth. -/
noncomputable def Try.pinned : Pinned := { name := "ytkhnaogchkakpaa", sum := "3bbc94e86b1302689dc15d2442bba3adef9d9cf89e9bff0ab9dde038378c6d7d", checked := Try.checked }
namespace Rows
def none {H : Type} : Left H := { results := [], args := [] }

/-- 'laws.FnLineCol': WHATEVER THE INPUT: true; the input reads as it did. -/
def fnLineColSpec : ChangeSpec := { name := "fnLineCol", fn := fun _ => fun
  | [d] => { results := [.lit (.bool true)], args := [d] }
  | _ => none }
def fnLineColRow : OpenClaim := { program := "ytkhnaogchkakpaa", sum := "3bbc94e86b1302689dc15d2442bba3adef9d9cf89e9bff0ab9dde038378c6d7d", func := "loop.example/s0055/laws.FnLineCol", spec := "fnLineCol", inPlace := ["internal/bytealg.IndexByte"], unfollowed := true, recurses := true, apart := false }
def FnLineColSaid : Prop := fnLineColRow.holds Try.pinned (OpenSpec.ofChange fnLineColSpec)

/-- ITS FALSE NEIGHBOUR: 'it returns false'. Refute it at one input. -/
def fnLineColWrong : ChangeSpec := { name := "fnLineCol", fn := fun _ => fun
  | [d] => { results := [.lit (.bool false)], args := [d] }
  | _ => none }
def FnLineColWrongFalsely : Prop := fnLineColRow.holds Try.pinned (OpenSpec.ofChange fnLineColWrong)

/-- 'laws.FnExactCharLen': WHATEVER THE INPUT: true; the input reads as it did. -/
def fnExactCharLenSpec : ChangeSpec := { name := "fnExactCharLen", fn := fun _ => fun
  | [d1, d2] => { results := [.lit (.bool true)], args := [d1, d2] }
  | _ => none }
def fnExactCharLenRow : OpenClaim := { program := "ytkhnaogchkakpaa", sum := "3bbc94e86b1302689dc15d2442bba3adef9d9cf89e9bff0ab9dde038378c6d7d", func := "loop.example/s0055/laws.FnExactCharLen", spec := "fnExactCharLen", apart := false }
def FnExactCharLenSaid : Prop := fnExactCharLenRow.holds Try.pinned (OpenSpec.ofChange fnExactCharLenSpec)

/-- ITS FALSE NEIGHBOUR: 'it returns false'. Refute it at one input. -/
def fnExactCharLenWrong : ChangeSpec := { name := "fnExactCharLen", fn := fun _ => fun
  | [d1, d2] => { results := [.lit (.bool false)], args := [d1, d2] }
  | _ => none }
def FnExactCharLenWrongFalsely : Prop := fnExactCharLenRow.holds Try.pinned (OpenSpec.ofChange fnExactCharLenWrong)

/-- 'laws.FnExactLineCol': WHATEVER THE INPUT: true; the input reads as it did. -/
def fnExactLineColSpec : ChangeSpec := { name := "fnExactLineCol", fn := fun _ => fun
  | [d1, d2] => { results := [.lit (.bool true)], args := [d1, d2] }
  | _ => none }
def fnExactLineColRow : OpenClaim := { program := "ytkhnaogchkakpaa", sum := "3bbc94e86b1302689dc15d2442bba3adef9d9cf89e9bff0ab9dde038378c6d7d", func := "loop.example/s0055/laws.FnExactLineCol", spec := "fnExactLineCol", inPlace := ["internal/bytealg.IndexByte"], unfollowed := true, recurses := true, apart := false }
def FnExactLineColSaid : Prop := fnExactLineColRow.holds Try.pinned (OpenSpec.ofChange fnExactLineColSpec)

/-- ITS FALSE NEIGHBOUR: 'it returns false'. Refute it at one input. -/
def fnExactLineColWrong : ChangeSpec := { name := "fnExactLineCol", fn := fun _ => fun
  | [d1, d2] => { results := [.lit (.bool false)], args := [d1, d2] }
  | _ => none }
def FnExactLineColWrongFalsely : Prop := fnExactLineColRow.holds Try.pinned (OpenSpec.ofChange fnExactLineColWrong)

/- THE SECOND FORM. 'bulk': how many values and letters a reading holds, each counted each time it is reached (what is shared counts as often as it is met; a slice's spare places count too). A statement '..UptoSaid' is the law's where the arguments, and the package variables that the reading takes, are together of bulk at most 1048576: NARROWER than '..Said'. Prove '..Said' where nothing that the law and all that it calls make is longer than what came in: it says more and counts as full. Else prove '..UptoSaid'. A law counts once. -/
mutual
def uptoBulk {H : Type} : DataW H → Nat
  | .lit (.string bytes) => bytes.length + 1
  | .lit _ => 1
  | .nil => 1
  | .ptr d => uptoBulk d + 1
  | .slice elems spare => uptoBulkAll elems + uptoBulkAll spare + 1
  | .agg parts => uptoBulkAll parts + 1
  | .iface _ d => uptoBulk d + 1
  | .map entries => uptoBulkEntries entries + 1
  | .held _ => 1
def uptoBulkAll {H : Type} : List (DataW H) → Nat
  | [] => 0
  | d :: r => uptoBulk d + uptoBulkAll r
def uptoBulkEntries {H : Type} : List (Lit × DataW H) → Nat
  | [] => 0
  | x :: r => uptoBulkEntry x + uptoBulkEntries r
def uptoBulkEntry {H : Type} : Lit × DataW H → Nat
  | (.string bytes, d) => bytes.length + uptoBulk d + 1
  | (_, d) => uptoBulk d + 1
 end
def uptoSmall : (H : Type) → List (DataW H) → Bool := fun _ ds => decide (uptoBulkAll ds ≤ 1048576)
def OpenSpec.upto (s : _root_.Go.ChangeSpec) : _root_.Go.OpenSpec := { _root_.Go.OpenSpec.ofChange s with cond := some uptoSmall }

/-- 'laws.FnLineCol', WHERE WHAT IT READS IS OF BULK AT MOST 1048576: true; the input reads as it did. -/
def fnLineColUptoRow : OpenClaim := { program := "ytkhnaogchkakpaa", sum := "3bbc94e86b1302689dc15d2442bba3adef9d9cf89e9bff0ab9dde038378c6d7d", func := "loop.example/s0055/laws.FnLineCol", spec := "fnLineCol", inPlace := ["internal/bytealg.IndexByte"], unfollowed := true, recurses := true, apart := false, narrowed := true }
def FnLineColUptoSaid : Prop := fnLineColUptoRow.holds Try.pinned (OpenSpec.upto fnLineColSpec)

/-- 'laws.FnExactCharLen', WHERE WHAT IT READS IS OF BULK AT MOST 1048576: true; the input reads as it did. -/
def fnExactCharLenUptoRow : OpenClaim := { program := "ytkhnaogchkakpaa", sum := "3bbc94e86b1302689dc15d2442bba3adef9d9cf89e9bff0ab9dde038378c6d7d", func := "loop.example/s0055/laws.FnExactCharLen", spec := "fnExactCharLen", apart := false, narrowed := true }
def FnExactCharLenUptoSaid : Prop := fnExactCharLenUptoRow.holds Try.pinned (OpenSpec.upto fnExactCharLenSpec)

/-- 'laws.FnExactLineCol', WHERE WHAT IT READS IS OF BULK AT MOST 1048576: true; the input reads as it did. -/
def fnExactLineColUptoRow : OpenClaim := { program := "ytkhnaogchkakpaa", sum := "3bbc94e86b1302689dc15d2442bba3adef9d9cf89e9bff0ab9dde038378c6d7d", func := "loop.example/s0055/laws.FnExactLineCol", spec := "fnExactLineCol", inPlace := ["internal/bytealg.IndexByte"], unfollowed := true, recurses := true, apart := false, narrowed := true }
def FnExactLineColUptoSaid : Prop := fnExactLineColUptoRow.holds Try.pinned (OpenSpec.upto fnExactLineColSpec)

end Rows
end Go.Proofs.Ytkhnaogchkakpaa
