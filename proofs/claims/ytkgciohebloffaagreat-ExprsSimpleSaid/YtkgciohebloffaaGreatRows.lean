/-
  No cell of these rows narrows 'for every input' (looked for: loops, veiled, ifaces, maps, wideKeys, modest, calm, conditions, laid).
  DERIVED. THE GIVEN ROWS OF THIS SEAT. 4 by the template 'for every input the law returns true; each argument reads behind the call as it read before'; 0 by the template 'total and deterministic' (their statements: YtkgciohebloffaaGreatTotals.lean).
  GIVEN WITH THE SEED: the statements are not yours to turn. If you find one false, say at which input.
  Laid BY PROGRAM, IN A SANDBOX (cutbox-rows.mjs): the forced cells as the released guide's own fill.sh prints them over the translation 660ca81bb6bf9ca5… (all of the seat's roots in one cut). By AI agents, Wed Nov 11 2026. No macro, syntax, notation, axiom, sorry.
-/
import Derived.Test.YtkgciohebloffaaGreatChecked
import GoSem.Claim
import GoSem.ClaimJoined
import GoSem.ClaimMapViews
import Derived.JoinedTies
import Derived.KernelRfl
namespace Go.Proofs.YtkgciohebloffaaGreat
/- THE CELL 'sum', in the pinned program and in every row, IS THE sha256 OF THE DUMP (.gsa) THAT YtkgciohebloffaaGreatProg.lean LOADS. Nothing in Lean hashes anything: it is a label: what it is worth is what the hold of that sum in a sandbox is worth. -/
noncomputable def Tryz.pinned : Pinned := { name := "ytkgciohebloffaagreat", sum := "660ca81bb6bf9ca5796ce8ff06e6b53327866ebc45d8ac676913f7b06ee02896", checked := Tryz.checked }
namespace Rows
def none {H : Type} : Left H := { results := [], args := [] }

/-- 'pblaw1.ExprsValued': WHATEVER THE INPUT: true; the input reads as it did. -/
def exprsValuedSpec : ChangeSpec := { name := "exprsValued", fn := fun _ => fun
  | [d] => { results := [.lit (.bool true)], args := [d] }
  | _ => none }
def exprsValuedRow : OpenClaim := { program := "ytkgciohebloffaagreat", sum := "660ca81bb6bf9ca5796ce8ff06e6b53327866ebc45d8ac676913f7b06ee02896", func := "promptbook/pblaw1.ExprsValued", spec := "exprsValued", inPlace := ["internal/abi.NoEscape", "internal/bytealg.MakeNoZero", "internal/bytealg.IndexByteString", "internal/bytealg.abigen_runtime_cmpstring"], unfollowed := true, recurses := true, apart := false }
def ExprsValuedSaid : Prop := exprsValuedRow.holds Tryz.pinned (OpenSpec.ofChange exprsValuedSpec)

/-- ITS FALSE NEIGHBOUR: 'it returns false'. Refute it at one input. -/
def exprsValuedWrong : ChangeSpec := { name := "exprsValued", fn := fun _ => fun
  | [d] => { results := [.lit (.bool false)], args := [d] }
  | _ => none }
def ExprsValuedWrongFalsely : Prop := exprsValuedRow.holds Tryz.pinned (OpenSpec.ofChange exprsValuedWrong)

/-- 'pblaw1.ExprsSimple': WHATEVER THE INPUT: true; the input reads as it did. -/
def exprsSimpleSpec : ChangeSpec := { name := "exprsSimple", fn := fun _ => fun
  | [d] => { results := [.lit (.bool true)], args := [d] }
  | _ => none }
def exprsSimpleRow : OpenClaim := { program := "ytkgciohebloffaagreat", sum := "660ca81bb6bf9ca5796ce8ff06e6b53327866ebc45d8ac676913f7b06ee02896", func := "promptbook/pblaw1.ExprsSimple", spec := "exprsSimple", inPlace := ["internal/abi.NoEscape", "internal/bytealg.MakeNoZero", "internal/bytealg.IndexByteString", "internal/bytealg.abigen_runtime_cmpstring"], unfollowed := true, recurses := true, apart := false }
def ExprsSimpleSaid : Prop := exprsSimpleRow.holds Tryz.pinned (OpenSpec.ofChange exprsSimpleSpec)

/-- ITS FALSE NEIGHBOUR: 'it returns false'. Refute it at one input. -/
def exprsSimpleWrong : ChangeSpec := { name := "exprsSimple", fn := fun _ => fun
  | [d] => { results := [.lit (.bool false)], args := [d] }
  | _ => none }
def ExprsSimpleWrongFalsely : Prop := exprsSimpleRow.holds Tryz.pinned (OpenSpec.ofChange exprsSimpleWrong)

/-- 'pblaw1.ExprsBounded': WHATEVER THE INPUT: true; the input reads as it did. -/
def exprsBoundedSpec : ChangeSpec := { name := "exprsBounded", fn := fun _ => fun
  | [d] => { results := [.lit (.bool true)], args := [d] }
  | _ => none }
def exprsBoundedRow : OpenClaim := { program := "ytkgciohebloffaagreat", sum := "660ca81bb6bf9ca5796ce8ff06e6b53327866ebc45d8ac676913f7b06ee02896", func := "promptbook/pblaw1.ExprsBounded", spec := "exprsBounded", inPlace := ["internal/abi.NoEscape", "internal/bytealg.MakeNoZero", "internal/bytealg.abigen_runtime_cmpstring", "internal/bytealg.IndexByteString"], unfollowed := true, recurses := true, apart := false }
def ExprsBoundedSaid : Prop := exprsBoundedRow.holds Tryz.pinned (OpenSpec.ofChange exprsBoundedSpec)

/-- ITS FALSE NEIGHBOUR: 'it returns false'. Refute it at one input. -/
def exprsBoundedWrong : ChangeSpec := { name := "exprsBounded", fn := fun _ => fun
  | [d] => { results := [.lit (.bool false)], args := [d] }
  | _ => none }
def ExprsBoundedWrongFalsely : Prop := exprsBoundedRow.holds Tryz.pinned (OpenSpec.ofChange exprsBoundedWrong)

/-- 'pblaw1.CodesDone': WHATEVER THE INPUT: true; the input reads as it did. -/
def codesDoneSpec : ChangeSpec := { name := "codesDone", fn := fun _ => fun
  | [d] => { results := [.lit (.bool true)], args := [d] }
  | _ => none }
def codesDoneRow : OpenClaim := { program := "ytkgciohebloffaagreat", sum := "660ca81bb6bf9ca5796ce8ff06e6b53327866ebc45d8ac676913f7b06ee02896", func := "promptbook/pblaw1.CodesDone", spec := "codesDone", inPlace := ["internal/abi.NoEscape", "internal/bytealg.MakeNoZero", "internal/bytealg.IndexByteString", "internal/bytealg.abigen_runtime_cmpstring"], unfollowed := true, recurses := true, apart := false }
def CodesDoneSaid : Prop := codesDoneRow.holds Tryz.pinned (OpenSpec.ofChange codesDoneSpec)

/-- ITS FALSE NEIGHBOUR: 'it returns false'. Refute it at one input. -/
def codesDoneWrong : ChangeSpec := { name := "codesDone", fn := fun _ => fun
  | [d] => { results := [.lit (.bool false)], args := [d] }
  | _ => none }
def CodesDoneWrongFalsely : Prop := codesDoneRow.holds Tryz.pinned (OpenSpec.ofChange codesDoneWrong)

/- THE SECOND FORM. 'bulk': how many values and letters a reading holds, each counted each time it is reached (what is shared counts as often as it is met; a slice's spare places count too). A statement '..UptoSaid' is the law's where the arguments, and the package variables that the reading takes, are together of bulk at most 1048576: NARROWER than '..Said'. Prove '..Said' where nothing that the law and all that it calls make is longer than what came in: it says more and counts as full. Else prove '..UptoSaid'. A law counts once. -/
mutual
def uptoBulk {H : Type} : DataW H → Nat
  | .lit (.string bytes) => bytes.length + 1
  | .lit _ => 1
  | .nil => 1
  | .ptr d => uptoBulk d + 1
  | .slice elems spare => uptoBulkAll elems + uptoBulkAll spare + 1
  | .agg parts => uptoBulkAll parts + 1
  | .iface _ d => uptoBulk d + 1
  | .map entries => uptoBulkEntries entries + 1
  | .held _ => 1
def uptoBulkAll {H : Type} : List (DataW H) → Nat
  | [] => 0
  | d :: r => uptoBulk d + uptoBulkAll r
def uptoBulkEntries {H : Type} : List (Lit × DataW H) → Nat
  | [] => 0
  | x :: r => uptoBulkEntry x + uptoBulkEntries r
def uptoBulkEntry {H : Type} : Lit × DataW H → Nat
  | (.string bytes, d) => bytes.length + uptoBulk d + 1
  | (_, d) => uptoBulk d + 1
 end
def uptoSmall : (H : Type) → List (DataW H) → Bool := fun _ ds => decide (uptoBulkAll ds ≤ 1048576)
def OpenSpec.upto (s : _root_.Go.ChangeSpec) : _root_.Go.OpenSpec := { _root_.Go.OpenSpec.ofChange s with cond := some uptoSmall }

/-- 'pblaw1.ExprsValued', WHERE WHAT IT READS IS OF BULK AT MOST 1048576: true; the input reads as it did. -/
def exprsValuedUptoRow : OpenClaim := { program := "ytkgciohebloffaagreat", sum := "660ca81bb6bf9ca5796ce8ff06e6b53327866ebc45d8ac676913f7b06ee02896", func := "promptbook/pblaw1.ExprsValued", spec := "exprsValued", inPlace := ["internal/abi.NoEscape", "internal/bytealg.MakeNoZero", "internal/bytealg.IndexByteString", "internal/bytealg.abigen_runtime_cmpstring"], unfollowed := true, recurses := true, apart := false, narrowed := true }
def ExprsValuedUptoSaid : Prop := exprsValuedUptoRow.holds Tryz.pinned (OpenSpec.upto exprsValuedSpec)

/-- 'pblaw1.ExprsSimple', WHERE WHAT IT READS IS OF BULK AT MOST 1048576: true; the input reads as it did. -/
def exprsSimpleUptoRow : OpenClaim := { program := "ytkgciohebloffaagreat", sum := "660ca81bb6bf9ca5796ce8ff06e6b53327866ebc45d8ac676913f7b06ee02896", func := "promptbook/pblaw1.ExprsSimple", spec := "exprsSimple", inPlace := ["internal/abi.NoEscape", "internal/bytealg.MakeNoZero", "internal/bytealg.IndexByteString", "internal/bytealg.abigen_runtime_cmpstring"], unfollowed := true, recurses := true, apart := false, narrowed := true }
def ExprsSimpleUptoSaid : Prop := exprsSimpleUptoRow.holds Tryz.pinned (OpenSpec.upto exprsSimpleSpec)

/-- 'pblaw1.ExprsBounded', WHERE WHAT IT READS IS OF BULK AT MOST 1048576: true; the input reads as it did. -/
def exprsBoundedUptoRow : OpenClaim := { program := "ytkgciohebloffaagreat", sum := "660ca81bb6bf9ca5796ce8ff06e6b53327866ebc45d8ac676913f7b06ee02896", func := "promptbook/pblaw1.ExprsBounded", spec := "exprsBounded", inPlace := ["internal/abi.NoEscape", "internal/bytealg.MakeNoZero", "internal/bytealg.abigen_runtime_cmpstring", "internal/bytealg.IndexByteString"], unfollowed := true, recurses := true, apart := false, narrowed := true }
def ExprsBoundedUptoSaid : Prop := exprsBoundedUptoRow.holds Tryz.pinned (OpenSpec.upto exprsBoundedSpec)

/-- 'pblaw1.CodesDone', WHERE WHAT IT READS IS OF BULK AT MOST 1048576: true; the input reads as it did. -/
def codesDoneUptoRow : OpenClaim := { program := "ytkgciohebloffaagreat", sum := "660ca81bb6bf9ca5796ce8ff06e6b53327866ebc45d8ac676913f7b06ee02896", func := "promptbook/pblaw1.CodesDone", spec := "codesDone", inPlace := ["internal/abi.NoEscape", "internal/bytealg.MakeNoZero", "internal/bytealg.IndexByteString", "internal/bytealg.abigen_runtime_cmpstring"], unfollowed := true, recurses := true, apart := false, narrowed := true }
def CodesDoneUptoSaid : Prop := codesDoneUptoRow.holds Tryz.pinned (OpenSpec.upto codesDoneSpec)

end Rows
end Go.Proofs.YtkgciohebloffaaGreat
