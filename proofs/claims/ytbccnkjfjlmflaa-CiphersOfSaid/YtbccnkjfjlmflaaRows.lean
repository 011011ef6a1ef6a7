/-
  No cell of these rows narrows 'for every input' (looked for: loops, veiled, ifaces, maps, wideKeys, modest, calm, conditions, laid).
  DERIVED. THE GIVEN ROWS OF THIS SEAT. 5 by the template 'for every input the law returns true; each argument reads behind the call as it read before'; 0 by the template 'total and deterministic' (their statements: YtbccnkjfjlmflaaTotals.lean).
  GIVEN WITH THE SEED: the statements are not yours to turn. If you find one false, say at which input.
  Laid BY PROGRAM, IN A SANDBOX (cutbox-rows.mjs): the forced cells as the released guide's own fill.sh prints them over the translation b907cdfd0c4fa6a1… (all of the seat's roots in one cut). By AI agents, Wed Nov 11 2026. No macro, syntax, notation, axiom, sorry.
-/
import Derived.Test.YtbccnkjfjlmflaaChecked
import GoSem.Claim
import GoSem.ClaimJoined
import GoSem.ClaimMapViews
import Derived.JoinedTies
import Derived.KernelRfl
namespace Go.Proofs.Ytbccnkjfjlmflaa
/- THE CELL 'sum', in the pinned program and in every row, IS THE sha256 OF THE DUMP (.gsa) THAT YtbccnkjfjlmflaaProg.lean LOADS. Nothing in Lean hashes anything: it is a label: what it is worth is what the hold of that sum in a sandbox is worth. -/
noncomputable def Try.pinned : Pinned := { name := "ytbccnkjfjlmflaa", sum := "b907cdfd0c4fa6a118a3442b6430d491889560b3affb87f4eb822994913c840f", checked := Try.checked }
namespace Rows
def none {H : Type} : Left H := { results := [], args := [] }

/-- 'burrowlaw09.CiphersOf': WHATEVER THE INPUT: true; the input reads as it did. -/
def ciphersOfSpec : ChangeSpec := { name := "ciphersOf", fn := fun _ => fun
  | [d1, d2] => { results := [.lit (.bool true)], args := [d1, d2] }
  | _ => none }
def ciphersOfRow : OpenClaim := { program := "ytbccnkjfjlmflaa", sum := "b907cdfd0c4fa6a118a3442b6430d491889560b3affb87f4eb822994913c840f", func := "burrow/burrowlaw09.CiphersOf", spec := "ciphersOf", apart := false }
def CiphersOfSaid : Prop := ciphersOfRow.holds Try.pinned (OpenSpec.ofChange ciphersOfSpec)

/-- ITS FALSE NEIGHBOUR: 'it returns false'. Refute it at one input. -/
def ciphersOfWrong : ChangeSpec := { name := "ciphersOf", fn := fun _ => fun
  | [d1, d2] => { results := [.lit (.bool false)], args := [d1, d2] }
  | _ => none }
def CiphersOfWrongFalsely : Prop := ciphersOfRow.holds Try.pinned (OpenSpec.ofChange ciphersOfWrong)

/-- 'burrowlaw09.CiphersBack': WHATEVER THE INPUT: true; the input reads as it did. -/
def ciphersBackSpec : ChangeSpec := { name := "ciphersBack", fn := fun _ => fun
  | [d1, d2, d3] => { results := [.lit (.bool true)], args := [d1, d2, d3] }
  | _ => none }
def ciphersBackRow : OpenClaim := { program := "ytbccnkjfjlmflaa", sum := "b907cdfd0c4fa6a118a3442b6430d491889560b3affb87f4eb822994913c840f", func := "burrow/burrowlaw09.CiphersBack", spec := "ciphersBack", apart := false }
def CiphersBackSaid : Prop := ciphersBackRow.holds Try.pinned (OpenSpec.ofChange ciphersBackSpec)

/-- ITS FALSE NEIGHBOUR: 'it returns false'. Refute it at one input. -/
def ciphersBackWrong : ChangeSpec := { name := "ciphersBack", fn := fun _ => fun
  | [d1, d2, d3] => { results := [.lit (.bool false)], args := [d1, d2, d3] }
  | _ => none }
def CiphersBackWrongFalsely : Prop := ciphersBackRow.holds Try.pinned (OpenSpec.ofChange ciphersBackWrong)

/-- 'burrowlaw09.CiphersTwice': WHATEVER THE INPUT: true; the input reads as it did. -/
def ciphersTwiceSpec : ChangeSpec := { name := "ciphersTwice", fn := fun _ => fun
  | [d1, d2, d3] => { results := [.lit (.bool true)], args := [d1, d2, d3] }
  | _ => none }
def ciphersTwiceRow : OpenClaim := { program := "ytbccnkjfjlmflaa", sum := "b907cdfd0c4fa6a118a3442b6430d491889560b3affb87f4eb822994913c840f", func := "burrow/burrowlaw09.CiphersTwice", spec := "ciphersTwice", apart := false }
def CiphersTwiceSaid : Prop := ciphersTwiceRow.holds Try.pinned (OpenSpec.ofChange ciphersTwiceSpec)

/-- ITS FALSE NEIGHBOUR: 'it returns false'. Refute it at one input. -/
def ciphersTwiceWrong : ChangeSpec := { name := "ciphersTwice", fn := fun _ => fun
  | [d1, d2, d3] => { results := [.lit (.bool false)], args := [d1, d2, d3] }
  | _ => none }
def CiphersTwiceWrongFalsely : Prop := ciphersTwiceRow.holds Try.pinned (OpenSpec.ofChange ciphersTwiceWrong)

/-- 'burrowlaw09.CiphersOn': WHATEVER THE INPUT: true; the input reads as it did. -/
def ciphersOnSpec : ChangeSpec := { name := "ciphersOn", fn := fun _ => fun
  | [d1, d2, d3] => { results := [.lit (.bool true)], args := [d1, d2, d3] }
  | _ => none }
def ciphersOnRow : OpenClaim := { program := "ytbccnkjfjlmflaa", sum := "b907cdfd0c4fa6a118a3442b6430d491889560b3affb87f4eb822994913c840f", func := "burrow/burrowlaw09.CiphersOn", spec := "ciphersOn", apart := false }
def CiphersOnSaid : Prop := ciphersOnRow.holds Try.pinned (OpenSpec.ofChange ciphersOnSpec)

/-- ITS FALSE NEIGHBOUR: 'it returns false'. Refute it at one input. -/
def ciphersOnWrong : ChangeSpec := { name := "ciphersOn", fn := fun _ => fun
  | [d1, d2, d3] => { results := [.lit (.bool false)], args := [d1, d2, d3] }
  | _ => none }
def CiphersOnWrongFalsely : Prop := ciphersOnRow.holds Try.pinned (OpenSpec.ofChange ciphersOnWrong)

/-- 'burrowlaw09.CiphersAgainst': WHATEVER THE INPUT: true; the input reads as it did. -/
def ciphersAgainstSpec : ChangeSpec := { name := "ciphersAgainst", fn := fun _ => fun
  | [d1, d2, d3] => { results := [.lit (.bool true)], args := [d1, d2, d3] }
  | _ => none }
def ciphersAgainstRow : OpenClaim := { program := "ytbccnkjfjlmflaa", sum := "b907cdfd0c4fa6a118a3442b6430d491889560b3affb87f4eb822994913c840f", func := "burrow/burrowlaw09.CiphersAgainst", spec := "ciphersAgainst", apart := false }
def CiphersAgainstSaid : Prop := ciphersAgainstRow.holds Try.pinned (OpenSpec.ofChange ciphersAgainstSpec)

/-- ITS FALSE NEIGHBOUR: 'it returns false'. Refute it at one input. -/
def ciphersAgainstWrong : ChangeSpec := { name := "ciphersAgainst", fn := fun _ => fun
  | [d1, d2, d3] => { results := [.lit (.bool false)], args := [d1, d2, d3] }
  | _ => none }
def CiphersAgainstWrongFalsely : Prop := ciphersAgainstRow.holds Try.pinned (OpenSpec.ofChange ciphersAgainstWrong)

/- THE SECOND FORM. 'bulk': how many values and letters a reading holds, each counted each time it is reached (what is shared counts as often as it is met; a slice's spare places count too). A statement '..UptoSaid' is the law's where the arguments, and the package variables that the reading takes, are together of bulk at most 1048576: NARROWER than '..Said'. Prove '..Said' where nothing that the law and all that it calls make is longer than what came in: it says more and counts as full. Else prove '..UptoSaid'. A law counts once. -/
mutual
def uptoBulk {H : Type} : DataW H → Nat
  | .lit (.string bytes) => bytes.length + 1
  | .lit _ => 1
  | .nil => 1
  | .ptr d => uptoBulk d + 1
  | .slice elems spare => uptoBulkAll elems + uptoBulkAll spare + 1
  | .agg parts => uptoBulkAll parts + 1
  | .iface _ d => uptoBulk d + 1
  | .map entries => uptoBulkEntries entries + 1
  | .held _ => 1
def uptoBulkAll {H : Type} : List (DataW H) → Nat
  | [] => 0
  | d :: r => uptoBulk d + uptoBulkAll r
def uptoBulkEntries {H : Type} : List (Lit × DataW H) → Nat
  | [] => 0
  | x :: r => uptoBulkEntry x + uptoBulkEntries r
def uptoBulkEntry {H : Type} : Lit × DataW H → Nat
  | (.string bytes, d) => bytes.length + uptoBulk d + 1
  | (_, d) => uptoBulk d + 1
 end
def uptoSmall : (H : Type) → List (DataW H) → Bool := fun _ ds => decide (uptoBulkAll ds ≤ 1048576)
def OpenSpec.upto (s : _root_.Go.ChangeSpec) : _root_.Go.OpenSpec := { _root_.Go.OpenSpec.ofChange s with cond := some uptoSmall }

/-- 'burrowlaw09.CiphersOf', WHERE WHAT IT READS IS OF BULK AT MOST 1048576: true; the input reads as it did. -/
def ciphersOfUptoRow : OpenClaim := { program := "ytbccnkjfjlmflaa", sum := "b907cdfd0c4fa6a118a3442b6430d491889560b3affb87f4eb822994913c840f", func := "burrow/burrowlaw09.CiphersOf", spec := "ciphersOf", apart := false, narrowed := true }
def CiphersOfUptoSaid : Prop := ciphersOfUptoRow.holds Try.pinned (OpenSpec.upto ciphersOfSpec)

/-- 'burrowlaw09.CiphersBack', WHERE WHAT IT READS IS OF BULK AT MOST 1048576: true; the input reads as it did. -/
def ciphersBackUptoRow : OpenClaim := { program := "ytbccnkjfjlmflaa", sum := "b907cdfd0c4fa6a118a3442b6430d491889560b3affb87f4eb822994913c840f", func := "burrow/burrowlaw09.CiphersBack", spec := "ciphersBack", apart := false, narrowed := true }
def CiphersBackUptoSaid : Prop := ciphersBackUptoRow.holds Try.pinned (OpenSpec.upto ciphersBackSpec)

/-- 'burrowlaw09.CiphersTwice', WHERE WHAT IT READS IS OF BULK AT MOST 1048576: true; the input reads as it did. -/
def ciphersTwiceUptoRow : OpenClaim := { program := "ytbccnkjfjlmflaa", sum := "b907cdfd0c4fa6a118a3442b6430d491889560b3affb87f4eb822994913c840f", func := "burrow/burrowlaw09.CiphersTwice", spec := "ciphersTwice", apart := false, narrowed := true }
def CiphersTwiceUptoSaid : Prop := ciphersTwiceUptoRow.holds Try.pinned (OpenSpec.upto ciphersTwiceSpec)

/-- 'burrowlaw09.CiphersOn', WHERE WHAT IT READS IS OF BULK AT MOST 1048576: true; the input reads as it did. -/
def ciphersOnUptoRow : OpenClaim := { program := "ytbccnkjfjlmflaa", sum := "b907cdfd0c4fa6a118a3442b6430d491889560b3affb87f4eb822994913c840f", func := "burrow/burrowlaw09.CiphersOn", spec := "ciphersOn", apart := false, narrowed := true }
def CiphersOnUptoSaid : Prop := ciphersOnUptoRow.holds Try.pinned (OpenSpec.upto ciphersOnSpec)

/-- 'burrowlaw09.CiphersAgainst', WHERE WHAT IT READS IS OF BULK AT MOST 1048576: true; the input reads as it did. -/
def ciphersAgainstUptoRow : OpenClaim := { program := "ytbccnkjfjlmflaa", sum := "b907cdfd0c4fa6a118a3442b6430d491889560b3affb87f4eb822994913c840f", func := "burrow/burrowlaw09.CiphersAgainst", spec := "ciphersAgainst", apart := false, narrowed := true }
def CiphersAgainstUptoSaid : Prop := ciphersAgainstUptoRow.holds Try.pinned (OpenSpec.upto ciphersAgainstSpec)

end Rows
end Go.Proofs.Ytbccnkjfjlmflaa
