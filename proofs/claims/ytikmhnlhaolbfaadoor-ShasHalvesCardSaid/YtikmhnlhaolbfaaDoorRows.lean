/-
  NARROWER THAN 'FOR EVERY INPUT', by the rows' own cells (each row's printed sentence says how): DividesReckoned: laid · DividesShared: laid · ModsOver: laid · ShasOf: laid · ShasParts: laid · ShasNone: laid · ShasAs: laid · ShasCut: laid · ShasTwo: laid · ShasBytes: laid · ShasNumber: laid · ShasHalves: laid.
  DERIVED. THE GIVEN ROWS OF THIS SEAT. 12 by the template 'for every input the law returns true; each argument reads behind the call as it read before'; 0 by the template 'total and deterministic' (their statements: YtikmhnlhaolbfaaDoorTotals.lean).
  GIVEN WITH THE SEED: the statements are not yours to turn. If you find one false, say at which input.
  Laid BY PROGRAM, IN A SANDBOX (cutbox-rows.mjs): the forced cells as the released guide's own fill.sh prints them over the translation 054d98fd86a87331… (all of the seat's roots in one cut). By AI agents, Wed Nov 11 2026. No macro, syntax, notation, axiom, sorry.
-/
import Derived.Test.YtikmhnlhaolbfaaDoorChecked
import GoSem.Claim
import GoSem.ClaimJoined
import GoSem.ClaimMapViews
import Derived.JoinedTies
import Derived.KernelRfl
namespace Go.Proofs.YtikmhnlhaolbfaaDoor
/- THE CELL 'sum', in the pinned program and in every row, IS THE sha256 OF THE DUMP (.gsa) THAT YtikmhnlhaolbfaaDoorProg.lean LOADS. Nothing in Lean hashes anything: it is a label: what it is worth is what the hold of that sum in a sandbox is worth. -/
noncomputable def Tryd.pinned : Pinned := { name := "ytikmhnlhaolbfaadoor", sum := "054d98fd86a873316a6e71f9b26acbd540d5271bfc114f98eeab7c60f89b70aa", checked := Tryd.checked }
namespace Rows
def none {H : Type} : Left H := { results := [], args := [] }

/- WHAT THE LISTED PACKAGE-LEVEL VARIABLES READ AS WHEN THE CALL BEGINS. Each datum BY PROGRAM (the guide's laid-datum.mjs) off the statement by which the dump's own 'gosem.cut.vars' lays the variable. In a bare row this is a premise. The card (YtikmhnlhaolbfaaDoorCards.lean) ties it to the program's text. -/
def laid_math_bits_deBruijn64tab {H : Type} : DataW H := .agg [.lit (.int .u8 0), .lit (.int .u8 1), .lit (.int .u8 56), .lit (.int .u8 2), .lit (.int .u8 57), .lit (.int .u8 49), .lit (.int .u8 28), .lit (.int .u8 3), .lit (.int .u8 61), .lit (.int .u8 58), .lit (.int .u8 42), .lit (.int .u8 50), .lit (.int .u8 38), .lit (.int .u8 29), .lit (.int .u8 17), .lit (.int .u8 4), .lit (.int .u8 62), .lit (.int .u8 47), .lit (.int .u8 59), .lit (.int .u8 36), .lit (.int .u8 45), .lit (.int .u8 43), .lit (.int .u8 51), .lit (.int .u8 22), .lit (.int .u8 53), .lit (.int .u8 39), .lit (.int .u8 33), .lit (.int .u8 30), .lit (.int .u8 24), .lit (.int .u8 18), .lit (.int .u8 12), .lit (.int .u8 5), .lit (.int .u8 63), .lit (.int .u8 55), .lit (.int .u8 48), .lit (.int .u8 27), .lit (.int .u8 60), .lit (.int .u8 41), .lit (.int .u8 37), .lit (.int .u8 16), .lit (.int .u8 46), .lit (.int .u8 35), .lit (.int .u8 44), .lit (.int .u8 21), .lit (.int .u8 52), .lit (.int .u8 32), .lit (.int .u8 23), .lit (.int .u8 11), .lit (.int .u8 54), .lit (.int .u8 26), .lit (.int .u8 40), .lit (.int .u8 15), .lit (.int .u8 34), .lit (.int .u8 20), .lit (.int .u8 31), .lit (.int .u8 10), .lit (.int .u8 25), .lit (.int .u8 14), .lit (.int .u8 19), .lit (.int .u8 9), .lit (.int .u8 13), .lit (.int .u8 8), .lit (.int .u8 7), .lit (.int .u8 6)]
def laid_burrow_shas_cubes {H : Type} : DataW H := .agg [.lit (.int .u32 1116352408), .lit (.int .u32 1899447441), .lit (.int .u32 3049323471), .lit (.int .u32 3921009573), .lit (.int .u32 961987163), .lit (.int .u32 1508970993), .lit (.int .u32 2453635748), .lit (.int .u32 2870763221), .lit (.int .u32 3624381080), .lit (.int .u32 310598401), .lit (.int .u32 607225278), .lit (.int .u32 1426881987), .lit (.int .u32 1925078388), .lit (.int .u32 2162078206), .lit (.int .u32 2614888103), .lit (.int .u32 3248222580), .lit (.int .u32 3835390401), .lit (.int .u32 4022224774), .lit (.int .u32 264347078), .lit (.int .u32 604807628), .lit (.int .u32 770255983), .lit (.int .u32 1249150122), .lit (.int .u32 1555081692), .lit (.int .u32 1996064986), .lit (.int .u32 2554220882), .lit (.int .u32 2821834349), .lit (.int .u32 2952996808), .lit (.int .u32 3210313671), .lit (.int .u32 3336571891), .lit (.int .u32 3584528711), .lit (.int .u32 113926993), .lit (.int .u32 338241895), .lit (.int .u32 666307205), .lit (.int .u32 773529912), .lit (.int .u32 1294757372), .lit (.int .u32 1396182291), .lit (.int .u32 1695183700), .lit (.int .u32 1986661051), .lit (.int .u32 2177026350), .lit (.int .u32 2456956037), .lit (.int .u32 2730485921), .lit (.int .u32 2820302411), .lit (.int .u32 3259730800), .lit (.int .u32 3345764771), .lit (.int .u32 3516065817), .lit (.int .u32 3600352804), .lit (.int .u32 4094571909), .lit (.int .u32 275423344), .lit (.int .u32 430227734), .lit (.int .u32 506948616), .lit (.int .u32 659060556), .lit (.int .u32 883997877), .lit (.int .u32 958139571), .lit (.int .u32 1322822218), .lit (.int .u32 1537002063), .lit (.int .u32 1747873779), .lit (.int .u32 1955562222), .lit (.int .u32 2024104815), .lit (.int .u32 2227730452), .lit (.int .u32 2361852424), .lit (.int .u32 2428436474), .lit (.int .u32 2756734187), .lit (.int .u32 3204031479), .lit (.int .u32 3329325298)]

/-- 'burrowlaw03.DividesReckoned': WHATEVER THE INPUT: true; the input reads as it did. -/
def dividesReckonedSpec : ChangeSpec := { name := "dividesReckoned", fn := fun _ => fun
  | [d1, d2, d3] => { results := [.lit (.bool true)], args := [d1, d2, d3] }
  | _ => none }
def dividesReckonedRow : OpenClaim := { program := "ytikmhnlhaolbfaadoor", sum := "054d98fd86a873316a6e71f9b26acbd540d5271bfc114f98eeab7c60f89b70aa", func := "burrow/burrowlaw03.DividesReckoned", spec := "dividesReckoned", inPlace := ["math/bits.Add64", "math/bits.Sub64"], recurses := true, named := ["math/bits.divideError", "math/bits.overflowError", "math/bits.deBruijn64tab"], apart := false, laid := [("math/bits.deBruijn64tab", laid_math_bits_deBruijn64tab)] }
def DividesReckonedSaid : Prop := dividesReckonedRow.holds Tryd.pinned (OpenSpec.ofChange dividesReckonedSpec)

/-- ITS FALSE NEIGHBOUR: 'it returns false'. Refute it at one input. -/
def dividesReckonedWrong : ChangeSpec := { name := "dividesReckoned", fn := fun _ => fun
  | [d1, d2, d3] => { results := [.lit (.bool false)], args := [d1, d2, d3] }
  | _ => none }
def DividesReckonedWrongFalsely : Prop := dividesReckonedRow.holds Tryd.pinned (OpenSpec.ofChange dividesReckonedWrong)

/-- 'burrowlaw03.DividesShared': WHATEVER THE INPUT: true; the input reads as it did. -/
def dividesSharedSpec : ChangeSpec := { name := "dividesShared", fn := fun _ => fun
  | [d1, d2, d3] => { results := [.lit (.bool true)], args := [d1, d2, d3] }
  | _ => none }
def dividesSharedRow : OpenClaim := { program := "ytikmhnlhaolbfaadoor", sum := "054d98fd86a873316a6e71f9b26acbd540d5271bfc114f98eeab7c60f89b70aa", func := "burrow/burrowlaw03.DividesShared", spec := "dividesShared", inPlace := ["math/bits.Sub64", "math/bits.Add64"], named := ["math/bits.deBruijn64tab"], apart := false, laid := [("math/bits.deBruijn64tab", laid_math_bits_deBruijn64tab)] }
def DividesSharedSaid : Prop := dividesSharedRow.holds Tryd.pinned (OpenSpec.ofChange dividesSharedSpec)

/-- ITS FALSE NEIGHBOUR: 'it returns false'. Refute it at one input. -/
def dividesSharedWrong : ChangeSpec := { name := "dividesShared", fn := fun _ => fun
  | [d1, d2, d3] => { results := [.lit (.bool false)], args := [d1, d2, d3] }
  | _ => none }
def DividesSharedWrongFalsely : Prop := dividesSharedRow.holds Tryd.pinned (OpenSpec.ofChange dividesSharedWrong)

/-- 'burrowlaw04.ModsOver': WHATEVER THE INPUT: true; the input reads as it did. -/
def modsOverSpec : ChangeSpec := { name := "modsOver", fn := fun _ => fun
  | [d1, d2, d3] => { results := [.lit (.bool true)], args := [d1, d2, d3] }
  | _ => none }
def modsOverRow : OpenClaim := { program := "ytikmhnlhaolbfaadoor", sum := "054d98fd86a873316a6e71f9b26acbd540d5271bfc114f98eeab7c60f89b70aa", func := "burrow/burrowlaw04.ModsOver", spec := "modsOver", inPlace := ["math/bits.Add64", "math/bits.Sub64"], unfollowed := true, recurses := true, named := ["math/bits.deBruijn64tab"], apart := false, laid := [("math/bits.deBruijn64tab", laid_math_bits_deBruijn64tab)] }
def ModsOverSaid : Prop := modsOverRow.holds Tryd.pinned (OpenSpec.ofChange modsOverSpec)

/-- ITS FALSE NEIGHBOUR: 'it returns false'. Refute it at one input. -/
def modsOverWrong : ChangeSpec := { name := "modsOver", fn := fun _ => fun
  | [d1, d2, d3] => { results := [.lit (.bool false)], args := [d1, d2, d3] }
  | _ => none }
def ModsOverWrongFalsely : Prop := modsOverRow.holds Tryd.pinned (OpenSpec.ofChange modsOverWrong)

/-- 'burrowlaw05.ShasOf': WHATEVER THE INPUT: true; the input reads as it did. -/
def shasOfSpec : ChangeSpec := { name := "shasOf", fn := fun _ => fun
  | [d] => { results := [.lit (.bool true)], args := [d] }
  | _ => none }
def shasOfRow : OpenClaim := { program := "ytikmhnlhaolbfaadoor", sum := "054d98fd86a873316a6e71f9b26acbd540d5271bfc114f98eeab7c60f89b70aa", func := "burrow/burrowlaw05.ShasOf", spec := "shasOf", named := ["burrow/shas.cubes"], apart := false, laid := [("burrow/shas.cubes", laid_burrow_shas_cubes)] }
def ShasOfSaid : Prop := shasOfRow.holds Tryd.pinned (OpenSpec.ofChange shasOfSpec)

/-- ITS FALSE NEIGHBOUR: 'it returns false'. Refute it at one input. -/
def shasOfWrong : ChangeSpec := { name := "shasOf", fn := fun _ => fun
  | [d] => { results := [.lit (.bool false)], args := [d] }
  | _ => none }
def ShasOfWrongFalsely : Prop := shasOfRow.holds Tryd.pinned (OpenSpec.ofChange shasOfWrong)

/-- 'burrowlaw05.ShasParts': WHATEVER THE INPUT: true; the input reads as it did. -/
def shasPartsSpec : ChangeSpec := { name := "shasParts", fn := fun _ => fun
  | [d] => { results := [.lit (.bool true)], args := [d] }
  | _ => none }
def shasPartsRow : OpenClaim := { program := "ytikmhnlhaolbfaadoor", sum := "054d98fd86a873316a6e71f9b26acbd540d5271bfc114f98eeab7c60f89b70aa", func := "burrow/burrowlaw05.ShasParts", spec := "shasParts", named := ["burrow/shas.cubes"], apart := false, laid := [("burrow/shas.cubes", laid_burrow_shas_cubes)] }
def ShasPartsSaid : Prop := shasPartsRow.holds Tryd.pinned (OpenSpec.ofChange shasPartsSpec)

/-- ITS FALSE NEIGHBOUR: 'it returns false'. Refute it at one input. -/
def shasPartsWrong : ChangeSpec := { name := "shasParts", fn := fun _ => fun
  | [d] => { results := [.lit (.bool false)], args := [d] }
  | _ => none }
def ShasPartsWrongFalsely : Prop := shasPartsRow.holds Tryd.pinned (OpenSpec.ofChange shasPartsWrong)

/-- 'burrowlaw05.ShasNone': WHATEVER THE INPUT: true; the input reads as it did. -/
def shasNoneSpec : ChangeSpec := { name := "shasNone", fn := fun _ => fun
  | [d] => { results := [.lit (.bool true)], args := [d] }
  | _ => none }
def shasNoneRow : OpenClaim := { program := "ytikmhnlhaolbfaadoor", sum := "054d98fd86a873316a6e71f9b26acbd540d5271bfc114f98eeab7c60f89b70aa", func := "burrow/burrowlaw05.ShasNone", spec := "shasNone", named := ["burrow/shas.cubes"], apart := false, laid := [("burrow/shas.cubes", laid_burrow_shas_cubes)] }
def ShasNoneSaid : Prop := shasNoneRow.holds Tryd.pinned (OpenSpec.ofChange shasNoneSpec)

/-- ITS FALSE NEIGHBOUR: 'it returns false'. Refute it at one input. -/
def shasNoneWrong : ChangeSpec := { name := "shasNone", fn := fun _ => fun
  | [d] => { results := [.lit (.bool false)], args := [d] }
  | _ => none }
def ShasNoneWrongFalsely : Prop := shasNoneRow.holds Tryd.pinned (OpenSpec.ofChange shasNoneWrong)

/-- 'burrowlaw05.ShasAs': WHATEVER THE INPUT: true; the input reads as it did. -/
def shasAsSpec : ChangeSpec := { name := "shasAs", fn := fun _ => fun
  | [d1, d2, d3] => { results := [.lit (.bool true)], args := [d1, d2, d3] }
  | _ => none }
def shasAsRow : OpenClaim := { program := "ytikmhnlhaolbfaadoor", sum := "054d98fd86a873316a6e71f9b26acbd540d5271bfc114f98eeab7c60f89b70aa", func := "burrow/burrowlaw05.ShasAs", spec := "shasAs", inPlace := ["math/bits.Add64", "math/bits.Sub64"], unfollowed := true, recurses := true, named := ["burrow/shas.cubes", "math/bits.divideError", "math/bits.overflowError"], apart := false, laid := [("burrow/shas.cubes", laid_burrow_shas_cubes)] }
def ShasAsSaid : Prop := shasAsRow.holds Tryd.pinned (OpenSpec.ofChange shasAsSpec)

/-- ITS FALSE NEIGHBOUR: 'it returns false'. Refute it at one input. -/
def shasAsWrong : ChangeSpec := { name := "shasAs", fn := fun _ => fun
  | [d1, d2, d3] => { results := [.lit (.bool false)], args := [d1, d2, d3] }
  | _ => none }
def ShasAsWrongFalsely : Prop := shasAsRow.holds Tryd.pinned (OpenSpec.ofChange shasAsWrong)

/-- 'burrowlaw05.ShasCut': WHATEVER THE INPUT: true; the input reads as it did. -/
def shasCutSpec : ChangeSpec := { name := "shasCut", fn := fun _ => fun
  | [d1, d2] => { results := [.lit (.bool true)], args := [d1, d2] }
  | _ => none }
def shasCutRow : OpenClaim := { program := "ytikmhnlhaolbfaadoor", sum := "054d98fd86a873316a6e71f9b26acbd540d5271bfc114f98eeab7c60f89b70aa", func := "burrow/burrowlaw05.ShasCut", spec := "shasCut", named := ["burrow/shas.cubes"], apart := false, laid := [("burrow/shas.cubes", laid_burrow_shas_cubes)] }
def ShasCutSaid : Prop := shasCutRow.holds Tryd.pinned (OpenSpec.ofChange shasCutSpec)

/-- ITS FALSE NEIGHBOUR: 'it returns false'. Refute it at one input. -/
def shasCutWrong : ChangeSpec := { name := "shasCut", fn := fun _ => fun
  | [d1, d2] => { results := [.lit (.bool false)], args := [d1, d2] }
  | _ => none }
def ShasCutWrongFalsely : Prop := shasCutRow.holds Tryd.pinned (OpenSpec.ofChange shasCutWrong)

/-- 'burrowlaw05.ShasTwo': WHATEVER THE INPUT: true; the input reads as it did. -/
def shasTwoSpec : ChangeSpec := { name := "shasTwo", fn := fun _ => fun
  | [d1, d2] => { results := [.lit (.bool true)], args := [d1, d2] }
  | _ => none }
def shasTwoRow : OpenClaim := { program := "ytikmhnlhaolbfaadoor", sum := "054d98fd86a873316a6e71f9b26acbd540d5271bfc114f98eeab7c60f89b70aa", func := "burrow/burrowlaw05.ShasTwo", spec := "shasTwo", named := ["burrow/shas.cubes"], apart := false, laid := [("burrow/shas.cubes", laid_burrow_shas_cubes)] }
def ShasTwoSaid : Prop := shasTwoRow.holds Tryd.pinned (OpenSpec.ofChange shasTwoSpec)

/-- ITS FALSE NEIGHBOUR: 'it returns false'. Refute it at one input. -/
def shasTwoWrong : ChangeSpec := { name := "shasTwo", fn := fun _ => fun
  | [d1, d2] => { results := [.lit (.bool false)], args := [d1, d2] }
  | _ => none }
def ShasTwoWrongFalsely : Prop := shasTwoRow.holds Tryd.pinned (OpenSpec.ofChange shasTwoWrong)

/-- 'burrowlaw05.ShasBytes': WHATEVER THE INPUT: true; the input reads as it did. -/
def shasBytesSpec : ChangeSpec := { name := "shasBytes", fn := fun _ => fun
  | [d1, d2, d3] => { results := [.lit (.bool true)], args := [d1, d2, d3] }
  | _ => none }
def shasBytesRow : OpenClaim := { program := "ytikmhnlhaolbfaadoor", sum := "054d98fd86a873316a6e71f9b26acbd540d5271bfc114f98eeab7c60f89b70aa", func := "burrow/burrowlaw05.ShasBytes", spec := "shasBytes", inPlace := ["math/bits.Add64", "math/bits.Sub64"], unfollowed := true, recurses := true, named := ["burrow/shas.cubes"], apart := false, laid := [("burrow/shas.cubes", laid_burrow_shas_cubes)] }
def ShasBytesSaid : Prop := shasBytesRow.holds Tryd.pinned (OpenSpec.ofChange shasBytesSpec)

/-- ITS FALSE NEIGHBOUR: 'it returns false'. Refute it at one input. -/
def shasBytesWrong : ChangeSpec := { name := "shasBytes", fn := fun _ => fun
  | [d1, d2, d3] => { results := [.lit (.bool false)], args := [d1, d2, d3] }
  | _ => none }
def ShasBytesWrongFalsely : Prop := shasBytesRow.holds Tryd.pinned (OpenSpec.ofChange shasBytesWrong)

/-- 'burrowlaw05.ShasNumber': WHATEVER THE INPUT: true; the input reads as it did. -/
def shasNumberSpec : ChangeSpec := { name := "shasNumber", fn := fun _ => fun
  | [d1, d2, d3] => { results := [.lit (.bool true)], args := [d1, d2, d3] }
  | _ => none }
def shasNumberRow : OpenClaim := { program := "ytikmhnlhaolbfaadoor", sum := "054d98fd86a873316a6e71f9b26acbd540d5271bfc114f98eeab7c60f89b70aa", func := "burrow/burrowlaw05.ShasNumber", spec := "shasNumber", inPlace := ["math/bits.Add64", "math/bits.Sub64"], unfollowed := true, recurses := true, named := ["burrow/shas.cubes"], apart := false, laid := [("burrow/shas.cubes", laid_burrow_shas_cubes)] }
def ShasNumberSaid : Prop := shasNumberRow.holds Tryd.pinned (OpenSpec.ofChange shasNumberSpec)

/-- ITS FALSE NEIGHBOUR: 'it returns false'. Refute it at one input. -/
def shasNumberWrong : ChangeSpec := { name := "shasNumber", fn := fun _ => fun
  | [d1, d2, d3] => { results := [.lit (.bool false)], args := [d1, d2, d3] }
  | _ => none }
def ShasNumberWrongFalsely : Prop := shasNumberRow.holds Tryd.pinned (OpenSpec.ofChange shasNumberWrong)

/-- 'burrowlaw05.ShasHalves': WHATEVER THE INPUT: true; the input reads as it did. -/
def shasHalvesSpec : ChangeSpec := { name := "shasHalves", fn := fun _ => fun
  | [d1, d2, d3] => { results := [.lit (.bool true)], args := [d1, d2, d3] }
  | _ => none }
def shasHalvesRow : OpenClaim := { program := "ytikmhnlhaolbfaadoor", sum := "054d98fd86a873316a6e71f9b26acbd540d5271bfc114f98eeab7c60f89b70aa", func := "burrow/burrowlaw05.ShasHalves", spec := "shasHalves", inPlace := ["math/bits.Add64", "math/bits.Sub64"], unfollowed := true, recurses := true, named := ["burrow/shas.cubes"], apart := false, laid := [("burrow/shas.cubes", laid_burrow_shas_cubes)] }
def ShasHalvesSaid : Prop := shasHalvesRow.holds Tryd.pinned (OpenSpec.ofChange shasHalvesSpec)

/-- ITS FALSE NEIGHBOUR: 'it returns false'. Refute it at one input. -/
def shasHalvesWrong : ChangeSpec := { name := "shasHalves", fn := fun _ => fun
  | [d1, d2, d3] => { results := [.lit (.bool false)], args := [d1, d2, d3] }
  | _ => none }
def ShasHalvesWrongFalsely : Prop := shasHalvesRow.holds Tryd.pinned (OpenSpec.ofChange shasHalvesWrong)

/- THE SECOND FORM. 'bulk': how many values and letters a reading holds, each counted each time it is reached (what is shared counts as often as it is met; a slice's spare places count too). A statement '..UptoSaid' is the law's where the arguments, and the package variables that the reading takes, are together of bulk at most 1048576: NARROWER than '..Said'. Prove '..Said' where nothing that the law and all that it calls make is longer than what came in: it says more and counts as full. Else prove '..UptoSaid'. A law counts once. -/
mutual
def uptoBulk {H : Type} : DataW H → Nat
  | .lit (.string bytes) => bytes.length + 1
  | .lit _ => 1
  | .nil => 1
  | .ptr d => uptoBulk d + 1
  | .slice elems spare => uptoBulkAll elems + uptoBulkAll spare + 1
  | .agg parts => uptoBulkAll parts + 1
  | .iface _ d => uptoBulk d + 1
  | .map entries => uptoBulkEntries entries + 1
  | .held _ => 1
def uptoBulkAll {H : Type} : List (DataW H) → Nat
  | [] => 0
  | d :: r => uptoBulk d + uptoBulkAll r
def uptoBulkEntries {H : Type} : List (Lit × DataW H) → Nat
  | [] => 0
  | x :: r => uptoBulkEntry x + uptoBulkEntries r
def uptoBulkEntry {H : Type} : Lit × DataW H → Nat
  | (.string bytes, d) => bytes.length + uptoBulk d + 1
  | (_, d) => uptoBulk d + 1
 end
def uptoSmall : (H : Type) → List (DataW H) → Bool := fun _ ds => decide (uptoBulkAll ds ≤ 1048576)
def OpenSpec.upto (s : _root_.Go.ChangeSpec) : _root_.Go.OpenSpec := { _root_.Go.OpenSpec.ofChange s with cond := some uptoSmall }

/-- 'burrowlaw03.DividesReckoned', WHERE WHAT IT READS IS OF BULK AT MOST 1048576: true; the input reads as it did. -/
def dividesReckonedUptoRow : OpenClaim := { program := "ytikmhnlhaolbfaadoor", sum := "054d98fd86a873316a6e71f9b26acbd540d5271bfc114f98eeab7c60f89b70aa", func := "burrow/burrowlaw03.DividesReckoned", spec := "dividesReckoned", inPlace := ["math/bits.Add64", "math/bits.Sub64"], recurses := true, named := ["math/bits.divideError", "math/bits.overflowError", "math/bits.deBruijn64tab"], apart := false, laid := [("math/bits.deBruijn64tab", laid_math_bits_deBruijn64tab)], narrowed := true }
def DividesReckonedUptoSaid : Prop := dividesReckonedUptoRow.holds Tryd.pinned (OpenSpec.upto dividesReckonedSpec)

/-- 'burrowlaw03.DividesShared', WHERE WHAT IT READS IS OF BULK AT MOST 1048576: true; the input reads as it did. -/
def dividesSharedUptoRow : OpenClaim := { program := "ytikmhnlhaolbfaadoor", sum := "054d98fd86a873316a6e71f9b26acbd540d5271bfc114f98eeab7c60f89b70aa", func := "burrow/burrowlaw03.DividesShared", spec := "dividesShared", inPlace := ["math/bits.Sub64", "math/bits.Add64"], named := ["math/bits.deBruijn64tab"], apart := false, laid := [("math/bits.deBruijn64tab", laid_math_bits_deBruijn64tab)], narrowed := true }
def DividesSharedUptoSaid : Prop := dividesSharedUptoRow.holds Tryd.pinned (OpenSpec.upto dividesSharedSpec)

/-- 'burrowlaw04.ModsOver', WHERE WHAT IT READS IS OF BULK AT MOST 1048576: true; the input reads as it did. -/
def modsOverUptoRow : OpenClaim := { program := "ytikmhnlhaolbfaadoor", sum := "054d98fd86a873316a6e71f9b26acbd540d5271bfc114f98eeab7c60f89b70aa", func := "burrow/burrowlaw04.ModsOver", spec := "modsOver", inPlace := ["math/bits.Add64", "math/bits.Sub64"], unfollowed := true, recurses := true, named := ["math/bits.deBruijn64tab"], apart := false, laid := [("math/bits.deBruijn64tab", laid_math_bits_deBruijn64tab)], narrowed := true }
def ModsOverUptoSaid : Prop := modsOverUptoRow.holds Tryd.pinned (OpenSpec.upto modsOverSpec)

/-- 'burrowlaw05.ShasOf', WHERE WHAT IT READS IS OF BULK AT MOST 1048576: true; the input reads as it did. -/
def shasOfUptoRow : OpenClaim := { program := "ytikmhnlhaolbfaadoor", sum := "054d98fd86a873316a6e71f9b26acbd540d5271bfc114f98eeab7c60f89b70aa", func := "burrow/burrowlaw05.ShasOf", spec := "shasOf", named := ["burrow/shas.cubes"], apart := false, laid := [("burrow/shas.cubes", laid_burrow_shas_cubes)], narrowed := true }
def ShasOfUptoSaid : Prop := shasOfUptoRow.holds Tryd.pinned (OpenSpec.upto shasOfSpec)

/-- 'burrowlaw05.ShasParts', WHERE WHAT IT READS IS OF BULK AT MOST 1048576: true; the input reads as it did. -/
def shasPartsUptoRow : OpenClaim := { program := "ytikmhnlhaolbfaadoor", sum := "054d98fd86a873316a6e71f9b26acbd540d5271bfc114f98eeab7c60f89b70aa", func := "burrow/burrowlaw05.ShasParts", spec := "shasParts", named := ["burrow/shas.cubes"], apart := false, laid := [("burrow/shas.cubes", laid_burrow_shas_cubes)], narrowed := true }
def ShasPartsUptoSaid : Prop := shasPartsUptoRow.holds Tryd.pinned (OpenSpec.upto shasPartsSpec)

/-- 'burrowlaw05.ShasNone', WHERE WHAT IT READS IS OF BULK AT MOST 1048576: true; the input reads as it did. -/
def shasNoneUptoRow : OpenClaim := { program := "ytikmhnlhaolbfaadoor", sum := "054d98fd86a873316a6e71f9b26acbd540d5271bfc114f98eeab7c60f89b70aa", func := "burrow/burrowlaw05.ShasNone", spec := "shasNone", named := ["burrow/shas.cubes"], apart := false, laid := [("burrow/shas.cubes", laid_burrow_shas_cubes)], narrowed := true }
def ShasNoneUptoSaid : Prop := shasNoneUptoRow.holds Tryd.pinned (OpenSpec.upto shasNoneSpec)

/-- 'burrowlaw05.ShasAs', WHERE WHAT IT READS IS OF BULK AT MOST 1048576: true; the input reads as it did. -/
def shasAsUptoRow : OpenClaim := { program := "ytikmhnlhaolbfaadoor", sum := "054d98fd86a873316a6e71f9b26acbd540d5271bfc114f98eeab7c60f89b70aa", func := "burrow/burrowlaw05.ShasAs", spec := "shasAs", inPlace := ["math/bits.Add64", "math/bits.Sub64"], unfollowed := true, recurses := true, named := ["burrow/shas.cubes", "math/bits.divideError", "math/bits.overflowError"], apart := false, laid := [("burrow/shas.cubes", laid_burrow_shas_cubes)], narrowed := true }
def ShasAsUptoSaid : Prop := shasAsUptoRow.holds Tryd.pinned (OpenSpec.upto shasAsSpec)

/-- 'burrowlaw05.ShasCut', WHERE WHAT IT READS IS OF BULK AT MOST 1048576: true; the input reads as it did. -/
def shasCutUptoRow : OpenClaim := { program := "ytikmhnlhaolbfaadoor", sum := "054d98fd86a873316a6e71f9b26acbd540d5271bfc114f98eeab7c60f89b70aa", func := "burrow/burrowlaw05.ShasCut", spec := "shasCut", named := ["burrow/shas.cubes"], apart := false, laid := [("burrow/shas.cubes", laid_burrow_shas_cubes)], narrowed := true }
def ShasCutUptoSaid : Prop := shasCutUptoRow.holds Tryd.pinned (OpenSpec.upto shasCutSpec)

/-- 'burrowlaw05.ShasTwo', WHERE WHAT IT READS IS OF BULK AT MOST 1048576: true; the input reads as it did. -/
def shasTwoUptoRow : OpenClaim := { program := "ytikmhnlhaolbfaadoor", sum := "054d98fd86a873316a6e71f9b26acbd540d5271bfc114f98eeab7c60f89b70aa", func := "burrow/burrowlaw05.ShasTwo", spec := "shasTwo", named := ["burrow/shas.cubes"], apart := false, laid := [("burrow/shas.cubes", laid_burrow_shas_cubes)], narrowed := true }
def ShasTwoUptoSaid : Prop := shasTwoUptoRow.holds Tryd.pinned (OpenSpec.upto shasTwoSpec)

/-- 'burrowlaw05.ShasBytes', WHERE WHAT IT READS IS OF BULK AT MOST 1048576: true; the input reads as it did. -/
def shasBytesUptoRow : OpenClaim := { program := "ytikmhnlhaolbfaadoor", sum := "054d98fd86a873316a6e71f9b26acbd540d5271bfc114f98eeab7c60f89b70aa", func := "burrow/burrowlaw05.ShasBytes", spec := "shasBytes", inPlace := ["math/bits.Add64", "math/bits.Sub64"], unfollowed := true, recurses := true, named := ["burrow/shas.cubes"], apart := false, laid := [("burrow/shas.cubes", laid_burrow_shas_cubes)], narrowed := true }
def ShasBytesUptoSaid : Prop := shasBytesUptoRow.holds Tryd.pinned (OpenSpec.upto shasBytesSpec)

/-- 'burrowlaw05.ShasNumber', WHERE WHAT IT READS IS OF BULK AT MOST 1048576: true; the input reads as it did. -/
def shasNumberUptoRow : OpenClaim := { program := "ytikmhnlhaolbfaadoor", sum := "054d98fd86a873316a6e71f9b26acbd540d5271bfc114f98eeab7c60f89b70aa", func := "burrow/burrowlaw05.ShasNumber", spec := "shasNumber", inPlace := ["math/bits.Add64", "math/bits.Sub64"], unfollowed := true, recurses := true, named := ["burrow/shas.cubes"], apart := false, laid := [("burrow/shas.cubes", laid_burrow_shas_cubes)], narrowed := true }
def ShasNumberUptoSaid : Prop := shasNumberUptoRow.holds Tryd.pinned (OpenSpec.upto shasNumberSpec)

/-- 'burrowlaw05.ShasHalves', WHERE WHAT IT READS IS OF BULK AT MOST 1048576: true; the input reads as it did. -/
def shasHalvesUptoRow : OpenClaim := { program := "ytikmhnlhaolbfaadoor", sum := "054d98fd86a873316a6e71f9b26acbd540d5271bfc114f98eeab7c60f89b70aa", func := "burrow/burrowlaw05.ShasHalves", spec := "shasHalves", inPlace := ["math/bits.Add64", "math/bits.Sub64"], unfollowed := true, recurses := true, named := ["burrow/shas.cubes"], apart := false, laid := [("burrow/shas.cubes", laid_burrow_shas_cubes)], narrowed := true }
def ShasHalvesUptoSaid : Prop := shasHalvesUptoRow.holds Tryd.pinned (OpenSpec.upto shasHalvesSpec)

end Rows
end Go.Proofs.YtikmhnlhaolbfaaDoor
