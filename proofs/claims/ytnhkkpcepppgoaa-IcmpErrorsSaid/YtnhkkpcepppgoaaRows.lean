/-
  No cell of these rows narrows 'for every input' (looked for: loops, veiled, ifaces, maps, wideKeys, modest, calm, conditions, laid).
  DERIVED. THE GIVEN ROWS OF THIS SEAT. 7 by the template 'for every input the law returns true; each argument reads behind the call as it read before'; 0 by the template 'total and deterministic' (their statements: YtnhkkpcepppgoaaTotals.lean).
  GIVEN WITH THE SEED: the statements are not yours to turn. If you find one false, say at which input.
  Laid BY PROGRAM, IN A SANDBOX (cutbox-rows.mjs): the forced cells as the released guide's own fill.sh prints them over the translation 5164e6361039544e… (all of the seat's roots in one cut). By AI agents, Wed Nov 11 2026. No macro, syntax, notation, axiom, sorry.
-/
import Derived.Test.YtnhkkpcepppgoaaChecked
import GoSem.Claim
import GoSem.ClaimJoined
import GoSem.ClaimMapViews
import Derived.JoinedTies
import Derived.KernelRfl
namespace Go.Proofs.Ytnhkkpcepppgoaa
/- THE CELL 'sum', in the pinned program and in every row, IS THE sha256 OF THE DUMP (.gsa) THAT YtnhkkpcepppgoaaProg.lean LOADS. Nothing in Lean hashes anything: it is a label: what it is worth is what the hold of that sum in a sandbox is worth. -/
noncomputable def Try.pinned : Pinned := { name := "ytnhkkpcepppgoaa", sum := "5164e6361039544e0328ca0baa8a19d760f478427c6ee0b62c0e601721aa8208", checked := Try.checked }
namespace Rows
def none {H : Type} : Left H := { results := [], args := [] }

/-- 'guidepostlaw03.IpParses': WHATEVER THE INPUT: true; the input reads as it did. -/
def ipParsesSpec : ChangeSpec := { name := "ipParses", fn := fun _ => fun
  | [d] => { results := [.lit (.bool true)], args := [d] }
  | _ => none }
def ipParsesRow : OpenClaim := { program := "ytnhkkpcepppgoaa", sum := "5164e6361039544e0328ca0baa8a19d760f478427c6ee0b62c0e601721aa8208", func := "guidepost/guidepostlaw03.IpParses", spec := "ipParses", unfollowed := true, recurses := true, apart := false }
def IpParsesSaid : Prop := ipParsesRow.holds Try.pinned (OpenSpec.ofChange ipParsesSpec)

/-- ITS FALSE NEIGHBOUR: 'it returns false'. Refute it at one input. -/
def ipParsesWrong : ChangeSpec := { name := "ipParses", fn := fun _ => fun
  | [d] => { results := [.lit (.bool false)], args := [d] }
  | _ => none }
def IpParsesWrongFalsely : Prop := ipParsesRow.holds Try.pinned (OpenSpec.ofChange ipParsesWrong)

/-- 'guidepostlaw03.IpBytes': WHATEVER THE INPUT: true; the input reads as it did. -/
def ipBytesSpec : ChangeSpec := { name := "ipBytes", fn := fun _ => fun
  | [d1, d2, d3] => { results := [.lit (.bool true)], args := [d1, d2, d3] }
  | _ => none }
def ipBytesRow : OpenClaim := { program := "ytnhkkpcepppgoaa", sum := "5164e6361039544e0328ca0baa8a19d760f478427c6ee0b62c0e601721aa8208", func := "guidepost/guidepostlaw03.IpBytes", spec := "ipBytes", unfollowed := true, recurses := true, apart := false }
def IpBytesSaid : Prop := ipBytesRow.holds Try.pinned (OpenSpec.ofChange ipBytesSpec)

/-- ITS FALSE NEIGHBOUR: 'it returns false'. Refute it at one input. -/
def ipBytesWrong : ChangeSpec := { name := "ipBytes", fn := fun _ => fun
  | [d1, d2, d3] => { results := [.lit (.bool false)], args := [d1, d2, d3] }
  | _ => none }
def IpBytesWrongFalsely : Prop := ipBytesRow.holds Try.pinned (OpenSpec.ofChange ipBytesWrong)

/-- 'guidepostlaw04.IcmpBytes': WHATEVER THE INPUT: true; the input reads as it did. -/
def icmpBytesSpec : ChangeSpec := { name := "icmpBytes", fn := fun _ => fun
  | [d1, d2, d3] => { results := [.lit (.bool true)], args := [d1, d2, d3] }
  | _ => none }
def icmpBytesRow : OpenClaim := { program := "ytnhkkpcepppgoaa", sum := "5164e6361039544e0328ca0baa8a19d760f478427c6ee0b62c0e601721aa8208", func := "guidepost/guidepostlaw04.IcmpBytes", spec := "icmpBytes", unfollowed := true, recurses := true, apart := false }
def IcmpBytesSaid : Prop := icmpBytesRow.holds Try.pinned (OpenSpec.ofChange icmpBytesSpec)

/-- ITS FALSE NEIGHBOUR: 'it returns false'. Refute it at one input. -/
def icmpBytesWrong : ChangeSpec := { name := "icmpBytes", fn := fun _ => fun
  | [d1, d2, d3] => { results := [.lit (.bool false)], args := [d1, d2, d3] }
  | _ => none }
def IcmpBytesWrongFalsely : Prop := icmpBytesRow.holds Try.pinned (OpenSpec.ofChange icmpBytesWrong)

/-- 'guidepostlaw04.IcmpErrors': WHATEVER THE INPUT: true; the input reads as it did. -/
def icmpErrorsSpec : ChangeSpec := { name := "icmpErrors", fn := fun _ => fun
  | [d1, d2, d3, d4] => { results := [.lit (.bool true)], args := [d1, d2, d3, d4] }
  | _ => none }
def icmpErrorsRow : OpenClaim := { program := "ytnhkkpcepppgoaa", sum := "5164e6361039544e0328ca0baa8a19d760f478427c6ee0b62c0e601721aa8208", func := "guidepost/guidepostlaw04.IcmpErrors", spec := "icmpErrors", unfollowed := true, recurses := true, apart := false }
def IcmpErrorsSaid : Prop := icmpErrorsRow.holds Try.pinned (OpenSpec.ofChange icmpErrorsSpec)

/-- ITS FALSE NEIGHBOUR: 'it returns false'. Refute it at one input. -/
def icmpErrorsWrong : ChangeSpec := { name := "icmpErrors", fn := fun _ => fun
  | [d1, d2, d3, d4] => { results := [.lit (.bool false)], args := [d1, d2, d3, d4] }
  | _ => none }
def IcmpErrorsWrongFalsely : Prop := icmpErrorsRow.holds Try.pinned (OpenSpec.ofChange icmpErrorsWrong)

/-- 'guidepostlaw04.IcmpEchoes': WHATEVER THE INPUT: true; the input reads as it did. -/
def icmpEchoesSpec : ChangeSpec := { name := "icmpEchoes", fn := fun _ => fun
  | [d] => { results := [.lit (.bool true)], args := [d] }
  | _ => none }
def icmpEchoesRow : OpenClaim := { program := "ytnhkkpcepppgoaa", sum := "5164e6361039544e0328ca0baa8a19d760f478427c6ee0b62c0e601721aa8208", func := "guidepost/guidepostlaw04.IcmpEchoes", spec := "icmpEchoes", unfollowed := true, recurses := true, apart := false }
def IcmpEchoesSaid : Prop := icmpEchoesRow.holds Try.pinned (OpenSpec.ofChange icmpEchoesSpec)

/-- ITS FALSE NEIGHBOUR: 'it returns false'. Refute it at one input. -/
def icmpEchoesWrong : ChangeSpec := { name := "icmpEchoes", fn := fun _ => fun
  | [d] => { results := [.lit (.bool false)], args := [d] }
  | _ => none }
def IcmpEchoesWrongFalsely : Prop := icmpEchoesRow.holds Try.pinned (OpenSpec.ofChange icmpEchoesWrong)

/-- 'guidepostlaw04.IcmpMeans': WHATEVER THE INPUT: true; the input reads as it did. -/
def icmpMeansSpec : ChangeSpec := { name := "icmpMeans", fn := fun _ => fun
  | [d1, d2, d3, d4, d5] => { results := [.lit (.bool true)], args := [d1, d2, d3, d4, d5] }
  | _ => none }
def icmpMeansRow : OpenClaim := { program := "ytnhkkpcepppgoaa", sum := "5164e6361039544e0328ca0baa8a19d760f478427c6ee0b62c0e601721aa8208", func := "guidepost/guidepostlaw04.IcmpMeans", spec := "icmpMeans", unfollowed := true, recurses := true, apart := false }
def IcmpMeansSaid : Prop := icmpMeansRow.holds Try.pinned (OpenSpec.ofChange icmpMeansSpec)

/-- ITS FALSE NEIGHBOUR: 'it returns false'. Refute it at one input. -/
def icmpMeansWrong : ChangeSpec := { name := "icmpMeans", fn := fun _ => fun
  | [d1, d2, d3, d4, d5] => { results := [.lit (.bool false)], args := [d1, d2, d3, d4, d5] }
  | _ => none }
def IcmpMeansWrongFalsely : Prop := icmpMeansRow.holds Try.pinned (OpenSpec.ofChange icmpMeansWrong)

/-- 'guidepostlaw04.IcmpQuotes': WHATEVER THE INPUT: true; the input reads as it did. -/
def icmpQuotesSpec : ChangeSpec := { name := "icmpQuotes", fn := fun _ => fun
  | [d1, d2, d3, d4] => { results := [.lit (.bool true)], args := [d1, d2, d3, d4] }
  | _ => none }
def icmpQuotesRow : OpenClaim := { program := "ytnhkkpcepppgoaa", sum := "5164e6361039544e0328ca0baa8a19d760f478427c6ee0b62c0e601721aa8208", func := "guidepost/guidepostlaw04.IcmpQuotes", spec := "icmpQuotes", unfollowed := true, recurses := true, apart := false }
def IcmpQuotesSaid : Prop := icmpQuotesRow.holds Try.pinned (OpenSpec.ofChange icmpQuotesSpec)

/-- ITS FALSE NEIGHBOUR: 'it returns false'. Refute it at one input. -/
def icmpQuotesWrong : ChangeSpec := { name := "icmpQuotes", fn := fun _ => fun
  | [d1, d2, d3, d4] => { results := [.lit (.bool false)], args := [d1, d2, d3, d4] }
  | _ => none }
def IcmpQuotesWrongFalsely : Prop := icmpQuotesRow.holds Try.pinned (OpenSpec.ofChange icmpQuotesWrong)

/- THE SECOND FORM. 'bulk': how many values and letters a reading holds, each counted each time it is reached (what is shared counts as often as it is met; a slice's spare places count too). A statement '..UptoSaid' is the law's where the arguments, and the package variables that the reading takes, are together of bulk at most 1048576: NARROWER than '..Said'. Prove '..Said' where nothing that the law and all that it calls make is longer than what came in: it says more and counts as full. Else prove '..UptoSaid'. A law counts once. -/
mutual
def uptoBulk {H : Type} : DataW H → Nat
  | .lit (.string bytes) => bytes.length + 1
  | .lit _ => 1
  | .nil => 1
  | .ptr d => uptoBulk d + 1
  | .slice elems spare => uptoBulkAll elems + uptoBulkAll spare + 1
  | .agg parts => uptoBulkAll parts + 1
  | .iface _ d => uptoBulk d + 1
  | .map entries => uptoBulkEntries entries + 1
  | .held _ => 1
def uptoBulkAll {H : Type} : List (DataW H) → Nat
  | [] => 0
  | d :: r => uptoBulk d + uptoBulkAll r
def uptoBulkEntries {H : Type} : List (Lit × DataW H) → Nat
  | [] => 0
  | x :: r => uptoBulkEntry x + uptoBulkEntries r
def uptoBulkEntry {H : Type} : Lit × DataW H → Nat
  | (.string bytes, d) => bytes.length + uptoBulk d + 1
  | (_, d) => uptoBulk d + 1
 end
def uptoSmall : (H : Type) → List (DataW H) → Bool := fun _ ds => decide (uptoBulkAll ds ≤ 1048576)
def OpenSpec.upto (s : _root_.Go.ChangeSpec) : _root_.Go.OpenSpec := { _root_.Go.OpenSpec.ofChange s with cond := some uptoSmall }

/-- 'guidepostlaw03.IpParses', WHERE WHAT IT READS IS OF BULK AT MOST 1048576: true; the input reads as it did. -/
def ipParsesUptoRow : OpenClaim := { program := "ytnhkkpcepppgoaa", sum := "5164e6361039544e0328ca0baa8a19d760f478427c6ee0b62c0e601721aa8208", func := "guidepost/guidepostlaw03.IpParses", spec := "ipParses", unfollowed := true, recurses := true, apart := false, narrowed := true }
def IpParsesUptoSaid : Prop := ipParsesUptoRow.holds Try.pinned (OpenSpec.upto ipParsesSpec)

/-- 'guidepostlaw03.IpBytes', WHERE WHAT IT READS IS OF BULK AT MOST 1048576: true; the input reads as it did. -/
def ipBytesUptoRow : OpenClaim := { program := "ytnhkkpcepppgoaa", sum := "5164e6361039544e0328ca0baa8a19d760f478427c6ee0b62c0e601721aa8208", func := "guidepost/guidepostlaw03.IpBytes", spec := "ipBytes", unfollowed := true, recurses := true, apart := false, narrowed := true }
def IpBytesUptoSaid : Prop := ipBytesUptoRow.holds Try.pinned (OpenSpec.upto ipBytesSpec)

/-- 'guidepostlaw04.IcmpBytes', WHERE WHAT IT READS IS OF BULK AT MOST 1048576: true; the input reads as it did. -/
def icmpBytesUptoRow : OpenClaim := { program := "ytnhkkpcepppgoaa", sum := "5164e6361039544e0328ca0baa8a19d760f478427c6ee0b62c0e601721aa8208", func := "guidepost/guidepostlaw04.IcmpBytes", spec := "icmpBytes", unfollowed := true, recurses := true, apart := false, narrowed := true }
def IcmpBytesUptoSaid : Prop := icmpBytesUptoRow.holds Try.pinned (OpenSpec.upto icmpBytesSpec)

/-- 'guidepostlaw04.IcmpErrors', WHERE WHAT IT READS IS OF BULK AT MOST 1048576: true; the input reads as it did. -/
def icmpErrorsUptoRow : OpenClaim := { program := "ytnhkkpcepppgoaa", sum := "5164e6361039544e0328ca0baa8a19d760f478427c6ee0b62c0e601721aa8208", func := "guidepost/guidepostlaw04.IcmpErrors", spec := "icmpErrors", unfollowed := true, recurses := true, apart := false, narrowed := true }
def IcmpErrorsUptoSaid : Prop := icmpErrorsUptoRow.holds Try.pinned (OpenSpec.upto icmpErrorsSpec)

/-- 'guidepostlaw04.IcmpEchoes', WHERE WHAT IT READS IS OF BULK AT MOST 1048576: true; the input reads as it did. -/
def icmpEchoesUptoRow : OpenClaim := { program := "ytnhkkpcepppgoaa", sum := "5164e6361039544e0328ca0baa8a19d760f478427c6ee0b62c0e601721aa8208", func := "guidepost/guidepostlaw04.IcmpEchoes", spec := "icmpEchoes", unfollowed := true, recurses := true, apart := false, narrowed := true }
def IcmpEchoesUptoSaid : Prop := icmpEchoesUptoRow.holds Try.pinned (OpenSpec.upto icmpEchoesSpec)

/-- 'guidepostlaw04.IcmpMeans', WHERE WHAT IT READS IS OF BULK AT MOST 1048576: true; the input reads as it did. -/
def icmpMeansUptoRow : OpenClaim := { program := "ytnhkkpcepppgoaa", sum := "5164e6361039544e0328ca0baa8a19d760f478427c6ee0b62c0e601721aa8208", func := "guidepost/guidepostlaw04.IcmpMeans", spec := "icmpMeans", unfollowed := true, recurses := true, apart := false, narrowed := true }
def IcmpMeansUptoSaid : Prop := icmpMeansUptoRow.holds Try.pinned (OpenSpec.upto icmpMeansSpec)

/-- 'guidepostlaw04.IcmpQuotes', WHERE WHAT IT READS IS OF BULK AT MOST 1048576: true; the input reads as it did. -/
def icmpQuotesUptoRow : OpenClaim := { program := "ytnhkkpcepppgoaa", sum := "5164e6361039544e0328ca0baa8a19d760f478427c6ee0b62c0e601721aa8208", func := "guidepost/guidepostlaw04.IcmpQuotes", spec := "icmpQuotes", unfollowed := true, recurses := true, apart := false, narrowed := true }
def IcmpQuotesUptoSaid : Prop := icmpQuotesUptoRow.holds Try.pinned (OpenSpec.upto icmpQuotesSpec)

end Rows
end Go.Proofs.Ytnhkkpcepppgoaa
