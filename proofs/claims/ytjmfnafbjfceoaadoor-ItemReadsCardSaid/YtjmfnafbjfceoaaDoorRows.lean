/-
  NARROWER THAN 'FOR EVERY INPUT', by the rows' own cells (each row's printed sentence says how): ItemLays: loops, laid · ItemReads: laid · ItemNumbers: loops, laid · ItemLong: laid · ItemHolds: loops, laid.
  DERIVED. THE GIVEN ROWS OF THIS SEAT. 5 by the template 'for every input the law returns true; each argument reads behind the call as it read before'; 0 by the template 'total and deterministic' (their statements: YtjmfnafbjfceoaaDoorTotals.lean).
  GIVEN WITH THE SEED: the statements are not yours to turn. If you find one false, say at which input.
  Laid BY PROGRAM, IN A SANDBOX (cutbox-rows.mjs): the forced cells as the released guide's own fill.sh prints them over the translation dcf0a009dd355412… (all of the seat's roots in one cut). By AI agents, Wed Nov 11 2026. No macro, syntax, notation, axiom, sorry.
-/
import Derived.Test.YtjmfnafbjfceoaaDoorChecked
import GoSem.PinnedTables
import GoSem.Claim
import GoSem.ClaimJoined
import GoSem.ClaimMapViews
import Derived.JoinedTies
import Derived.KernelRfl
namespace Go.Proofs.YtjmfnafbjfceoaaDoor
/- THE CELL 'sum', in the pinned program and in every row, IS THE sha256 OF THE DUMP (.gsa) THAT YtjmfnafbjfceoaaDoorProg.lean LOADS. Nothing in Lean hashes anything: it is a label: what it is worth is what the hold of that sum in a sandbox is worth. -/
noncomputable def Tryd.pinned : Pinned := { name := "ytjmfnafbjfceoaadoor", sum := "dcf0a009dd35541241a117e5bc7fdc2daf7fb97e666f45a6734887d438451384", checked := Tryd.checked }
namespace Rows
def none {H : Type} : Left H := { results := [], args := [] }

/- WHAT THE LISTED PACKAGE-LEVEL VARIABLES READ AS WHEN THE CALL BEGINS. Each datum BY PROGRAM (the guide's laid-datum.mjs) off the statement by which the dump's own 'gosem.cut.vars' lays the variable. In a bare row this is a premise. The card (YtjmfnafbjfceoaaDoorCards.lean) ties it to the program's text. -/
def laid_unicode_utf8_acceptRanges {H : Type} : DataW H := .agg [.agg [.lit (.int .u8 128), .lit (.int .u8 191)], .agg [.lit (.int .u8 160), .lit (.int .u8 191)], .agg [.lit (.int .u8 128), .lit (.int .u8 159)], .agg [.lit (.int .u8 144), .lit (.int .u8 191)], .agg [.lit (.int .u8 128), .lit (.int .u8 143)], .agg [.lit (.int .u8 0), .lit (.int .u8 0)], .agg [.lit (.int .u8 0), .lit (.int .u8 0)], .agg [.lit (.int .u8 0), .lit (.int .u8 0)], .agg [.lit (.int .u8 0), .lit (.int .u8 0)], .agg [.lit (.int .u8 0), .lit (.int .u8 0)], .agg [.lit (.int .u8 0), .lit (.int .u8 0)], .agg [.lit (.int .u8 0), .lit (.int .u8 0)], .agg [.lit (.int .u8 0), .lit (.int .u8 0)], .agg [.lit (.int .u8 0), .lit (.int .u8 0)], .agg [.lit (.int .u8 0), .lit (.int .u8 0)], .agg [.lit (.int .u8 0), .lit (.int .u8 0)]]
def laid_excise_item_heads {H : Type} : DataW H := .agg [.lit (.int .u8 0), .lit (.int .u8 128), .lit (.int .u8 192)]
/-- One of Go's own tables, pinned by name: the form's constant. -/
def laid_unicode_utf8_first : DataW Unit := Go.Pinned.utf8First

/-- 'exciselaw06.ItemLays': WHATEVER THE INPUT: true; the input reads as it did. -/
def itemLaysSpec : ChangeSpec := { name := "itemLays", fn := fun _ => fun
  | [d] => { results := [.lit (.bool true)], args := [d] }
  | _ => none }
def itemLaysRow : OpenClaim := { program := "ytjmfnafbjfceoaadoor", sum := "dcf0a009dd35541241a117e5bc7fdc2daf7fb97e666f45a6734887d438451384", func := "excise/exciselaw06.ItemLays", spec := "itemLays", inPlace := ["math/bits.Add64"], unfollowed := true, recurses := true, named := ["excise/item.heads", "unicode/utf8.first", "unicode/utf8.acceptRanges"], loops := true, apart := false, laid := [("unicode/utf8.acceptRanges", laid_unicode_utf8_acceptRanges), ("excise/item.heads", laid_excise_item_heads), ("unicode/utf8.first", laid_unicode_utf8_first)] }
def ItemLaysSaid : Prop := itemLaysRow.holds Tryd.pinned (OpenSpec.ofChange itemLaysSpec)

/-- ITS FALSE NEIGHBOUR: 'it returns false'. Refute it at one input. -/
def itemLaysWrong : ChangeSpec := { name := "itemLays", fn := fun _ => fun
  | [d] => { results := [.lit (.bool false)], args := [d] }
  | _ => none }
def ItemLaysWrongFalsely : Prop := itemLaysRow.holds Tryd.pinned (OpenSpec.ofChange itemLaysWrong)

/-- 'exciselaw06.ItemReads': WHATEVER THE INPUT: true; the input reads as it did. -/
def itemReadsSpec : ChangeSpec := { name := "itemReads", fn := fun _ => fun
  | [d] => { results := [.lit (.bool true)], args := [d] }
  | _ => none }
def itemReadsRow : OpenClaim := { program := "ytjmfnafbjfceoaadoor", sum := "dcf0a009dd35541241a117e5bc7fdc2daf7fb97e666f45a6734887d438451384", func := "excise/exciselaw06.ItemReads", spec := "itemReads", inPlace := ["math/bits.Add64"], unfollowed := true, recurses := true, named := ["excise/item.heads", "unicode/utf8.first", "unicode/utf8.acceptRanges"], apart := false, laid := [("unicode/utf8.acceptRanges", laid_unicode_utf8_acceptRanges), ("excise/item.heads", laid_excise_item_heads), ("unicode/utf8.first", laid_unicode_utf8_first)] }
def ItemReadsSaid : Prop := itemReadsRow.holds Tryd.pinned (OpenSpec.ofChange itemReadsSpec)

/-- ITS FALSE NEIGHBOUR: 'it returns false'. Refute it at one input. -/
def itemReadsWrong : ChangeSpec := { name := "itemReads", fn := fun _ => fun
  | [d] => { results := [.lit (.bool false)], args := [d] }
  | _ => none }
def ItemReadsWrongFalsely : Prop := itemReadsRow.holds Tryd.pinned (OpenSpec.ofChange itemReadsWrong)

/-- 'exciselaw06.ItemNumbers': WHATEVER THE INPUT: true; the input reads as it did. -/
def itemNumbersSpec : ChangeSpec := { name := "itemNumbers", fn := fun _ => fun
  | [d1, d2] => { results := [.lit (.bool true)], args := [d1, d2] }
  | _ => none }
def itemNumbersRow : OpenClaim := { program := "ytjmfnafbjfceoaadoor", sum := "dcf0a009dd35541241a117e5bc7fdc2daf7fb97e666f45a6734887d438451384", func := "excise/exciselaw06.ItemNumbers", spec := "itemNumbers", inPlace := ["math/bits.Add64"], unfollowed := true, recurses := true, named := ["excise/item.heads", "unicode/utf8.first", "unicode/utf8.acceptRanges"], loops := true, apart := false, laid := [("unicode/utf8.acceptRanges", laid_unicode_utf8_acceptRanges), ("excise/item.heads", laid_excise_item_heads), ("unicode/utf8.first", laid_unicode_utf8_first)] }
def ItemNumbersSaid : Prop := itemNumbersRow.holds Tryd.pinned (OpenSpec.ofChange itemNumbersSpec)

/-- ITS FALSE NEIGHBOUR: 'it returns false'. Refute it at one input. -/
def itemNumbersWrong : ChangeSpec := { name := "itemNumbers", fn := fun _ => fun
  | [d1, d2] => { results := [.lit (.bool false)], args := [d1, d2] }
  | _ => none }
def ItemNumbersWrongFalsely : Prop := itemNumbersRow.holds Tryd.pinned (OpenSpec.ofChange itemNumbersWrong)

/-- 'exciselaw06.ItemLong': WHATEVER THE INPUT: true; the input reads as it did. -/
def itemLongSpec : ChangeSpec := { name := "itemLong", fn := fun _ => fun
  | [d] => { results := [.lit (.bool true)], args := [d] }
  | _ => none }
def itemLongRow : OpenClaim := { program := "ytjmfnafbjfceoaadoor", sum := "dcf0a009dd35541241a117e5bc7fdc2daf7fb97e666f45a6734887d438451384", func := "excise/exciselaw06.ItemLong", spec := "itemLong", inPlace := ["math/bits.Add64"], unfollowed := true, recurses := true, named := ["excise/item.heads", "unicode/utf8.first", "unicode/utf8.acceptRanges"], apart := false, laid := [("unicode/utf8.acceptRanges", laid_unicode_utf8_acceptRanges), ("excise/item.heads", laid_excise_item_heads), ("unicode/utf8.first", laid_unicode_utf8_first)] }
def ItemLongSaid : Prop := itemLongRow.holds Tryd.pinned (OpenSpec.ofChange itemLongSpec)

/-- ITS FALSE NEIGHBOUR: 'it returns false'. Refute it at one input. -/
def itemLongWrong : ChangeSpec := { name := "itemLong", fn := fun _ => fun
  | [d] => { results := [.lit (.bool false)], args := [d] }
  | _ => none }
def ItemLongWrongFalsely : Prop := itemLongRow.holds Tryd.pinned (OpenSpec.ofChange itemLongWrong)

/-- 'exciselaw06.ItemHolds': WHATEVER THE INPUT: true; the input reads as it did. -/
def itemHoldsSpec : ChangeSpec := { name := "itemHolds", fn := fun _ => fun
  | [d1, d2, d3] => { results := [.lit (.bool true)], args := [d1, d2, d3] }
  | _ => none }
def itemHoldsRow : OpenClaim := { program := "ytjmfnafbjfceoaadoor", sum := "dcf0a009dd35541241a117e5bc7fdc2daf7fb97e666f45a6734887d438451384", func := "excise/exciselaw06.ItemHolds", spec := "itemHolds", inPlace := ["math/bits.Add64"], unfollowed := true, recurses := true, named := ["excise/item.heads", "unicode/utf8.first", "unicode/utf8.acceptRanges"], loops := true, apart := false, laid := [("unicode/utf8.acceptRanges", laid_unicode_utf8_acceptRanges), ("excise/item.heads", laid_excise_item_heads), ("unicode/utf8.first", laid_unicode_utf8_first)] }
def ItemHoldsSaid : Prop := itemHoldsRow.holds Tryd.pinned (OpenSpec.ofChange itemHoldsSpec)

/-- ITS FALSE NEIGHBOUR: 'it returns false'. Refute it at one input. -/
def itemHoldsWrong : ChangeSpec := { name := "itemHolds", fn := fun _ => fun
  | [d1, d2, d3] => { results := [.lit (.bool false)], args := [d1, d2, d3] }
  | _ => none }
def ItemHoldsWrongFalsely : Prop := itemHoldsRow.holds Tryd.pinned (OpenSpec.ofChange itemHoldsWrong)

/- THE SECOND FORM. 'bulk': how many values and letters a reading holds, each counted each time it is reached (what is shared counts as often as it is met; a slice's spare places count too). A statement '..UptoSaid' is the law's where the arguments, and the package variables that the reading takes, are together of bulk at most 1048576: NARROWER than '..Said'. Prove '..Said' where nothing that the law and all that it calls make is longer than what came in: it says more and counts as full. Else prove '..UptoSaid'. A law counts once. -/
mutual
def uptoBulk {H : Type} : DataW H → Nat
  | .lit (.string bytes) => bytes.length + 1
  | .lit _ => 1
  | .nil => 1
  | .ptr d => uptoBulk d + 1
  | .slice elems spare => uptoBulkAll elems + uptoBulkAll spare + 1
  | .agg parts => uptoBulkAll parts + 1
  | .iface _ d => uptoBulk d + 1
  | .map entries => uptoBulkEntries entries + 1
  | .held _ => 1
def uptoBulkAll {H : Type} : List (DataW H) → Nat
  | [] => 0
  | d :: r => uptoBulk d + uptoBulkAll r
def uptoBulkEntries {H : Type} : List (Lit × DataW H) → Nat
  | [] => 0
  | x :: r => uptoBulkEntry x + uptoBulkEntries r
def uptoBulkEntry {H : Type} : Lit × DataW H → Nat
  | (.string bytes, d) => bytes.length + uptoBulk d + 1
  | (_, d) => uptoBulk d + 1
 end
def uptoSmall : (H : Type) → List (DataW H) → Bool := fun _ ds => decide (uptoBulkAll ds ≤ 1048576)
def OpenSpec.upto (s : _root_.Go.ChangeSpec) : _root_.Go.OpenSpec := { _root_.Go.OpenSpec.ofChange s with cond := some uptoSmall }

/-- 'exciselaw06.ItemLays', WHERE WHAT IT READS IS OF BULK AT MOST 1048576: true; the input reads as it did. -/
def itemLaysUptoRow : OpenClaim := { program := "ytjmfnafbjfceoaadoor", sum := "dcf0a009dd35541241a117e5bc7fdc2daf7fb97e666f45a6734887d438451384", func := "excise/exciselaw06.ItemLays", spec := "itemLays", inPlace := ["math/bits.Add64"], unfollowed := true, recurses := true, named := ["excise/item.heads", "unicode/utf8.first", "unicode/utf8.acceptRanges"], loops := true, apart := false, laid := [("unicode/utf8.acceptRanges", laid_unicode_utf8_acceptRanges), ("excise/item.heads", laid_excise_item_heads), ("unicode/utf8.first", laid_unicode_utf8_first)], narrowed := true }
def ItemLaysUptoSaid : Prop := itemLaysUptoRow.holds Tryd.pinned (OpenSpec.upto itemLaysSpec)

/-- 'exciselaw06.ItemReads', WHERE WHAT IT READS IS OF BULK AT MOST 1048576: true; the input reads as it did. -/
def itemReadsUptoRow : OpenClaim := { program := "ytjmfnafbjfceoaadoor", sum := "dcf0a009dd35541241a117e5bc7fdc2daf7fb97e666f45a6734887d438451384", func := "excise/exciselaw06.ItemReads", spec := "itemReads", inPlace := ["math/bits.Add64"], unfollowed := true, recurses := true, named := ["excise/item.heads", "unicode/utf8.first", "unicode/utf8.acceptRanges"], apart := false, laid := [("unicode/utf8.acceptRanges", laid_unicode_utf8_acceptRanges), ("excise/item.heads", laid_excise_item_heads), ("unicode/utf8.first", laid_unicode_utf8_first)], narrowed := true }
def ItemReadsUptoSaid : Prop := itemReadsUptoRow.holds Tryd.pinned (OpenSpec.upto itemReadsSpec)

/-- 'exciselaw06.ItemNumbers', WHERE WHAT IT READS IS OF BULK AT MOST 1048576: true; the input reads as it did. -/
def itemNumbersUptoRow : OpenClaim := { program := "ytjmfnafbjfceoaadoor", sum := "dcf0a009dd35541241a117e5bc7fdc2daf7fb97e666f45a6734887d438451384", func := "excise/exciselaw06.ItemNumbers", spec := "itemNumbers", inPlace := ["math/bits.Add64"], unfollowed := true, recurses := true, named := ["excise/item.heads", "unicode/utf8.first", "unicode/utf8.acceptRanges"], loops := true, apart := false, laid := [("unicode/utf8.acceptRanges", laid_unicode_utf8_acceptRanges), ("excise/item.heads", laid_excise_item_heads), ("unicode/utf8.first", laid_unicode_utf8_first)], narrowed := true }
def ItemNumbersUptoSaid : Prop := itemNumbersUptoRow.holds Tryd.pinned (OpenSpec.upto itemNumbersSpec)

/-- 'exciselaw06.ItemLong', WHERE WHAT IT READS IS OF BULK AT MOST 1048576: true; the input reads as it did. -/
def itemLongUptoRow : OpenClaim := { program := "ytjmfnafbjfceoaadoor", sum := "dcf0a009dd35541241a117e5bc7fdc2daf7fb97e666f45a6734887d438451384", func := "excise/exciselaw06.ItemLong", spec := "itemLong", inPlace := ["math/bits.Add64"], unfollowed := true, recurses := true, named := ["excise/item.heads", "unicode/utf8.first", "unicode/utf8.acceptRanges"], apart := false, laid := [("unicode/utf8.acceptRanges", laid_unicode_utf8_acceptRanges), ("excise/item.heads", laid_excise_item_heads), ("unicode/utf8.first", laid_unicode_utf8_first)], narrowed := true }
def ItemLongUptoSaid : Prop := itemLongUptoRow.holds Tryd.pinned (OpenSpec.upto itemLongSpec)

/-- 'exciselaw06.ItemHolds', WHERE WHAT IT READS IS OF BULK AT MOST 1048576: true; the input reads as it did. -/
def itemHoldsUptoRow : OpenClaim := { program := "ytjmfnafbjfceoaadoor", sum := "dcf0a009dd35541241a117e5bc7fdc2daf7fb97e666f45a6734887d438451384", func := "excise/exciselaw06.ItemHolds", spec := "itemHolds", inPlace := ["math/bits.Add64"], unfollowed := true, recurses := true, named := ["excise/item.heads", "unicode/utf8.first", "unicode/utf8.acceptRanges"], loops := true, apart := false, laid := [("unicode/utf8.acceptRanges", laid_unicode_utf8_acceptRanges), ("excise/item.heads", laid_excise_item_heads), ("unicode/utf8.first", laid_unicode_utf8_first)], narrowed := true }
def ItemHoldsUptoSaid : Prop := itemHoldsUptoRow.holds Tryd.pinned (OpenSpec.upto itemHoldsSpec)

end Rows
end Go.Proofs.YtjmfnafbjfceoaaDoor
