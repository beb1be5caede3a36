/-
  NARROWER THAN 'FOR EVERY INPUT', by the rows' own cells (each row's printed sentence says how): ValueTypes: loops, laid · ValueValid: loops, laid · ValueOrders: loops, laid · ValueZeros: loops, laid · ValueCodes: loops, laid · ValueBytes: laid · ValueParts: laid.
  DERIVED. THE GIVEN ROWS OF THIS SEAT. 7 by the template 'for every input the law returns true; each argument reads behind the call as it read before'; 0 by the template 'total and deterministic' (their statements: YtmfihlcibephlaaDoorTotals.lean).
  GIVEN WITH THE SEED: the statements are not yours to turn. If you find one false, say at which input.
  Laid BY PROGRAM, IN A SANDBOX (cutbox-rows.mjs): the forced cells as the released guide's own fill.sh prints them over the translation ccf6f0412f04e569… (all of the seat's roots in one cut). By AI agents, Wed Nov 11 2026. No macro, syntax, notation, axiom, sorry.
-/
import Derived.Test.YtmfihlcibephlaaDoorChecked
import GoSem.Claim
import GoSem.ClaimJoined
import GoSem.ClaimMapViews
import Derived.JoinedTies
import Derived.KernelRfl
namespace Go.Proofs.YtmfihlcibephlaaDoor
/- THE CELL 'sum', in the pinned program and in every row, IS THE sha256 OF THE DUMP (.gsa) THAT YtmfihlcibephlaaDoorProg.lean LOADS. Nothing in Lean hashes anything: it is a label: what it is worth is what the hold of that sum in a sandbox is worth. -/
noncomputable def Tryd.pinned : Pinned := { name := "ytmfihlcibephlaadoor", sum := "ccf6f0412f04e56989d931dbb857eae0b78fa6b8b6c33b0ab20681e2827636ae", checked := Tryd.checked }
namespace Rows
def none {H : Type} : Left H := { results := [], args := [] }

/- WHAT THE LISTED PACKAGE-LEVEL VARIABLES READ AS WHEN THE CALL BEGINS. Each datum BY PROGRAM (the guide's laid-datum.mjs) off the statement by which the dump's own 'gosem.cut.vars' lays the variable. In a bare row this is a premise. The card (YtmfihlcibephlaaDoorCards.lean) ties it to the program's text. -/
def laid_splicery_value_plainKinds {H : Type} : DataW H := .agg [.lit (.int .i64 0), .lit (.int .i64 1), .lit (.int .i64 4)]
def laid_splicery_value_dataKinds {H : Type} : DataW H := .agg [.lit (.int .i64 2), .lit (.int .i64 3)]
def laid_splicery_hash_rounds {H : Type} : DataW H := .agg [.lit (.int .u32 1116352408), .lit (.int .u32 1899447441), .lit (.int .u32 3049323471), .lit (.int .u32 3921009573), .lit (.int .u32 961987163), .lit (.int .u32 1508970993), .lit (.int .u32 2453635748), .lit (.int .u32 2870763221), .lit (.int .u32 3624381080), .lit (.int .u32 310598401), .lit (.int .u32 607225278), .lit (.int .u32 1426881987), .lit (.int .u32 1925078388), .lit (.int .u32 2162078206), .lit (.int .u32 2614888103), .lit (.int .u32 3248222580), .lit (.int .u32 3835390401), .lit (.int .u32 4022224774), .lit (.int .u32 264347078), .lit (.int .u32 604807628), .lit (.int .u32 770255983), .lit (.int .u32 1249150122), .lit (.int .u32 1555081692), .lit (.int .u32 1996064986), .lit (.int .u32 2554220882), .lit (.int .u32 2821834349), .lit (.int .u32 2952996808), .lit (.int .u32 3210313671), .lit (.int .u32 3336571891), .lit (.int .u32 3584528711), .lit (.int .u32 113926993), .lit (.int .u32 338241895), .lit (.int .u32 666307205), .lit (.int .u32 773529912), .lit (.int .u32 1294757372), .lit (.int .u32 1396182291), .lit (.int .u32 1695183700), .lit (.int .u32 1986661051), .lit (.int .u32 2177026350), .lit (.int .u32 2456956037), .lit (.int .u32 2730485921), .lit (.int .u32 2820302411), .lit (.int .u32 3259730800), .lit (.int .u32 3345764771), .lit (.int .u32 3516065817), .lit (.int .u32 3600352804), .lit (.int .u32 4094571909), .lit (.int .u32 275423344), .lit (.int .u32 430227734), .lit (.int .u32 506948616), .lit (.int .u32 659060556), .lit (.int .u32 883997877), .lit (.int .u32 958139571), .lit (.int .u32 1322822218), .lit (.int .u32 1537002063), .lit (.int .u32 1747873779), .lit (.int .u32 1955562222), .lit (.int .u32 2024104815), .lit (.int .u32 2227730452), .lit (.int .u32 2361852424), .lit (.int .u32 2428436474), .lit (.int .u32 2756734187), .lit (.int .u32 3204031479), .lit (.int .u32 3329325298)]

/-- 'splicerylaw04.ValueTypes': WHATEVER THE INPUT: true; the input reads as it did. -/
def valueTypesSpec : ChangeSpec := { name := "valueTypes", fn := fun _ => fun
  | [d1, d2, d3, d4, d5, d6] => { results := [.lit (.bool true)], args := [d1, d2, d3, d4, d5, d6] }
  | _ => none }
def valueTypesRow : OpenClaim := { program := "ytmfihlcibephlaadoor", sum := "ccf6f0412f04e56989d931dbb857eae0b78fa6b8b6c33b0ab20681e2827636ae", func := "splicery/splicerylaw04.ValueTypes", spec := "valueTypes", unfollowed := true, recurses := true, named := ["splicery/value.plainKinds", "splicery/value.dataKinds"], loops := true, apart := false, laid := [("splicery/value.plainKinds", laid_splicery_value_plainKinds), ("splicery/value.dataKinds", laid_splicery_value_dataKinds)] }
def ValueTypesSaid : Prop := valueTypesRow.holds Tryd.pinned (OpenSpec.ofChange valueTypesSpec)

/-- ITS FALSE NEIGHBOUR: 'it returns false'. Refute it at one input. -/
def valueTypesWrong : ChangeSpec := { name := "valueTypes", fn := fun _ => fun
  | [d1, d2, d3, d4, d5, d6] => { results := [.lit (.bool false)], args := [d1, d2, d3, d4, d5, d6] }
  | _ => none }
def ValueTypesWrongFalsely : Prop := valueTypesRow.holds Tryd.pinned (OpenSpec.ofChange valueTypesWrong)

/-- 'splicerylaw04.ValueValid': WHATEVER THE INPUT: true; the input reads as it did. -/
def valueValidSpec : ChangeSpec := { name := "valueValid", fn := fun _ => fun
  | [d1, d2, d3, d4, d5, d6, d7, d8] => { results := [.lit (.bool true)], args := [d1, d2, d3, d4, d5, d6, d7, d8] }
  | _ => none }
def valueValidRow : OpenClaim := { program := "ytmfihlcibephlaadoor", sum := "ccf6f0412f04e56989d931dbb857eae0b78fa6b8b6c33b0ab20681e2827636ae", func := "splicery/splicerylaw04.ValueValid", spec := "valueValid", unfollowed := true, recurses := true, named := ["splicery/value.plainKinds", "splicery/value.dataKinds"], loops := true, apart := false, laid := [("splicery/value.plainKinds", laid_splicery_value_plainKinds), ("splicery/value.dataKinds", laid_splicery_value_dataKinds)] }
def ValueValidSaid : Prop := valueValidRow.holds Tryd.pinned (OpenSpec.ofChange valueValidSpec)

/-- ITS FALSE NEIGHBOUR: 'it returns false'. Refute it at one input. -/
def valueValidWrong : ChangeSpec := { name := "valueValid", fn := fun _ => fun
  | [d1, d2, d3, d4, d5, d6, d7, d8] => { results := [.lit (.bool false)], args := [d1, d2, d3, d4, d5, d6, d7, d8] }
  | _ => none }
def ValueValidWrongFalsely : Prop := valueValidRow.holds Tryd.pinned (OpenSpec.ofChange valueValidWrong)

/-- 'splicerylaw04.ValueOrders': WHATEVER THE INPUT: true; the input reads as it did. -/
def valueOrdersSpec : ChangeSpec := { name := "valueOrders", fn := fun _ => fun
  | [d1, d2, d3, d4, d5] => { results := [.lit (.bool true)], args := [d1, d2, d3, d4, d5] }
  | _ => none }
def valueOrdersRow : OpenClaim := { program := "ytmfihlcibephlaadoor", sum := "ccf6f0412f04e56989d931dbb857eae0b78fa6b8b6c33b0ab20681e2827636ae", func := "splicery/splicerylaw04.ValueOrders", spec := "valueOrders", unfollowed := true, recurses := true, named := ["splicery/value.plainKinds", "splicery/value.dataKinds"], loops := true, apart := false, laid := [("splicery/value.plainKinds", laid_splicery_value_plainKinds), ("splicery/value.dataKinds", laid_splicery_value_dataKinds)] }
def ValueOrdersSaid : Prop := valueOrdersRow.holds Tryd.pinned (OpenSpec.ofChange valueOrdersSpec)

/-- ITS FALSE NEIGHBOUR: 'it returns false'. Refute it at one input. -/
def valueOrdersWrong : ChangeSpec := { name := "valueOrders", fn := fun _ => fun
  | [d1, d2, d3, d4, d5] => { results := [.lit (.bool false)], args := [d1, d2, d3, d4, d5] }
  | _ => none }
def ValueOrdersWrongFalsely : Prop := valueOrdersRow.holds Tryd.pinned (OpenSpec.ofChange valueOrdersWrong)

/-- 'splicerylaw04.ValueZeros': WHATEVER THE INPUT: true; the input reads as it did. -/
def valueZerosSpec : ChangeSpec := { name := "valueZeros", fn := fun _ => fun
  | [d1, d2, d3, d4, d5] => { results := [.lit (.bool true)], args := [d1, d2, d3, d4, d5] }
  | _ => none }
def valueZerosRow : OpenClaim := { program := "ytmfihlcibephlaadoor", sum := "ccf6f0412f04e56989d931dbb857eae0b78fa6b8b6c33b0ab20681e2827636ae", func := "splicery/splicerylaw04.ValueZeros", spec := "valueZeros", unfollowed := true, recurses := true, named := ["splicery/value.plainKinds", "splicery/value.dataKinds"], loops := true, apart := false, laid := [("splicery/value.plainKinds", laid_splicery_value_plainKinds), ("splicery/value.dataKinds", laid_splicery_value_dataKinds)] }
def ValueZerosSaid : Prop := valueZerosRow.holds Tryd.pinned (OpenSpec.ofChange valueZerosSpec)

/-- ITS FALSE NEIGHBOUR: 'it returns false'. Refute it at one input. -/
def valueZerosWrong : ChangeSpec := { name := "valueZeros", fn := fun _ => fun
  | [d1, d2, d3, d4, d5] => { results := [.lit (.bool false)], args := [d1, d2, d3, d4, d5] }
  | _ => none }
def ValueZerosWrongFalsely : Prop := valueZerosRow.holds Tryd.pinned (OpenSpec.ofChange valueZerosWrong)

/-- 'splicerylaw04.ValueCodes': WHATEVER THE INPUT: true; the input reads as it did. -/
def valueCodesSpec : ChangeSpec := { name := "valueCodes", fn := fun _ => fun
  | [d1, d2, d3, d4, d5, d6, d7] => { results := [.lit (.bool true)], args := [d1, d2, d3, d4, d5, d6, d7] }
  | _ => none }
def valueCodesRow : OpenClaim := { program := "ytmfihlcibephlaadoor", sum := "ccf6f0412f04e56989d931dbb857eae0b78fa6b8b6c33b0ab20681e2827636ae", func := "splicery/splicerylaw04.ValueCodes", spec := "valueCodes", unfollowed := true, recurses := true, named := ["splicery/value.plainKinds", "splicery/value.dataKinds"], loops := true, apart := false, laid := [("splicery/value.plainKinds", laid_splicery_value_plainKinds), ("splicery/value.dataKinds", laid_splicery_value_dataKinds)] }
def ValueCodesSaid : Prop := valueCodesRow.holds Tryd.pinned (OpenSpec.ofChange valueCodesSpec)

/-- ITS FALSE NEIGHBOUR: 'it returns false'. Refute it at one input. -/
def valueCodesWrong : ChangeSpec := { name := "valueCodes", fn := fun _ => fun
  | [d1, d2, d3, d4, d5, d6, d7] => { results := [.lit (.bool false)], args := [d1, d2, d3, d4, d5, d6, d7] }
  | _ => none }
def ValueCodesWrongFalsely : Prop := valueCodesRow.holds Tryd.pinned (OpenSpec.ofChange valueCodesWrong)

/-- 'splicerylaw04.ValueBytes': WHATEVER THE INPUT: true; the input reads as it did. -/
def valueBytesSpec : ChangeSpec := { name := "valueBytes", fn := fun _ => fun
  | [d1, d2, d3, d4] => { results := [.lit (.bool true)], args := [d1, d2, d3, d4] }
  | _ => none }
def valueBytesRow : OpenClaim := { program := "ytmfihlcibephlaadoor", sum := "ccf6f0412f04e56989d931dbb857eae0b78fa6b8b6c33b0ab20681e2827636ae", func := "splicery/splicerylaw04.ValueBytes", spec := "valueBytes", unfollowed := true, recurses := true, named := ["splicery/hash.rounds", "splicery/value.plainKinds", "splicery/value.dataKinds"], apart := false, laid := [("splicery/hash.rounds", laid_splicery_hash_rounds), ("splicery/value.plainKinds", laid_splicery_value_plainKinds), ("splicery/value.dataKinds", laid_splicery_value_dataKinds)] }
def ValueBytesSaid : Prop := valueBytesRow.holds Tryd.pinned (OpenSpec.ofChange valueBytesSpec)

/-- ITS FALSE NEIGHBOUR: 'it returns false'. Refute it at one input. -/
def valueBytesWrong : ChangeSpec := { name := "valueBytes", fn := fun _ => fun
  | [d1, d2, d3, d4] => { results := [.lit (.bool false)], args := [d1, d2, d3, d4] }
  | _ => none }
def ValueBytesWrongFalsely : Prop := valueBytesRow.holds Tryd.pinned (OpenSpec.ofChange valueBytesWrong)

/-- 'splicerylaw04.ValueParts': WHATEVER THE INPUT: true; the input reads as it did. -/
def valuePartsSpec : ChangeSpec := { name := "valueParts", fn := fun _ => fun
  | [d1, d2, d3, d4] => { results := [.lit (.bool true)], args := [d1, d2, d3, d4] }
  | _ => none }
def valuePartsRow : OpenClaim := { program := "ytmfihlcibephlaadoor", sum := "ccf6f0412f04e56989d931dbb857eae0b78fa6b8b6c33b0ab20681e2827636ae", func := "splicery/splicerylaw04.ValueParts", spec := "valueParts", unfollowed := true, recurses := true, named := ["splicery/value.plainKinds", "splicery/value.dataKinds"], apart := false, laid := [("splicery/value.plainKinds", laid_splicery_value_plainKinds), ("splicery/value.dataKinds", laid_splicery_value_dataKinds)] }
def ValuePartsSaid : Prop := valuePartsRow.holds Tryd.pinned (OpenSpec.ofChange valuePartsSpec)

/-- ITS FALSE NEIGHBOUR: 'it returns false'. Refute it at one input. -/
def valuePartsWrong : ChangeSpec := { name := "valueParts", fn := fun _ => fun
  | [d1, d2, d3, d4] => { results := [.lit (.bool false)], args := [d1, d2, d3, d4] }
  | _ => none }
def ValuePartsWrongFalsely : Prop := valuePartsRow.holds Tryd.pinned (OpenSpec.ofChange valuePartsWrong)

/- THE SECOND FORM. 'bulk': how many values and letters a reading holds, each counted each time it is reached (what is shared counts as often as it is met; a slice's spare places count too). A statement '..UptoSaid' is the law's where the arguments, and the package variables that the reading takes, are together of bulk at most 1048576: NARROWER than '..Said'. Prove '..Said' where nothing that the law and all that it calls make is longer than what came in: it says more and counts as full. Else prove '..UptoSaid'. A law counts once. -/
mutual
def uptoBulk {H : Type} : DataW H → Nat
  | .lit (.string bytes) => bytes.length + 1
  | .lit _ => 1
  | .nil => 1
  | .ptr d => uptoBulk d + 1
  | .slice elems spare => uptoBulkAll elems + uptoBulkAll spare + 1
  | .agg parts => uptoBulkAll parts + 1
  | .iface _ d => uptoBulk d + 1
  | .map entries => uptoBulkEntries entries + 1
  | .held _ => 1
def uptoBulkAll {H : Type} : List (DataW H) → Nat
  | [] => 0
  | d :: r => uptoBulk d + uptoBulkAll r
def uptoBulkEntries {H : Type} : List (Lit × DataW H) → Nat
  | [] => 0
  | x :: r => uptoBulkEntry x + uptoBulkEntries r
def uptoBulkEntry {H : Type} : Lit × DataW H → Nat
  | (.string bytes, d) => bytes.length + uptoBulk d + 1
  | (_, d) => uptoBulk d + 1
 end
def uptoSmall : (H : Type) → List (DataW H) → Bool := fun _ ds => decide (uptoBulkAll ds ≤ 1048576)
def OpenSpec.upto (s : _root_.Go.ChangeSpec) : _root_.Go.OpenSpec := { _root_.Go.OpenSpec.ofChange s with cond := some uptoSmall }

/-- 'splicerylaw04.ValueTypes', WHERE WHAT IT READS IS OF BULK AT MOST 1048576: true; the input reads as it did. -/
def valueTypesUptoRow : OpenClaim := { program := "ytmfihlcibephlaadoor", sum := "ccf6f0412f04e56989d931dbb857eae0b78fa6b8b6c33b0ab20681e2827636ae", func := "splicery/splicerylaw04.ValueTypes", spec := "valueTypes", unfollowed := true, recurses := true, named := ["splicery/value.plainKinds", "splicery/value.dataKinds"], loops := true, apart := false, laid := [("splicery/value.plainKinds", laid_splicery_value_plainKinds), ("splicery/value.dataKinds", laid_splicery_value_dataKinds)], narrowed := true }
def ValueTypesUptoSaid : Prop := valueTypesUptoRow.holds Tryd.pinned (OpenSpec.upto valueTypesSpec)

/-- 'splicerylaw04.ValueValid', WHERE WHAT IT READS IS OF BULK AT MOST 1048576: true; the input reads as it did. -/
def valueValidUptoRow : OpenClaim := { program := "ytmfihlcibephlaadoor", sum := "ccf6f0412f04e56989d931dbb857eae0b78fa6b8b6c33b0ab20681e2827636ae", func := "splicery/splicerylaw04.ValueValid", spec := "valueValid", unfollowed := true, recurses := true, named := ["splicery/value.plainKinds", "splicery/value.dataKinds"], loops := true, apart := false, laid := [("splicery/value.plainKinds", laid_splicery_value_plainKinds), ("splicery/value.dataKinds", laid_splicery_value_dataKinds)], narrowed := true }
def ValueValidUptoSaid : Prop := valueValidUptoRow.holds Tryd.pinned (OpenSpec.upto valueValidSpec)

/-- 'splicerylaw04.ValueOrders', WHERE WHAT IT READS IS OF BULK AT MOST 1048576: true; the input reads as it did. -/
def valueOrdersUptoRow : OpenClaim := { program := "ytmfihlcibephlaadoor", sum := "ccf6f0412f04e56989d931dbb857eae0b78fa6b8b6c33b0ab20681e2827636ae", func := "splicery/splicerylaw04.ValueOrders", spec := "valueOrders", unfollowed := true, recurses := true, named := ["splicery/value.plainKinds", "splicery/value.dataKinds"], loops := true, apart := false, laid := [("splicery/value.plainKinds", laid_splicery_value_plainKinds), ("splicery/value.dataKinds", laid_splicery_value_dataKinds)], narrowed := true }
def ValueOrdersUptoSaid : Prop := valueOrdersUptoRow.holds Tryd.pinned (OpenSpec.upto valueOrdersSpec)

/-- 'splicerylaw04.ValueZeros', WHERE WHAT IT READS IS OF BULK AT MOST 1048576: true; the input reads as it did. -/
def valueZerosUptoRow : OpenClaim := { program := "ytmfihlcibephlaadoor", sum := "ccf6f0412f04e56989d931dbb857eae0b78fa6b8b6c33b0ab20681e2827636ae", func := "splicery/splicerylaw04.ValueZeros", spec := "valueZeros", unfollowed := true, recurses := true, named := ["splicery/value.plainKinds", "splicery/value.dataKinds"], loops := true, apart := false, laid := [("splicery/value.plainKinds", laid_splicery_value_plainKinds), ("splicery/value.dataKinds", laid_splicery_value_dataKinds)], narrowed := true }
def ValueZerosUptoSaid : Prop := valueZerosUptoRow.holds Tryd.pinned (OpenSpec.upto valueZerosSpec)

/-- 'splicerylaw04.ValueCodes', WHERE WHAT IT READS IS OF BULK AT MOST 1048576: true; the input reads as it did. -/
def valueCodesUptoRow : OpenClaim := { program := "ytmfihlcibephlaadoor", sum := "ccf6f0412f04e56989d931dbb857eae0b78fa6b8b6c33b0ab20681e2827636ae", func := "splicery/splicerylaw04.ValueCodes", spec := "valueCodes", unfollowed := true, recurses := true, named := ["splicery/value.plainKinds", "splicery/value.dataKinds"], loops := true, apart := false, laid := [("splicery/value.plainKinds", laid_splicery_value_plainKinds), ("splicery/value.dataKinds", laid_splicery_value_dataKinds)], narrowed := true }
def ValueCodesUptoSaid : Prop := valueCodesUptoRow.holds Tryd.pinned (OpenSpec.upto valueCodesSpec)

/-- 'splicerylaw04.ValueBytes', WHERE WHAT IT READS IS OF BULK AT MOST 1048576: true; the input reads as it did. -/
def valueBytesUptoRow : OpenClaim := { program := "ytmfihlcibephlaadoor", sum := "ccf6f0412f04e56989d931dbb857eae0b78fa6b8b6c33b0ab20681e2827636ae", func := "splicery/splicerylaw04.ValueBytes", spec := "valueBytes", unfollowed := true, recurses := true, named := ["splicery/hash.rounds", "splicery/value.plainKinds", "splicery/value.dataKinds"], apart := false, laid := [("splicery/hash.rounds", laid_splicery_hash_rounds), ("splicery/value.plainKinds", laid_splicery_value_plainKinds), ("splicery/value.dataKinds", laid_splicery_value_dataKinds)], narrowed := true }
def ValueBytesUptoSaid : Prop := valueBytesUptoRow.holds Tryd.pinned (OpenSpec.upto valueBytesSpec)

/-- 'splicerylaw04.ValueParts', WHERE WHAT IT READS IS OF BULK AT MOST 1048576: true; the input reads as it did. -/
def valuePartsUptoRow : OpenClaim := { program := "ytmfihlcibephlaadoor", sum := "ccf6f0412f04e56989d931dbb857eae0b78fa6b8b6c33b0ab20681e2827636ae", func := "splicery/splicerylaw04.ValueParts", spec := "valueParts", unfollowed := true, recurses := true, named := ["splicery/value.plainKinds", "splicery/value.dataKinds"], apart := false, laid := [("splicery/value.plainKinds", laid_splicery_value_plainKinds), ("splicery/value.dataKinds", laid_splicery_value_dataKinds)], narrowed := true }
def ValuePartsUptoSaid : Prop := valuePartsUptoRow.holds Tryd.pinned (OpenSpec.upto valuePartsSpec)

end Rows
end Go.Proofs.YtmfihlcibephlaaDoor
