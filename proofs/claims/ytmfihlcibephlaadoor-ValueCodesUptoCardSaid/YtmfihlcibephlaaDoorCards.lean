/-
  DERIVED. GIVEN WITH THE SEED: THE CARDS: each row of YtmfihlcibephlaaDoorRows.lean that lists a variable, with what it lists TIED to the program's text (the seventh form; the later family's looks); each row that meets fmt, with fmt's text TOLD by the authors' own Lean function (tested against real Go, not proved from fmt's source: count such statements apart). THE CARD IS WHAT COUNTS. Prove the row's statement (the work); the ties are given (YtmfihlcibephlaaDoorTie.lean); close each card by the builder's one call (the guide's Derived/Test/ToyasCard.lean, 'card_holds'). Laid BY PROGRAM, IN A SANDBOX (cutbox-door.mjs). By AI agents, Wed Nov 11 2026. No macro, syntax, notation, axiom, sorry.
-/
import Derived.Test.YtmfihlcibephlaaDoorRows
import GoSem.ClaimSeven
namespace Go.Proofs.YtmfihlcibephlaaDoor
namespace Rows

/-- THE TIED CARD OF 'splicerylaw04.ValueTypes'. -/
def valueTypesCard : Claim7 := { stood := { row := valueTypesRow, standIns := [], harness := (true, "51974b09ed29f2831e7a65117f5c78d7ca94d0c0828e89ddf2b949ae9557c317"), looks := false }, kinds := [], alts := [], laidByText := true, laidKinds := [.data, .data], laidTests := true, laidLooks := .later }
def ValueTypesCardSaid : Prop := Claim7.holds Tryd.pinned (.plain (OpenSpec.ofChange valueTypesSpec)) valueTypesCard

/-- THE TIED CARD OF 'splicerylaw04.ValueValid'. -/
def valueValidCard : Claim7 := { stood := { row := valueValidRow, standIns := [], harness := (true, "51974b09ed29f2831e7a65117f5c78d7ca94d0c0828e89ddf2b949ae9557c317"), looks := false }, kinds := [], alts := [], laidByText := true, laidKinds := [.data, .data], laidTests := true, laidLooks := .later }
def ValueValidCardSaid : Prop := Claim7.holds Tryd.pinned (.plain (OpenSpec.ofChange valueValidSpec)) valueValidCard

/-- THE TIED CARD OF 'splicerylaw04.ValueOrders'. -/
def valueOrdersCard : Claim7 := { stood := { row := valueOrdersRow, standIns := [], harness := (true, "51974b09ed29f2831e7a65117f5c78d7ca94d0c0828e89ddf2b949ae9557c317"), looks := false }, kinds := [], alts := [], laidByText := true, laidKinds := [.data, .data], laidTests := true, laidLooks := .later }
def ValueOrdersCardSaid : Prop := Claim7.holds Tryd.pinned (.plain (OpenSpec.ofChange valueOrdersSpec)) valueOrdersCard

/-- THE TIED CARD OF 'splicerylaw04.ValueZeros'. -/
def valueZerosCard : Claim7 := { stood := { row := valueZerosRow, standIns := [], harness := (true, "51974b09ed29f2831e7a65117f5c78d7ca94d0c0828e89ddf2b949ae9557c317"), looks := false }, kinds := [], alts := [], laidByText := true, laidKinds := [.data, .data], laidTests := true, laidLooks := .later }
def ValueZerosCardSaid : Prop := Claim7.holds Tryd.pinned (.plain (OpenSpec.ofChange valueZerosSpec)) valueZerosCard

/-- THE TIED CARD OF 'splicerylaw04.ValueCodes'. -/
def valueCodesCard : Claim7 := { stood := { row := valueCodesRow, standIns := [], harness := (true, "51974b09ed29f2831e7a65117f5c78d7ca94d0c0828e89ddf2b949ae9557c317"), looks := false }, kinds := [], alts := [], laidByText := true, laidKinds := [.data, .data], laidTests := true, laidLooks := .later }
def ValueCodesCardSaid : Prop := Claim7.holds Tryd.pinned (.plain (OpenSpec.ofChange valueCodesSpec)) valueCodesCard

/-- THE TIED CARD OF 'splicerylaw04.ValueBytes'. -/
def valueBytesCard : Claim7 := { stood := { row := valueBytesRow, standIns := [], harness := (true, "51974b09ed29f2831e7a65117f5c78d7ca94d0c0828e89ddf2b949ae9557c317"), looks := false }, kinds := [], alts := [], laidByText := true, laidKinds := [.data, .data, .data], laidTests := true, laidLooks := .later }
def ValueBytesCardSaid : Prop := Claim7.holds Tryd.pinned (.plain (OpenSpec.ofChange valueBytesSpec)) valueBytesCard

/-- THE TIED CARD OF 'splicerylaw04.ValueParts'. -/
def valuePartsCard : Claim7 := { stood := { row := valuePartsRow, standIns := [], harness := (true, "51974b09ed29f2831e7a65117f5c78d7ca94d0c0828e89ddf2b949ae9557c317"), looks := false }, kinds := [], alts := [], laidByText := true, laidKinds := [.data, .data], laidTests := true, laidLooks := .later }
def ValuePartsCardSaid : Prop := Claim7.holds Tryd.pinned (.plain (OpenSpec.ofChange valuePartsSpec)) valuePartsCard

/-- THE SECOND FORM's CARD OF 'splicerylaw04.ValueTypes'. -/
def valueTypesUptoCard : Claim7 := { stood := { row := valueTypesUptoRow, standIns := [], harness := (true, "51974b09ed29f2831e7a65117f5c78d7ca94d0c0828e89ddf2b949ae9557c317"), looks := false }, kinds := [], alts := [], laidByText := true, laidKinds := [.data, .data], laidTests := true, laidLooks := .later }
def ValueTypesUptoCardSaid : Prop := Claim7.holds Tryd.pinned (.plain (OpenSpec.upto valueTypesSpec)) valueTypesUptoCard

/-- THE SECOND FORM's CARD OF 'splicerylaw04.ValueValid'. -/
def valueValidUptoCard : Claim7 := { stood := { row := valueValidUptoRow, standIns := [], harness := (true, "51974b09ed29f2831e7a65117f5c78d7ca94d0c0828e89ddf2b949ae9557c317"), looks := false }, kinds := [], alts := [], laidByText := true, laidKinds := [.data, .data], laidTests := true, laidLooks := .later }
def ValueValidUptoCardSaid : Prop := Claim7.holds Tryd.pinned (.plain (OpenSpec.upto valueValidSpec)) valueValidUptoCard

/-- THE SECOND FORM's CARD OF 'splicerylaw04.ValueOrders'. -/
def valueOrdersUptoCard : Claim7 := { stood := { row := valueOrdersUptoRow, standIns := [], harness := (true, "51974b09ed29f2831e7a65117f5c78d7ca94d0c0828e89ddf2b949ae9557c317"), looks := false }, kinds := [], alts := [], laidByText := true, laidKinds := [.data, .data], laidTests := true, laidLooks := .later }
def ValueOrdersUptoCardSaid : Prop := Claim7.holds Tryd.pinned (.plain (OpenSpec.upto valueOrdersSpec)) valueOrdersUptoCard

/-- THE SECOND FORM's CARD OF 'splicerylaw04.ValueZeros'. -/
def valueZerosUptoCard : Claim7 := { stood := { row := valueZerosUptoRow, standIns := [], harness := (true, "51974b09ed29f2831e7a65117f5c78d7ca94d0c0828e89ddf2b949ae9557c317"), looks := false }, kinds := [], alts := [], laidByText := true, laidKinds := [.data, .data], laidTests := true, laidLooks := .later }
def ValueZerosUptoCardSaid : Prop := Claim7.holds Tryd.pinned (.plain (OpenSpec.upto valueZerosSpec)) valueZerosUptoCard

/-- THE SECOND FORM's CARD OF 'splicerylaw04.ValueCodes'. -/
def valueCodesUptoCard : Claim7 := { stood := { row := valueCodesUptoRow, standIns := [], harness := (true, "51974b09ed29f2831e7a65117f5c78d7ca94d0c0828e89ddf2b949ae9557c317"), looks := false }, kinds := [], alts := [], laidByText := true, laidKinds := [.data, .data], laidTests := true, laidLooks := .later }
def ValueCodesUptoCardSaid : Prop := Claim7.holds Tryd.pinned (.plain (OpenSpec.upto valueCodesSpec)) valueCodesUptoCard

/-- THE SECOND FORM's CARD OF 'splicerylaw04.ValueBytes'. -/
def valueBytesUptoCard : Claim7 := { stood := { row := valueBytesUptoRow, standIns := [], harness := (true, "51974b09ed29f2831e7a65117f5c78d7ca94d0c0828e89ddf2b949ae9557c317"), looks := false }, kinds := [], alts := [], laidByText := true, laidKinds := [.data, .data, .data], laidTests := true, laidLooks := .later }
def ValueBytesUptoCardSaid : Prop := Claim7.holds Tryd.pinned (.plain (OpenSpec.upto valueBytesSpec)) valueBytesUptoCard

/-- THE SECOND FORM's CARD OF 'splicerylaw04.ValueParts'. -/
def valuePartsUptoCard : Claim7 := { stood := { row := valuePartsUptoRow, standIns := [], harness := (true, "51974b09ed29f2831e7a65117f5c78d7ca94d0c0828e89ddf2b949ae9557c317"), looks := false }, kinds := [], alts := [], laidByText := true, laidKinds := [.data, .data], laidTests := true, laidLooks := .later }
def ValuePartsUptoCardSaid : Prop := Claim7.holds Tryd.pinned (.plain (OpenSpec.upto valuePartsSpec)) valuePartsUptoCard
end Rows
end Go.Proofs.YtmfihlcibephlaaDoor
