import Derived.Test.YtmnmmjobplbflaaGreatDoorCards
import Derived.Test.YtmnmmjobplbflaaGreatDoorFactP
namespace Go.Proofs.YtmnmmjobplbflaaGreatDoor
set_option linter.unusedVariables false
open Go Go.Proofs Go.RowKit
theorem kExactLeaveRoom_wf : (Rows.fnExactLeaveRoomRow.wf (OpenSpec.ofChange Rows.fnExactLeaveRoomSpec)) = true := by kernel_rfl
theorem kExactLeaveRoom_params : (Tryz.f5.params.all (Tryz.prog.readableRec ·)) = true := by kernel_rfl
theorem kExactLeaveRoom_tie : (namedTie Tryz.prog Rows.fnExactLeaveRoomRow.named Rows.fnExactLeaveRoomSpec.vars) = true := by kernel_rfl
theorem kExactLeaveRoom_st1 : ((Rows.fnExactLeaveRoomRow.stops == [])) = true := by kernel_rfl
theorem kExactLeaveRoom_kn1 : ((Rows.fnExactLeaveRoomRow.knobs == [])) = true := by kernel_rfl
theorem kExactLeaveRoom_inPlace : ((Rows.fnExactLeaveRoomRow.inPlace == Tryz.prog.inPlace 5)) = true := by kernel_rfl
theorem kExactLeaveRoom_unf : ((Rows.fnExactLeaveRoomRow.unfollowed == Tryz.prog.unfollowed 5)) = true := by kernel_rfl
theorem kExactLeaveRoom_rec : ((Rows.fnExactLeaveRoomRow.recurses == Tryz.prog.recurses 5)) = true := by kernel_rfl
theorem kExactLeaveRoom_named : ((Rows.fnExactLeaveRoomRow.named == Tryz.prog.varsNamed 5)) = true := by kernel_rfl
theorem kExactLeaveRoom_maps : ((Rows.fnExactLeaveRoomRow.maps == (Tryz.f5.params.toList ++ Rows.fnExactLeaveRoomSpec.plain.varTypes Tryz.prog).any (Tryz.prog.mapsRec ·))) = true := by kernel_rfl
theorem kExactLeaveRoom_ifaces : ((Rows.fnExactLeaveRoomRow.ifaces == (Tryz.f5.params.toList ++ Rows.fnExactLeaveRoomSpec.plain.varTypes Tryz.prog).any (Tryz.prog.ifacesRec ·))) = true := by kernel_rfl
theorem kExactLeaveRoom_mapsOut : ((Rows.fnExactLeaveRoomRow.mapsOut == Tryz.prog.mapsAmong Tryz.f5.resultTypes.toList)) = true := by kernel_rfl
theorem kExactLeaveRoom_loops : ((Rows.fnExactLeaveRoomRow.loops == (Tryz.f5.params.toList ++ Rows.fnExactLeaveRoomSpec.plain.varTypes Tryz.prog).any (Tryz.prog.loopsFrom ·))) = true := by kernel_rfl
theorem kExactLeaveRoom_wide : ((Rows.fnExactLeaveRoomRow.wideKeys == (Tryz.f5.params.toList ++ Rows.fnExactLeaveRoomSpec.plain.varTypes Tryz.prog ++ Tryz.f5.resultTypes.toList).any (Tryz.prog.wideKeysFrom ·))) = true := by kernel_rfl
theorem kExactLeaveRoom_vread : (Rows.fnExactLeaveRoomSpec.vars.all (Tryz.prog.varReadable ·)) = true := by kernel_rfl
theorem kExactLeaveRoom_res : (Tryz.f5.resultTypes.all (fun t => Tryz.prog.readableRec t && decide (t < Tryz.prog.types.size))) = true := by kernel_rfl
theorem kExactLeaveRoom_ifOut : ((Rows.fnExactLeaveRoomRow.ifacesOut == Tryz.f5.resultTypes.toList.any (Tryz.prog.ifacesRec ·))) = true := by kernel_rfl
theorem kExactLeaveRoom_lOut : ((Rows.fnExactLeaveRoomRow.loopsOut == Tryz.f5.resultTypes.toList.any (Tryz.prog.loopsFrom ·))) = true := by kernel_rfl
theorem kExactLeaveRoom_short : (Rows.fnExactLeaveRoomRow.shortTexts.isNone) = true := by kernel_rfl
theorem kExactLeaveRoom_kinds : ((Rows.fnExactLeaveRoomRow.kinds == (if Rows.fnExactLeaveRoomRow.domain.isEmpty then [] else Tryz.f5.params.toList.map fun t => match Tryz.prog.underlying t with | some (.int k) => some k | _ => none))) = true := by kernel_rfl
theorem kExactLeaveRoom_pinned : ((Rows.fnExactLeaveRoomRow.pinned == Rows.fnExactLeaveRoomRow.pinnedBy)) = true := by kernel_rfl
theorem kExactLeaveRoom_veiled : ((Rows.fnExactLeaveRoomRow.veiled == (Tryz.f5.params.toList ++ Rows.fnExactLeaveRoomSpec.plain.varTypes Tryz.prog ++ Tryz.f5.resultTypes.toList).any (Tryz.prog.veiledRec ·))) = true := by kernel_rfl
theorem kExactLeaveRoom_vf : (Rows.fnExactLeaveRoomRow.veiledFits Tryz.prog Tryz.f5.params.toList (Tryz.f5.params.toList ++ Rows.fnExactLeaveRoomSpec.plain.varTypes Tryz.prog ++ Tryz.f5.resultTypes.toList)) = true := by kernel_rfl
set_option maxRecDepth 100000 in
theorem jfExactLeaveRoom : joinedFacts Tryz.prog 5 Tryz.f5 Rows.fnExactLeaveRoomSpec Rows.fnExactLeaveRoomRow = true := (band (band (band (band (band (band (band (band (band (band (band (band (band (band (band (band (band (band (band (band (band (band (band (band (band (band (band (band (band (band (band kExactLeaveRoom_wf pf_laid) pf_mapsRowed) kExactLeaveRoom_params) kExactLeaveRoom_tie) kExactLeaveRoom_st1) pf_st2) kExactLeaveRoom_kn1) pf_kn2) kExactLeaveRoom_inPlace) kExactLeaveRoom_unf) kExactLeaveRoom_rec) kExactLeaveRoom_named) kExactLeaveRoom_maps) kExactLeaveRoom_ifaces) kExactLeaveRoom_mapsOut) kExactLeaveRoom_loops) kExactLeaveRoom_wide) kExactLeaveRoom_vread) kExactLeaveRoom_res) kExactLeaveRoom_ifOut) kExactLeaveRoom_lOut) pf_pk) kExactLeaveRoom_short) pf_heard) pf_may) pf_lifted) pf_make) kExactLeaveRoom_kinds) kExactLeaveRoom_pinned) kExactLeaveRoom_veiled) kExactLeaveRoom_vf)
theorem fnExactLeaveRoom : Tryz.prog.funcNamed Rows.fnExactLeaveRoomRow.func = some 5 := by kernel_rfl
theorem wtExactLeaveRoom : Rows.fnExactLeaveRoomRow.wfByText (OpenSpec.ofChange Rows.fnExactLeaveRoomSpec) = true := by kernel_rfl
theorem gbExactLeaveRoom : false = Rows.fnExactLeaveRoomRow.goesBy Tryz.prog := by kernel_rfl
end Go.Proofs.YtmnmmjobplbflaaGreatDoor
