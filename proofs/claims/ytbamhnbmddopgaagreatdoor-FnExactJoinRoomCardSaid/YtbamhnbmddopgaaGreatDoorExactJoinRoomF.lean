import Derived.Test.YtbamhnbmddopgaaGreatDoorCards
import Derived.Test.YtbamhnbmddopgaaGreatDoorFactP
namespace Go.Proofs.YtbamhnbmddopgaaGreatDoor
set_option linter.unusedVariables false
open Go Go.Proofs Go.RowKit
theorem kExactJoinRoom_wf : (Rows.fnExactJoinRoomRow.wf (OpenSpec.ofChange Rows.fnExactJoinRoomSpec)) = true := by kernel_rfl
theorem kExactJoinRoom_params : (Tryz.f5.params.all (Tryz.prog.readableRec ·)) = true := by kernel_rfl
theorem kExactJoinRoom_tie : (namedTie Tryz.prog Rows.fnExactJoinRoomRow.named Rows.fnExactJoinRoomSpec.vars) = true := by kernel_rfl
theorem kExactJoinRoom_st1 : ((Rows.fnExactJoinRoomRow.stops == [])) = true := by kernel_rfl
theorem kExactJoinRoom_kn1 : ((Rows.fnExactJoinRoomRow.knobs == [])) = true := by kernel_rfl
theorem kExactJoinRoom_inPlace : ((Rows.fnExactJoinRoomRow.inPlace == Tryz.prog.inPlace 5)) = true := by kernel_rfl
theorem kExactJoinRoom_unf : ((Rows.fnExactJoinRoomRow.unfollowed == Tryz.prog.unfollowed 5)) = true := by kernel_rfl
theorem kExactJoinRoom_rec : ((Rows.fnExactJoinRoomRow.recurses == Tryz.prog.recurses 5)) = true := by kernel_rfl
theorem kExactJoinRoom_named : ((Rows.fnExactJoinRoomRow.named == Tryz.prog.varsNamed 5)) = true := by kernel_rfl
theorem kExactJoinRoom_maps : ((Rows.fnExactJoinRoomRow.maps == (Tryz.f5.params.toList ++ Rows.fnExactJoinRoomSpec.plain.varTypes Tryz.prog).any (Tryz.prog.mapsRec ·))) = true := by kernel_rfl
theorem kExactJoinRoom_ifaces : ((Rows.fnExactJoinRoomRow.ifaces == (Tryz.f5.params.toList ++ Rows.fnExactJoinRoomSpec.plain.varTypes Tryz.prog).any (Tryz.prog.ifacesRec ·))) = true := by kernel_rfl
theorem kExactJoinRoom_mapsOut : ((Rows.fnExactJoinRoomRow.mapsOut == Tryz.prog.mapsAmong Tryz.f5.resultTypes.toList)) = true := by kernel_rfl
theorem kExactJoinRoom_loops : ((Rows.fnExactJoinRoomRow.loops == (Tryz.f5.params.toList ++ Rows.fnExactJoinRoomSpec.plain.varTypes Tryz.prog).any (Tryz.prog.loopsFrom ·))) = true := by kernel_rfl
theorem kExactJoinRoom_wide : ((Rows.fnExactJoinRoomRow.wideKeys == (Tryz.f5.params.toList ++ Rows.fnExactJoinRoomSpec.plain.varTypes Tryz.prog ++ Tryz.f5.resultTypes.toList).any (Tryz.prog.wideKeysFrom ·))) = true := by kernel_rfl
theorem kExactJoinRoom_vread : (Rows.fnExactJoinRoomSpec.vars.all (Tryz.prog.varReadable ·)) = true := by kernel_rfl
theorem kExactJoinRoom_res : (Tryz.f5.resultTypes.all (fun t => Tryz.prog.readableRec t && decide (t < Tryz.prog.types.size))) = true := by kernel_rfl
theorem kExactJoinRoom_ifOut : ((Rows.fnExactJoinRoomRow.ifacesOut == Tryz.f5.resultTypes.toList.any (Tryz.prog.ifacesRec ·))) = true := by kernel_rfl
theorem kExactJoinRoom_lOut : ((Rows.fnExactJoinRoomRow.loopsOut == Tryz.f5.resultTypes.toList.any (Tryz.prog.loopsFrom ·))) = true := by kernel_rfl
theorem kExactJoinRoom_short : (Rows.fnExactJoinRoomRow.shortTexts.isNone) = true := by kernel_rfl
theorem kExactJoinRoom_kinds : ((Rows.fnExactJoinRoomRow.kinds == (if Rows.fnExactJoinRoomRow.domain.isEmpty then [] else Tryz.f5.params.toList.map fun t => match Tryz.prog.underlying t with | some (.int k) => some k | _ => none))) = true := by kernel_rfl
theorem kExactJoinRoom_pinned : ((Rows.fnExactJoinRoomRow.pinned == Rows.fnExactJoinRoomRow.pinnedBy)) = true := by kernel_rfl
theorem kExactJoinRoom_veiled : ((Rows.fnExactJoinRoomRow.veiled == (Tryz.f5.params.toList ++ Rows.fnExactJoinRoomSpec.plain.varTypes Tryz.prog ++ Tryz.f5.resultTypes.toList).any (Tryz.prog.veiledRec ·))) = true := by kernel_rfl
theorem kExactJoinRoom_vf : (Rows.fnExactJoinRoomRow.veiledFits Tryz.prog Tryz.f5.params.toList (Tryz.f5.params.toList ++ Rows.fnExactJoinRoomSpec.plain.varTypes Tryz.prog ++ Tryz.f5.resultTypes.toList)) = true := by kernel_rfl
set_option maxRecDepth 100000 in
theorem jfExactJoinRoom : joinedFacts Tryz.prog 5 Tryz.f5 Rows.fnExactJoinRoomSpec Rows.fnExactJoinRoomRow = true := (band (band (band (band (band (band (band (band (band (band (band (band (band (band (band (band (band (band (band (band (band (band (band (band (band (band (band (band (band (band (band kExactJoinRoom_wf pf_laid) pf_mapsRowed) kExactJoinRoom_params) kExactJoinRoom_tie) kExactJoinRoom_st1) pf_st2) kExactJoinRoom_kn1) pf_kn2) kExactJoinRoom_inPlace) kExactJoinRoom_unf) kExactJoinRoom_rec) kExactJoinRoom_named) kExactJoinRoom_maps) kExactJoinRoom_ifaces) kExactJoinRoom_mapsOut) kExactJoinRoom_loops) kExactJoinRoom_wide) kExactJoinRoom_vread) kExactJoinRoom_res) kExactJoinRoom_ifOut) kExactJoinRoom_lOut) pf_pk) kExactJoinRoom_short) pf_heard) pf_may) pf_lifted) pf_make) kExactJoinRoom_kinds) kExactJoinRoom_pinned) kExactJoinRoom_veiled) kExactJoinRoom_vf)
theorem fnExactJoinRoom : Tryz.prog.funcNamed Rows.fnExactJoinRoomRow.func = some 5 := by kernel_rfl
theorem wtExactJoinRoom : Rows.fnExactJoinRoomRow.wfByText (OpenSpec.ofChange Rows.fnExactJoinRoomSpec) = true := by kernel_rfl
theorem gbExactJoinRoom : false = Rows.fnExactJoinRoomRow.goesBy Tryz.prog := by kernel_rfl
end Go.Proofs.YtbamhnbmddopgaaGreatDoor
