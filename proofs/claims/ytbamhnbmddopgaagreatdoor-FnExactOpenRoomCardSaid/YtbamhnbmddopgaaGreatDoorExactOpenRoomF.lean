import Derived.Test.YtbamhnbmddopgaaGreatDoorCards
import Derived.Test.YtbamhnbmddopgaaGreatDoorFactP
namespace Go.Proofs.YtbamhnbmddopgaaGreatDoor
set_option linter.unusedVariables false
open Go Go.Proofs Go.RowKit
theorem kExactOpenRoom_wf : (Rows.fnExactOpenRoomRow.wf (OpenSpec.ofChange Rows.fnExactOpenRoomSpec)) = true := by kernel_rfl
theorem kExactOpenRoom_params : (Tryz.f3.params.all (Tryz.prog.readableRec ·)) = true := by kernel_rfl
theorem kExactOpenRoom_tie : (namedTie Tryz.prog Rows.fnExactOpenRoomRow.named Rows.fnExactOpenRoomSpec.vars) = true := by kernel_rfl
theorem kExactOpenRoom_st1 : ((Rows.fnExactOpenRoomRow.stops == [])) = true := by kernel_rfl
theorem kExactOpenRoom_kn1 : ((Rows.fnExactOpenRoomRow.knobs == [])) = true := by kernel_rfl
theorem kExactOpenRoom_inPlace : ((Rows.fnExactOpenRoomRow.inPlace == Tryz.prog.inPlace 3)) = true := by kernel_rfl
theorem kExactOpenRoom_unf : ((Rows.fnExactOpenRoomRow.unfollowed == Tryz.prog.unfollowed 3)) = true := by kernel_rfl
theorem kExactOpenRoom_rec : ((Rows.fnExactOpenRoomRow.recurses == Tryz.prog.recurses 3)) = true := by kernel_rfl
theorem kExactOpenRoom_named : ((Rows.fnExactOpenRoomRow.named == Tryz.prog.varsNamed 3)) = true := by kernel_rfl
theorem kExactOpenRoom_maps : ((Rows.fnExactOpenRoomRow.maps == (Tryz.f3.params.toList ++ Rows.fnExactOpenRoomSpec.plain.varTypes Tryz.prog).any (Tryz.prog.mapsRec ·))) = true := by kernel_rfl
theorem kExactOpenRoom_ifaces : ((Rows.fnExactOpenRoomRow.ifaces == (Tryz.f3.params.toList ++ Rows.fnExactOpenRoomSpec.plain.varTypes Tryz.prog).any (Tryz.prog.ifacesRec ·))) = true := by kernel_rfl
theorem kExactOpenRoom_mapsOut : ((Rows.fnExactOpenRoomRow.mapsOut == Tryz.prog.mapsAmong Tryz.f3.resultTypes.toList)) = true := by kernel_rfl
theorem kExactOpenRoom_loops : ((Rows.fnExactOpenRoomRow.loops == (Tryz.f3.params.toList ++ Rows.fnExactOpenRoomSpec.plain.varTypes Tryz.prog).any (Tryz.prog.loopsFrom ·))) = true := by kernel_rfl
theorem kExactOpenRoom_wide : ((Rows.fnExactOpenRoomRow.wideKeys == (Tryz.f3.params.toList ++ Rows.fnExactOpenRoomSpec.plain.varTypes Tryz.prog ++ Tryz.f3.resultTypes.toList).any (Tryz.prog.wideKeysFrom ·))) = true := by kernel_rfl
theorem kExactOpenRoom_vread : (Rows.fnExactOpenRoomSpec.vars.all (Tryz.prog.varReadable ·)) = true := by kernel_rfl
theorem kExactOpenRoom_res : (Tryz.f3.resultTypes.all (fun t => Tryz.prog.readableRec t && decide (t < Tryz.prog.types.size))) = true := by kernel_rfl
theorem kExactOpenRoom_ifOut : ((Rows.fnExactOpenRoomRow.ifacesOut == Tryz.f3.resultTypes.toList.any (Tryz.prog.ifacesRec ·))) = true := by kernel_rfl
theorem kExactOpenRoom_lOut : ((Rows.fnExactOpenRoomRow.loopsOut == Tryz.f3.resultTypes.toList.any (Tryz.prog.loopsFrom ·))) = true := by kernel_rfl
theorem kExactOpenRoom_short : (Rows.fnExactOpenRoomRow.shortTexts.isNone) = true := by kernel_rfl
theorem kExactOpenRoom_kinds : ((Rows.fnExactOpenRoomRow.kinds == (if Rows.fnExactOpenRoomRow.domain.isEmpty then [] else Tryz.f3.params.toList.map fun t => match Tryz.prog.underlying t with | some (.int k) => some k | _ => none))) = true := by kernel_rfl
theorem kExactOpenRoom_pinned : ((Rows.fnExactOpenRoomRow.pinned == Rows.fnExactOpenRoomRow.pinnedBy)) = true := by kernel_rfl
theorem kExactOpenRoom_veiled : ((Rows.fnExactOpenRoomRow.veiled == (Tryz.f3.params.toList ++ Rows.fnExactOpenRoomSpec.plain.varTypes Tryz.prog ++ Tryz.f3.resultTypes.toList).any (Tryz.prog.veiledRec ·))) = true := by kernel_rfl
theorem kExactOpenRoom_vf : (Rows.fnExactOpenRoomRow.veiledFits Tryz.prog Tryz.f3.params.toList (Tryz.f3.params.toList ++ Rows.fnExactOpenRoomSpec.plain.varTypes Tryz.prog ++ Tryz.f3.resultTypes.toList)) = true := by kernel_rfl
set_option maxRecDepth 100000 in
theorem jfExactOpenRoom : joinedFacts Tryz.prog 3 Tryz.f3 Rows.fnExactOpenRoomSpec Rows.fnExactOpenRoomRow = true := (band (band (band (band (band (band (band (band (band (band (band (band (band (band (band (band (band (band (band (band (band (band (band (band (band (band (band (band (band (band (band kExactOpenRoom_wf pf_laid) pf_mapsRowed) kExactOpenRoom_params) kExactOpenRoom_tie) kExactOpenRoom_st1) pf_st2) kExactOpenRoom_kn1) pf_kn2) kExactOpenRoom_inPlace) kExactOpenRoom_unf) kExactOpenRoom_rec) kExactOpenRoom_named) kExactOpenRoom_maps) kExactOpenRoom_ifaces) kExactOpenRoom_mapsOut) kExactOpenRoom_loops) kExactOpenRoom_wide) kExactOpenRoom_vread) kExactOpenRoom_res) kExactOpenRoom_ifOut) kExactOpenRoom_lOut) pf_pk) kExactOpenRoom_short) pf_heard) pf_may) pf_lifted) pf_make) kExactOpenRoom_kinds) kExactOpenRoom_pinned) kExactOpenRoom_veiled) kExactOpenRoom_vf)
theorem fnExactOpenRoom : Tryz.prog.funcNamed Rows.fnExactOpenRoomRow.func = some 3 := by kernel_rfl
theorem wtExactOpenRoom : Rows.fnExactOpenRoomRow.wfByText (OpenSpec.ofChange Rows.fnExactOpenRoomSpec) = true := by kernel_rfl
theorem gbExactOpenRoom : false = Rows.fnExactOpenRoomRow.goesBy Tryz.prog := by kernel_rfl
end Go.Proofs.YtbamhnbmddopgaaGreatDoor
