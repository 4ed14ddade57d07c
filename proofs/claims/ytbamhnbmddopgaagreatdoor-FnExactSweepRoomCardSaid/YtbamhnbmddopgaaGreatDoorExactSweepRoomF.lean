import Derived.Test.YtbamhnbmddopgaaGreatDoorCards
import Derived.Test.YtbamhnbmddopgaaGreatDoorFactP
namespace Go.Proofs.YtbamhnbmddopgaaGreatDoor
set_option linter.unusedVariables false
open Go Go.Proofs Go.RowKit
theorem kExactSweepRoom_wf : (Rows.fnExactSweepRoomRow.wf (OpenSpec.ofChange Rows.fnExactSweepRoomSpec)) = true := by kernel_rfl
theorem kExactSweepRoom_params : (Tryz.f11.params.all (Tryz.prog.readableRec ·)) = true := by kernel_rfl
theorem kExactSweepRoom_tie : (namedTie Tryz.prog Rows.fnExactSweepRoomRow.named Rows.fnExactSweepRoomSpec.vars) = true := by kernel_rfl
theorem kExactSweepRoom_st1 : ((Rows.fnExactSweepRoomRow.stops == [])) = true := by kernel_rfl
theorem kExactSweepRoom_kn1 : ((Rows.fnExactSweepRoomRow.knobs == [])) = true := by kernel_rfl
theorem kExactSweepRoom_inPlace : ((Rows.fnExactSweepRoomRow.inPlace == Tryz.prog.inPlace 11)) = true := by kernel_rfl
theorem kExactSweepRoom_unf : ((Rows.fnExactSweepRoomRow.unfollowed == Tryz.prog.unfollowed 11)) = true := by kernel_rfl
theorem kExactSweepRoom_rec : ((Rows.fnExactSweepRoomRow.recurses == Tryz.prog.recurses 11)) = true := by kernel_rfl
theorem kExactSweepRoom_named : ((Rows.fnExactSweepRoomRow.named == Tryz.prog.varsNamed 11)) = true := by kernel_rfl
theorem kExactSweepRoom_maps : ((Rows.fnExactSweepRoomRow.maps == (Tryz.f11.params.toList ++ Rows.fnExactSweepRoomSpec.plain.varTypes Tryz.prog).any (Tryz.prog.mapsRec ·))) = true := by kernel_rfl
theorem kExactSweepRoom_ifaces : ((Rows.fnExactSweepRoomRow.ifaces == (Tryz.f11.params.toList ++ Rows.fnExactSweepRoomSpec.plain.varTypes Tryz.prog).any (Tryz.prog.ifacesRec ·))) = true := by kernel_rfl
theorem kExactSweepRoom_mapsOut : ((Rows.fnExactSweepRoomRow.mapsOut == Tryz.prog.mapsAmong Tryz.f11.resultTypes.toList)) = true := by kernel_rfl
theorem kExactSweepRoom_loops : ((Rows.fnExactSweepRoomRow.loops == (Tryz.f11.params.toList ++ Rows.fnExactSweepRoomSpec.plain.varTypes Tryz.prog).any (Tryz.prog.loopsFrom ·))) = true := by kernel_rfl
theorem kExactSweepRoom_wide : ((Rows.fnExactSweepRoomRow.wideKeys == (Tryz.f11.params.toList ++ Rows.fnExactSweepRoomSpec.plain.varTypes Tryz.prog ++ Tryz.f11.resultTypes.toList).any (Tryz.prog.wideKeysFrom ·))) = true := by kernel_rfl
theorem kExactSweepRoom_vread : (Rows.fnExactSweepRoomSpec.vars.all (Tryz.prog.varReadable ·)) = true := by kernel_rfl
theorem kExactSweepRoom_res : (Tryz.f11.resultTypes.all (fun t => Tryz.prog.readableRec t && decide (t < Tryz.prog.types.size))) = true := by kernel_rfl
theorem kExactSweepRoom_ifOut : ((Rows.fnExactSweepRoomRow.ifacesOut == Tryz.f11.resultTypes.toList.any (Tryz.prog.ifacesRec ·))) = true := by kernel_rfl
theorem kExactSweepRoom_lOut : ((Rows.fnExactSweepRoomRow.loopsOut == Tryz.f11.resultTypes.toList.any (Tryz.prog.loopsFrom ·))) = true := by kernel_rfl
theorem kExactSweepRoom_short : (Rows.fnExactSweepRoomRow.shortTexts.isNone) = true := by kernel_rfl
theorem kExactSweepRoom_kinds : ((Rows.fnExactSweepRoomRow.kinds == (if Rows.fnExactSweepRoomRow.domain.isEmpty then [] else Tryz.f11.params.toList.map fun t => match Tryz.prog.underlying t with | some (.int k) => some k | _ => none))) = true := by kernel_rfl
theorem kExactSweepRoom_pinned : ((Rows.fnExactSweepRoomRow.pinned == Rows.fnExactSweepRoomRow.pinnedBy)) = true := by kernel_rfl
theorem kExactSweepRoom_veiled : ((Rows.fnExactSweepRoomRow.veiled == (Tryz.f11.params.toList ++ Rows.fnExactSweepRoomSpec.plain.varTypes Tryz.prog ++ Tryz.f11.resultTypes.toList).any (Tryz.prog.veiledRec ·))) = true := by kernel_rfl
theorem kExactSweepRoom_vf : (Rows.fnExactSweepRoomRow.veiledFits Tryz.prog Tryz.f11.params.toList (Tryz.f11.params.toList ++ Rows.fnExactSweepRoomSpec.plain.varTypes Tryz.prog ++ Tryz.f11.resultTypes.toList)) = true := by kernel_rfl
set_option maxRecDepth 100000 in
theorem jfExactSweepRoom : joinedFacts Tryz.prog 11 Tryz.f11 Rows.fnExactSweepRoomSpec Rows.fnExactSweepRoomRow = true := (band (band (band (band (band (band (band (band (band (band (band (band (band (band (band (band (band (band (band (band (band (band (band (band (band (band (band (band (band (band (band kExactSweepRoom_wf pf_laid) pf_mapsRowed) kExactSweepRoom_params) kExactSweepRoom_tie) kExactSweepRoom_st1) pf_st2) kExactSweepRoom_kn1) pf_kn2) kExactSweepRoom_inPlace) kExactSweepRoom_unf) kExactSweepRoom_rec) kExactSweepRoom_named) kExactSweepRoom_maps) kExactSweepRoom_ifaces) kExactSweepRoom_mapsOut) kExactSweepRoom_loops) kExactSweepRoom_wide) kExactSweepRoom_vread) kExactSweepRoom_res) kExactSweepRoom_ifOut) kExactSweepRoom_lOut) pf_pk) kExactSweepRoom_short) pf_heard) pf_may) pf_lifted) pf_make) kExactSweepRoom_kinds) kExactSweepRoom_pinned) kExactSweepRoom_veiled) kExactSweepRoom_vf)
theorem fnExactSweepRoom : Tryz.prog.funcNamed Rows.fnExactSweepRoomRow.func = some 11 := by kernel_rfl
theorem wtExactSweepRoom : Rows.fnExactSweepRoomRow.wfByText (OpenSpec.ofChange Rows.fnExactSweepRoomSpec) = true := by kernel_rfl
theorem gbExactSweepRoom : false = Rows.fnExactSweepRoomRow.goesBy Tryz.prog := by kernel_rfl
end Go.Proofs.YtbamhnbmddopgaaGreatDoor
