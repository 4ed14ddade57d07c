import Derived.Test.YtbamhnbmddopgaaGreatDoorCards
import Derived.Test.YtbamhnbmddopgaaGreatDoorFactP
namespace Go.Proofs.YtbamhnbmddopgaaGreatDoor
set_option linter.unusedVariables false
open Go Go.Proofs Go.RowKit
theorem kExactGiveRole_wf : (Rows.fnExactGiveRoleRow.wf (OpenSpec.ofChange Rows.fnExactGiveRoleSpec)) = true := by kernel_rfl
theorem kExactGiveRole_params : (Tryz.f7.params.all (Tryz.prog.readableRec ·)) = true := by kernel_rfl
theorem kExactGiveRole_tie : (namedTie Tryz.prog Rows.fnExactGiveRoleRow.named Rows.fnExactGiveRoleSpec.vars) = true := by kernel_rfl
theorem kExactGiveRole_st1 : ((Rows.fnExactGiveRoleRow.stops == [])) = true := by kernel_rfl
theorem kExactGiveRole_kn1 : ((Rows.fnExactGiveRoleRow.knobs == [])) = true := by kernel_rfl
theorem kExactGiveRole_inPlace : ((Rows.fnExactGiveRoleRow.inPlace == Tryz.prog.inPlace 7)) = true := by kernel_rfl
theorem kExactGiveRole_unf : ((Rows.fnExactGiveRoleRow.unfollowed == Tryz.prog.unfollowed 7)) = true := by kernel_rfl
theorem kExactGiveRole_rec : ((Rows.fnExactGiveRoleRow.recurses == Tryz.prog.recurses 7)) = true := by kernel_rfl
theorem kExactGiveRole_named : ((Rows.fnExactGiveRoleRow.named == Tryz.prog.varsNamed 7)) = true := by kernel_rfl
theorem kExactGiveRole_maps : ((Rows.fnExactGiveRoleRow.maps == (Tryz.f7.params.toList ++ Rows.fnExactGiveRoleSpec.plain.varTypes Tryz.prog).any (Tryz.prog.mapsRec ·))) = true := by kernel_rfl
theorem kExactGiveRole_ifaces : ((Rows.fnExactGiveRoleRow.ifaces == (Tryz.f7.params.toList ++ Rows.fnExactGiveRoleSpec.plain.varTypes Tryz.prog).any (Tryz.prog.ifacesRec ·))) = true := by kernel_rfl
theorem kExactGiveRole_mapsOut : ((Rows.fnExactGiveRoleRow.mapsOut == Tryz.prog.mapsAmong Tryz.f7.resultTypes.toList)) = true := by kernel_rfl
theorem kExactGiveRole_loops : ((Rows.fnExactGiveRoleRow.loops == (Tryz.f7.params.toList ++ Rows.fnExactGiveRoleSpec.plain.varTypes Tryz.prog).any (Tryz.prog.loopsFrom ·))) = true := by kernel_rfl
theorem kExactGiveRole_wide : ((Rows.fnExactGiveRoleRow.wideKeys == (Tryz.f7.params.toList ++ Rows.fnExactGiveRoleSpec.plain.varTypes Tryz.prog ++ Tryz.f7.resultTypes.toList).any (Tryz.prog.wideKeysFrom ·))) = true := by kernel_rfl
theorem kExactGiveRole_vread : (Rows.fnExactGiveRoleSpec.vars.all (Tryz.prog.varReadable ·)) = true := by kernel_rfl
theorem kExactGiveRole_res : (Tryz.f7.resultTypes.all (fun t => Tryz.prog.readableRec t && decide (t < Tryz.prog.types.size))) = true := by kernel_rfl
theorem kExactGiveRole_ifOut : ((Rows.fnExactGiveRoleRow.ifacesOut == Tryz.f7.resultTypes.toList.any (Tryz.prog.ifacesRec ·))) = true := by kernel_rfl
theorem kExactGiveRole_lOut : ((Rows.fnExactGiveRoleRow.loopsOut == Tryz.f7.resultTypes.toList.any (Tryz.prog.loopsFrom ·))) = true := by kernel_rfl
theorem kExactGiveRole_short : (Rows.fnExactGiveRoleRow.shortTexts.isNone) = true := by kernel_rfl
theorem kExactGiveRole_kinds : ((Rows.fnExactGiveRoleRow.kinds == (if Rows.fnExactGiveRoleRow.domain.isEmpty then [] else Tryz.f7.params.toList.map fun t => match Tryz.prog.underlying t with | some (.int k) => some k | _ => none))) = true := by kernel_rfl
theorem kExactGiveRole_pinned : ((Rows.fnExactGiveRoleRow.pinned == Rows.fnExactGiveRoleRow.pinnedBy)) = true := by kernel_rfl
theorem kExactGiveRole_veiled : ((Rows.fnExactGiveRoleRow.veiled == (Tryz.f7.params.toList ++ Rows.fnExactGiveRoleSpec.plain.varTypes Tryz.prog ++ Tryz.f7.resultTypes.toList).any (Tryz.prog.veiledRec ·))) = true := by kernel_rfl
theorem kExactGiveRole_vf : (Rows.fnExactGiveRoleRow.veiledFits Tryz.prog Tryz.f7.params.toList (Tryz.f7.params.toList ++ Rows.fnExactGiveRoleSpec.plain.varTypes Tryz.prog ++ Tryz.f7.resultTypes.toList)) = true := by kernel_rfl
set_option maxRecDepth 100000 in
theorem jfExactGiveRole : joinedFacts Tryz.prog 7 Tryz.f7 Rows.fnExactGiveRoleSpec Rows.fnExactGiveRoleRow = true := (band (band (band (band (band (band (band (band (band (band (band (band (band (band (band (band (band (band (band (band (band (band (band (band (band (band (band (band (band (band (band kExactGiveRole_wf pf_laid) pf_mapsRowed) kExactGiveRole_params) kExactGiveRole_tie) kExactGiveRole_st1) pf_st2) kExactGiveRole_kn1) pf_kn2) kExactGiveRole_inPlace) kExactGiveRole_unf) kExactGiveRole_rec) kExactGiveRole_named) kExactGiveRole_maps) kExactGiveRole_ifaces) kExactGiveRole_mapsOut) kExactGiveRole_loops) kExactGiveRole_wide) kExactGiveRole_vread) kExactGiveRole_res) kExactGiveRole_ifOut) kExactGiveRole_lOut) pf_pk) kExactGiveRole_short) pf_heard) pf_may) pf_lifted) pf_make) kExactGiveRole_kinds) kExactGiveRole_pinned) kExactGiveRole_veiled) kExactGiveRole_vf)
theorem fnExactGiveRole : Tryz.prog.funcNamed Rows.fnExactGiveRoleRow.func = some 7 := by kernel_rfl
theorem wtExactGiveRole : Rows.fnExactGiveRoleRow.wfByText (OpenSpec.ofChange Rows.fnExactGiveRoleSpec) = true := by kernel_rfl
theorem gbExactGiveRole : false = Rows.fnExactGiveRoleRow.goesBy Tryz.prog := by kernel_rfl
end Go.Proofs.YtbamhnbmddopgaaGreatDoor
