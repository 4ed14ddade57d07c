import Derived.Test.YtbamhnbmddopgaaGreatDoorCards
import Derived.Test.YtbamhnbmddopgaaGreatDoorFactP
namespace Go.Proofs.YtbamhnbmddopgaaGreatDoor
set_option linter.unusedVariables false
open Go Go.Proofs Go.RowKit
theorem kExactInviteTo_wf : (Rows.fnExactInviteToRow.wf (OpenSpec.ofChange Rows.fnExactInviteToSpec)) = true := by kernel_rfl
theorem kExactInviteTo_params : (Tryz.f4.params.all (Tryz.prog.readableRec ·)) = true := by kernel_rfl
theorem kExactInviteTo_tie : (namedTie Tryz.prog Rows.fnExactInviteToRow.named Rows.fnExactInviteToSpec.vars) = true := by kernel_rfl
theorem kExactInviteTo_st1 : ((Rows.fnExactInviteToRow.stops == [])) = true := by kernel_rfl
theorem kExactInviteTo_kn1 : ((Rows.fnExactInviteToRow.knobs == [])) = true := by kernel_rfl
theorem kExactInviteTo_inPlace : ((Rows.fnExactInviteToRow.inPlace == Tryz.prog.inPlace 4)) = true := by kernel_rfl
theorem kExactInviteTo_unf : ((Rows.fnExactInviteToRow.unfollowed == Tryz.prog.unfollowed 4)) = true := by kernel_rfl
theorem kExactInviteTo_rec : ((Rows.fnExactInviteToRow.recurses == Tryz.prog.recurses 4)) = true := by kernel_rfl
theorem kExactInviteTo_named : ((Rows.fnExactInviteToRow.named == Tryz.prog.varsNamed 4)) = true := by kernel_rfl
theorem kExactInviteTo_maps : ((Rows.fnExactInviteToRow.maps == (Tryz.f4.params.toList ++ Rows.fnExactInviteToSpec.plain.varTypes Tryz.prog).any (Tryz.prog.mapsRec ·))) = true := by kernel_rfl
theorem kExactInviteTo_ifaces : ((Rows.fnExactInviteToRow.ifaces == (Tryz.f4.params.toList ++ Rows.fnExactInviteToSpec.plain.varTypes Tryz.prog).any (Tryz.prog.ifacesRec ·))) = true := by kernel_rfl
theorem kExactInviteTo_mapsOut : ((Rows.fnExactInviteToRow.mapsOut == Tryz.prog.mapsAmong Tryz.f4.resultTypes.toList)) = true := by kernel_rfl
theorem kExactInviteTo_loops : ((Rows.fnExactInviteToRow.loops == (Tryz.f4.params.toList ++ Rows.fnExactInviteToSpec.plain.varTypes Tryz.prog).any (Tryz.prog.loopsFrom ·))) = true := by kernel_rfl
theorem kExactInviteTo_wide : ((Rows.fnExactInviteToRow.wideKeys == (Tryz.f4.params.toList ++ Rows.fnExactInviteToSpec.plain.varTypes Tryz.prog ++ Tryz.f4.resultTypes.toList).any (Tryz.prog.wideKeysFrom ·))) = true := by kernel_rfl
theorem kExactInviteTo_vread : (Rows.fnExactInviteToSpec.vars.all (Tryz.prog.varReadable ·)) = true := by kernel_rfl
theorem kExactInviteTo_res : (Tryz.f4.resultTypes.all (fun t => Tryz.prog.readableRec t && decide (t < Tryz.prog.types.size))) = true := by kernel_rfl
theorem kExactInviteTo_ifOut : ((Rows.fnExactInviteToRow.ifacesOut == Tryz.f4.resultTypes.toList.any (Tryz.prog.ifacesRec ·))) = true := by kernel_rfl
theorem kExactInviteTo_lOut : ((Rows.fnExactInviteToRow.loopsOut == Tryz.f4.resultTypes.toList.any (Tryz.prog.loopsFrom ·))) = true := by kernel_rfl
theorem kExactInviteTo_short : (Rows.fnExactInviteToRow.shortTexts.isNone) = true := by kernel_rfl
theorem kExactInviteTo_kinds : ((Rows.fnExactInviteToRow.kinds == (if Rows.fnExactInviteToRow.domain.isEmpty then [] else Tryz.f4.params.toList.map fun t => match Tryz.prog.underlying t with | some (.int k) => some k | _ => none))) = true := by kernel_rfl
theorem kExactInviteTo_pinned : ((Rows.fnExactInviteToRow.pinned == Rows.fnExactInviteToRow.pinnedBy)) = true := by kernel_rfl
theorem kExactInviteTo_veiled : ((Rows.fnExactInviteToRow.veiled == (Tryz.f4.params.toList ++ Rows.fnExactInviteToSpec.plain.varTypes Tryz.prog ++ Tryz.f4.resultTypes.toList).any (Tryz.prog.veiledRec ·))) = true := by kernel_rfl
theorem kExactInviteTo_vf : (Rows.fnExactInviteToRow.veiledFits Tryz.prog Tryz.f4.params.toList (Tryz.f4.params.toList ++ Rows.fnExactInviteToSpec.plain.varTypes Tryz.prog ++ Tryz.f4.resultTypes.toList)) = true := by kernel_rfl
set_option maxRecDepth 100000 in
theorem jfExactInviteTo : joinedFacts Tryz.prog 4 Tryz.f4 Rows.fnExactInviteToSpec Rows.fnExactInviteToRow = true := (band (band (band (band (band (band (band (band (band (band (band (band (band (band (band (band (band (band (band (band (band (band (band (band (band (band (band (band (band (band (band kExactInviteTo_wf pf_laid) pf_mapsRowed) kExactInviteTo_params) kExactInviteTo_tie) kExactInviteTo_st1) pf_st2) kExactInviteTo_kn1) pf_kn2) kExactInviteTo_inPlace) kExactInviteTo_unf) kExactInviteTo_rec) kExactInviteTo_named) kExactInviteTo_maps) kExactInviteTo_ifaces) kExactInviteTo_mapsOut) kExactInviteTo_loops) kExactInviteTo_wide) kExactInviteTo_vread) kExactInviteTo_res) kExactInviteTo_ifOut) kExactInviteTo_lOut) pf_pk) kExactInviteTo_short) pf_heard) pf_may) pf_lifted) pf_make) kExactInviteTo_kinds) kExactInviteTo_pinned) kExactInviteTo_veiled) kExactInviteTo_vf)
theorem fnExactInviteTo : Tryz.prog.funcNamed Rows.fnExactInviteToRow.func = some 4 := by kernel_rfl
theorem wtExactInviteTo : Rows.fnExactInviteToRow.wfByText (OpenSpec.ofChange Rows.fnExactInviteToSpec) = true := by kernel_rfl
theorem gbExactInviteTo : false = Rows.fnExactInviteToRow.goesBy Tryz.prog := by kernel_rfl
end Go.Proofs.YtbamhnbmddopgaaGreatDoor
