import Derived.Test.YtbamhnbmddopgaaGreatDoorCards
import Derived.Test.YtbamhnbmddopgaaGreatDoorFactP
namespace Go.Proofs.YtbamhnbmddopgaaGreatDoor
set_option linter.unusedVariables false
open Go Go.Proofs Go.RowKit
theorem kExactMuteMember_wf : (Rows.fnExactMuteMemberRow.wf (OpenSpec.ofChange Rows.fnExactMuteMemberSpec)) = true := by kernel_rfl
theorem kExactMuteMember_params : (Tryz.f8.params.all (Tryz.prog.readableRec ·)) = true := by kernel_rfl
theorem kExactMuteMember_tie : (namedTie Tryz.prog Rows.fnExactMuteMemberRow.named Rows.fnExactMuteMemberSpec.vars) = true := by kernel_rfl
theorem kExactMuteMember_st1 : ((Rows.fnExactMuteMemberRow.stops == [])) = true := by kernel_rfl
theorem kExactMuteMember_kn1 : ((Rows.fnExactMuteMemberRow.knobs == [])) = true := by kernel_rfl
theorem kExactMuteMember_inPlace : ((Rows.fnExactMuteMemberRow.inPlace == Tryz.prog.inPlace 8)) = true := by kernel_rfl
theorem kExactMuteMember_unf : ((Rows.fnExactMuteMemberRow.unfollowed == Tryz.prog.unfollowed 8)) = true := by kernel_rfl
theorem kExactMuteMember_rec : ((Rows.fnExactMuteMemberRow.recurses == Tryz.prog.recurses 8)) = true := by kernel_rfl
theorem kExactMuteMember_named : ((Rows.fnExactMuteMemberRow.named == Tryz.prog.varsNamed 8)) = true := by kernel_rfl
theorem kExactMuteMember_maps : ((Rows.fnExactMuteMemberRow.maps == (Tryz.f8.params.toList ++ Rows.fnExactMuteMemberSpec.plain.varTypes Tryz.prog).any (Tryz.prog.mapsRec ·))) = true := by kernel_rfl
theorem kExactMuteMember_ifaces : ((Rows.fnExactMuteMemberRow.ifaces == (Tryz.f8.params.toList ++ Rows.fnExactMuteMemberSpec.plain.varTypes Tryz.prog).any (Tryz.prog.ifacesRec ·))) = true := by kernel_rfl
theorem kExactMuteMember_mapsOut : ((Rows.fnExactMuteMemberRow.mapsOut == Tryz.prog.mapsAmong Tryz.f8.resultTypes.toList)) = true := by kernel_rfl
theorem kExactMuteMember_loops : ((Rows.fnExactMuteMemberRow.loops == (Tryz.f8.params.toList ++ Rows.fnExactMuteMemberSpec.plain.varTypes Tryz.prog).any (Tryz.prog.loopsFrom ·))) = true := by kernel_rfl
theorem kExactMuteMember_wide : ((Rows.fnExactMuteMemberRow.wideKeys == (Tryz.f8.params.toList ++ Rows.fnExactMuteMemberSpec.plain.varTypes Tryz.prog ++ Tryz.f8.resultTypes.toList).any (Tryz.prog.wideKeysFrom ·))) = true := by kernel_rfl
theorem kExactMuteMember_vread : (Rows.fnExactMuteMemberSpec.vars.all (Tryz.prog.varReadable ·)) = true := by kernel_rfl
theorem kExactMuteMember_res : (Tryz.f8.resultTypes.all (fun t => Tryz.prog.readableRec t && decide (t < Tryz.prog.types.size))) = true := by kernel_rfl
theorem kExactMuteMember_ifOut : ((Rows.fnExactMuteMemberRow.ifacesOut == Tryz.f8.resultTypes.toList.any (Tryz.prog.ifacesRec ·))) = true := by kernel_rfl
theorem kExactMuteMember_lOut : ((Rows.fnExactMuteMemberRow.loopsOut == Tryz.f8.resultTypes.toList.any (Tryz.prog.loopsFrom ·))) = true := by kernel_rfl
theorem kExactMuteMember_short : (Rows.fnExactMuteMemberRow.shortTexts.isNone) = true := by kernel_rfl
theorem kExactMuteMember_kinds : ((Rows.fnExactMuteMemberRow.kinds == (if Rows.fnExactMuteMemberRow.domain.isEmpty then [] else Tryz.f8.params.toList.map fun t => match Tryz.prog.underlying t with | some (.int k) => some k | _ => none))) = true := by kernel_rfl
theorem kExactMuteMember_pinned : ((Rows.fnExactMuteMemberRow.pinned == Rows.fnExactMuteMemberRow.pinnedBy)) = true := by kernel_rfl
theorem kExactMuteMember_veiled : ((Rows.fnExactMuteMemberRow.veiled == (Tryz.f8.params.toList ++ Rows.fnExactMuteMemberSpec.plain.varTypes Tryz.prog ++ Tryz.f8.resultTypes.toList).any (Tryz.prog.veiledRec ·))) = true := by kernel_rfl
theorem kExactMuteMember_vf : (Rows.fnExactMuteMemberRow.veiledFits Tryz.prog Tryz.f8.params.toList (Tryz.f8.params.toList ++ Rows.fnExactMuteMemberSpec.plain.varTypes Tryz.prog ++ Tryz.f8.resultTypes.toList)) = true := by kernel_rfl
set_option maxRecDepth 100000 in
theorem jfExactMuteMember : joinedFacts Tryz.prog 8 Tryz.f8 Rows.fnExactMuteMemberSpec Rows.fnExactMuteMemberRow = true := (band (band (band (band (band (band (band (band (band (band (band (band (band (band (band (band (band (band (band (band (band (band (band (band (band (band (band (band (band (band (band kExactMuteMember_wf pf_laid) pf_mapsRowed) kExactMuteMember_params) kExactMuteMember_tie) kExactMuteMember_st1) pf_st2) kExactMuteMember_kn1) pf_kn2) kExactMuteMember_inPlace) kExactMuteMember_unf) kExactMuteMember_rec) kExactMuteMember_named) kExactMuteMember_maps) kExactMuteMember_ifaces) kExactMuteMember_mapsOut) kExactMuteMember_loops) kExactMuteMember_wide) kExactMuteMember_vread) kExactMuteMember_res) kExactMuteMember_ifOut) kExactMuteMember_lOut) pf_pk) kExactMuteMember_short) pf_heard) pf_may) pf_lifted) pf_make) kExactMuteMember_kinds) kExactMuteMember_pinned) kExactMuteMember_veiled) kExactMuteMember_vf)
theorem fnExactMuteMember : Tryz.prog.funcNamed Rows.fnExactMuteMemberRow.func = some 8 := by kernel_rfl
theorem wtExactMuteMember : Rows.fnExactMuteMemberRow.wfByText (OpenSpec.ofChange Rows.fnExactMuteMemberSpec) = true := by kernel_rfl
theorem gbExactMuteMember : false = Rows.fnExactMuteMemberRow.goesBy Tryz.prog := by kernel_rfl
end Go.Proofs.YtbamhnbmddopgaaGreatDoor
