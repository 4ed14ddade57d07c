import Derived.Test.YtbamhnbmddopgaaGreatDoorCards
import Derived.Test.YtbamhnbmddopgaaGreatDoorFactP
namespace Go.Proofs.YtbamhnbmddopgaaGreatDoor
set_option linter.unusedVariables false
open Go Go.Proofs Go.RowKit
theorem kExactBanMember_wf : (Rows.fnExactBanMemberRow.wf (OpenSpec.ofChange Rows.fnExactBanMemberSpec)) = true := by kernel_rfl
theorem kExactBanMember_params : (Tryz.f9.params.all (Tryz.prog.readableRec ·)) = true := by kernel_rfl
theorem kExactBanMember_tie : (namedTie Tryz.prog Rows.fnExactBanMemberRow.named Rows.fnExactBanMemberSpec.vars) = true := by kernel_rfl
theorem kExactBanMember_st1 : ((Rows.fnExactBanMemberRow.stops == [])) = true := by kernel_rfl
theorem kExactBanMember_kn1 : ((Rows.fnExactBanMemberRow.knobs == [])) = true := by kernel_rfl
theorem kExactBanMember_inPlace : ((Rows.fnExactBanMemberRow.inPlace == Tryz.prog.inPlace 9)) = true := by kernel_rfl
theorem kExactBanMember_unf : ((Rows.fnExactBanMemberRow.unfollowed == Tryz.prog.unfollowed 9)) = true := by kernel_rfl
theorem kExactBanMember_rec : ((Rows.fnExactBanMemberRow.recurses == Tryz.prog.recurses 9)) = true := by kernel_rfl
theorem kExactBanMember_named : ((Rows.fnExactBanMemberRow.named == Tryz.prog.varsNamed 9)) = true := by kernel_rfl
theorem kExactBanMember_maps : ((Rows.fnExactBanMemberRow.maps == (Tryz.f9.params.toList ++ Rows.fnExactBanMemberSpec.plain.varTypes Tryz.prog).any (Tryz.prog.mapsRec ·))) = true := by kernel_rfl
theorem kExactBanMember_ifaces : ((Rows.fnExactBanMemberRow.ifaces == (Tryz.f9.params.toList ++ Rows.fnExactBanMemberSpec.plain.varTypes Tryz.prog).any (Tryz.prog.ifacesRec ·))) = true := by kernel_rfl
theorem kExactBanMember_mapsOut : ((Rows.fnExactBanMemberRow.mapsOut == Tryz.prog.mapsAmong Tryz.f9.resultTypes.toList)) = true := by kernel_rfl
theorem kExactBanMember_loops : ((Rows.fnExactBanMemberRow.loops == (Tryz.f9.params.toList ++ Rows.fnExactBanMemberSpec.plain.varTypes Tryz.prog).any (Tryz.prog.loopsFrom ·))) = true := by kernel_rfl
theorem kExactBanMember_wide : ((Rows.fnExactBanMemberRow.wideKeys == (Tryz.f9.params.toList ++ Rows.fnExactBanMemberSpec.plain.varTypes Tryz.prog ++ Tryz.f9.resultTypes.toList).any (Tryz.prog.wideKeysFrom ·))) = true := by kernel_rfl
theorem kExactBanMember_vread : (Rows.fnExactBanMemberSpec.vars.all (Tryz.prog.varReadable ·)) = true := by kernel_rfl
theorem kExactBanMember_res : (Tryz.f9.resultTypes.all (fun t => Tryz.prog.readableRec t && decide (t < Tryz.prog.types.size))) = true := by kernel_rfl
theorem kExactBanMember_ifOut : ((Rows.fnExactBanMemberRow.ifacesOut == Tryz.f9.resultTypes.toList.any (Tryz.prog.ifacesRec ·))) = true := by kernel_rfl
theorem kExactBanMember_lOut : ((Rows.fnExactBanMemberRow.loopsOut == Tryz.f9.resultTypes.toList.any (Tryz.prog.loopsFrom ·))) = true := by kernel_rfl
theorem kExactBanMember_short : (Rows.fnExactBanMemberRow.shortTexts.isNone) = true := by kernel_rfl
theorem kExactBanMember_kinds : ((Rows.fnExactBanMemberRow.kinds == (if Rows.fnExactBanMemberRow.domain.isEmpty then [] else Tryz.f9.params.toList.map fun t => match Tryz.prog.underlying t with | some (.int k) => some k | _ => none))) = true := by kernel_rfl
theorem kExactBanMember_pinned : ((Rows.fnExactBanMemberRow.pinned == Rows.fnExactBanMemberRow.pinnedBy)) = true := by kernel_rfl
theorem kExactBanMember_veiled : ((Rows.fnExactBanMemberRow.veiled == (Tryz.f9.params.toList ++ Rows.fnExactBanMemberSpec.plain.varTypes Tryz.prog ++ Tryz.f9.resultTypes.toList).any (Tryz.prog.veiledRec ·))) = true := by kernel_rfl
theorem kExactBanMember_vf : (Rows.fnExactBanMemberRow.veiledFits Tryz.prog Tryz.f9.params.toList (Tryz.f9.params.toList ++ Rows.fnExactBanMemberSpec.plain.varTypes Tryz.prog ++ Tryz.f9.resultTypes.toList)) = true := by kernel_rfl
set_option maxRecDepth 100000 in
theorem jfExactBanMember : joinedFacts Tryz.prog 9 Tryz.f9 Rows.fnExactBanMemberSpec Rows.fnExactBanMemberRow = true := (band (band (band (band (band (band (band (band (band (band (band (band (band (band (band (band (band (band (band (band (band (band (band (band (band (band (band (band (band (band (band kExactBanMember_wf pf_laid) pf_mapsRowed) kExactBanMember_params) kExactBanMember_tie) kExactBanMember_st1) pf_st2) kExactBanMember_kn1) pf_kn2) kExactBanMember_inPlace) kExactBanMember_unf) kExactBanMember_rec) kExactBanMember_named) kExactBanMember_maps) kExactBanMember_ifaces) kExactBanMember_mapsOut) kExactBanMember_loops) kExactBanMember_wide) kExactBanMember_vread) kExactBanMember_res) kExactBanMember_ifOut) kExactBanMember_lOut) pf_pk) kExactBanMember_short) pf_heard) pf_may) pf_lifted) pf_make) kExactBanMember_kinds) kExactBanMember_pinned) kExactBanMember_veiled) kExactBanMember_vf)
theorem fnExactBanMember : Tryz.prog.funcNamed Rows.fnExactBanMemberRow.func = some 9 := by kernel_rfl
theorem wtExactBanMember : Rows.fnExactBanMemberRow.wfByText (OpenSpec.ofChange Rows.fnExactBanMemberSpec) = true := by kernel_rfl
theorem gbExactBanMember : false = Rows.fnExactBanMemberRow.goesBy Tryz.prog := by kernel_rfl
end Go.Proofs.YtbamhnbmddopgaaGreatDoor
