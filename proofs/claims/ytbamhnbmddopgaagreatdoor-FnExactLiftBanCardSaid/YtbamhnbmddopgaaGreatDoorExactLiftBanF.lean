import Derived.Test.YtbamhnbmddopgaaGreatDoorCards
import Derived.Test.YtbamhnbmddopgaaGreatDoorFactP
namespace Go.Proofs.YtbamhnbmddopgaaGreatDoor
set_option linter.unusedVariables false
open Go Go.Proofs Go.RowKit
theorem kExactLiftBan_wf : (Rows.fnExactLiftBanRow.wf (OpenSpec.ofChange Rows.fnExactLiftBanSpec)) = true := by kernel_rfl
theorem kExactLiftBan_params : (Tryz.f10.params.all (Tryz.prog.readableRec ·)) = true := by kernel_rfl
theorem kExactLiftBan_tie : (namedTie Tryz.prog Rows.fnExactLiftBanRow.named Rows.fnExactLiftBanSpec.vars) = true := by kernel_rfl
theorem kExactLiftBan_st1 : ((Rows.fnExactLiftBanRow.stops == [])) = true := by kernel_rfl
theorem kExactLiftBan_kn1 : ((Rows.fnExactLiftBanRow.knobs == [])) = true := by kernel_rfl
theorem kExactLiftBan_inPlace : ((Rows.fnExactLiftBanRow.inPlace == Tryz.prog.inPlace 10)) = true := by kernel_rfl
theorem kExactLiftBan_unf : ((Rows.fnExactLiftBanRow.unfollowed == Tryz.prog.unfollowed 10)) = true := by kernel_rfl
theorem kExactLiftBan_rec : ((Rows.fnExactLiftBanRow.recurses == Tryz.prog.recurses 10)) = true := by kernel_rfl
theorem kExactLiftBan_named : ((Rows.fnExactLiftBanRow.named == Tryz.prog.varsNamed 10)) = true := by kernel_rfl
theorem kExactLiftBan_maps : ((Rows.fnExactLiftBanRow.maps == (Tryz.f10.params.toList ++ Rows.fnExactLiftBanSpec.plain.varTypes Tryz.prog).any (Tryz.prog.mapsRec ·))) = true := by kernel_rfl
theorem kExactLiftBan_ifaces : ((Rows.fnExactLiftBanRow.ifaces == (Tryz.f10.params.toList ++ Rows.fnExactLiftBanSpec.plain.varTypes Tryz.prog).any (Tryz.prog.ifacesRec ·))) = true := by kernel_rfl
theorem kExactLiftBan_mapsOut : ((Rows.fnExactLiftBanRow.mapsOut == Tryz.prog.mapsAmong Tryz.f10.resultTypes.toList)) = true := by kernel_rfl
theorem kExactLiftBan_loops : ((Rows.fnExactLiftBanRow.loops == (Tryz.f10.params.toList ++ Rows.fnExactLiftBanSpec.plain.varTypes Tryz.prog).any (Tryz.prog.loopsFrom ·))) = true := by kernel_rfl
theorem kExactLiftBan_wide : ((Rows.fnExactLiftBanRow.wideKeys == (Tryz.f10.params.toList ++ Rows.fnExactLiftBanSpec.plain.varTypes Tryz.prog ++ Tryz.f10.resultTypes.toList).any (Tryz.prog.wideKeysFrom ·))) = true := by kernel_rfl
theorem kExactLiftBan_vread : (Rows.fnExactLiftBanSpec.vars.all (Tryz.prog.varReadable ·)) = true := by kernel_rfl
theorem kExactLiftBan_res : (Tryz.f10.resultTypes.all (fun t => Tryz.prog.readableRec t && decide (t < Tryz.prog.types.size))) = true := by kernel_rfl
theorem kExactLiftBan_ifOut : ((Rows.fnExactLiftBanRow.ifacesOut == Tryz.f10.resultTypes.toList.any (Tryz.prog.ifacesRec ·))) = true := by kernel_rfl
theorem kExactLiftBan_lOut : ((Rows.fnExactLiftBanRow.loopsOut == Tryz.f10.resultTypes.toList.any (Tryz.prog.loopsFrom ·))) = true := by kernel_rfl
theorem kExactLiftBan_short : (Rows.fnExactLiftBanRow.shortTexts.isNone) = true := by kernel_rfl
theorem kExactLiftBan_kinds : ((Rows.fnExactLiftBanRow.kinds == (if Rows.fnExactLiftBanRow.domain.isEmpty then [] else Tryz.f10.params.toList.map fun t => match Tryz.prog.underlying t with | some (.int k) => some k | _ => none))) = true := by kernel_rfl
theorem kExactLiftBan_pinned : ((Rows.fnExactLiftBanRow.pinned == Rows.fnExactLiftBanRow.pinnedBy)) = true := by kernel_rfl
theorem kExactLiftBan_veiled : ((Rows.fnExactLiftBanRow.veiled == (Tryz.f10.params.toList ++ Rows.fnExactLiftBanSpec.plain.varTypes Tryz.prog ++ Tryz.f10.resultTypes.toList).any (Tryz.prog.veiledRec ·))) = true := by kernel_rfl
theorem kExactLiftBan_vf : (Rows.fnExactLiftBanRow.veiledFits Tryz.prog Tryz.f10.params.toList (Tryz.f10.params.toList ++ Rows.fnExactLiftBanSpec.plain.varTypes Tryz.prog ++ Tryz.f10.resultTypes.toList)) = true := by kernel_rfl
set_option maxRecDepth 100000 in
theorem jfExactLiftBan : joinedFacts Tryz.prog 10 Tryz.f10 Rows.fnExactLiftBanSpec Rows.fnExactLiftBanRow = true := (band (band (band (band (band (band (band (band (band (band (band (band (band (band (band (band (band (band (band (band (band (band (band (band (band (band (band (band (band (band (band kExactLiftBan_wf pf_laid) pf_mapsRowed) kExactLiftBan_params) kExactLiftBan_tie) kExactLiftBan_st1) pf_st2) kExactLiftBan_kn1) pf_kn2) kExactLiftBan_inPlace) kExactLiftBan_unf) kExactLiftBan_rec) kExactLiftBan_named) kExactLiftBan_maps) kExactLiftBan_ifaces) kExactLiftBan_mapsOut) kExactLiftBan_loops) kExactLiftBan_wide) kExactLiftBan_vread) kExactLiftBan_res) kExactLiftBan_ifOut) kExactLiftBan_lOut) pf_pk) kExactLiftBan_short) pf_heard) pf_may) pf_lifted) pf_make) kExactLiftBan_kinds) kExactLiftBan_pinned) kExactLiftBan_veiled) kExactLiftBan_vf)
theorem fnExactLiftBan : Tryz.prog.funcNamed Rows.fnExactLiftBanRow.func = some 10 := by kernel_rfl
theorem wtExactLiftBan : Rows.fnExactLiftBanRow.wfByText (OpenSpec.ofChange Rows.fnExactLiftBanSpec) = true := by kernel_rfl
theorem gbExactLiftBan : false = Rows.fnExactLiftBanRow.goesBy Tryz.prog := by kernel_rfl
end Go.Proofs.YtbamhnbmddopgaaGreatDoor
