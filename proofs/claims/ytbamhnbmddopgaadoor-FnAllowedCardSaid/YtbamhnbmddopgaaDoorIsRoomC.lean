import Derived.Test.YtbamhnbmddopgaaDoorChecked
import Derived.WalkKit
import Derived.ProofKit
import Derived.OpenShut
import Derived.ShutString
import Derived.ChangeOld
import Derived.Below
import Derived.Lib.Hide
import Derived.Test.YtbamhnbmddopgaaDoorMembersC
import Derived.Test.YtbamhnbmddopgaaDoorRoomQ
namespace Go.Proofs.YtbamhnbmddopgaaDoor
open Go.ChangeShapes Go.WideShapes Go.ChangeAt Go.RowKit
open Go.ChangeMaps (open_string shut_string)
set_option linter.unusedVariables false
set_option maxRecDepth 100000
theorem roomB_mem {ms : List Mb} {vs : List Iv} {bs : List Bn} (h : membersB ms = false) : roomB ms vs bs = false := by simp [roomB, h]
theorem roomB_inv {ms : List Mb} {vs : List Iv} {bs : List Bn} (h : invitesB ms vs = false) : roomB ms vs bs = false := by simp [roomB, h]
theorem roomB_ban {ms : List Mb} {vs : List Iv} {bs : List Bn} (h : bansB ms vs bs = false) : roomB ms vs bs = false := by simp [roomB, h]
theorem roomB_all {ms : List Mb} {vs : List Iv} {bs : List Bn} (h1 : membersB ms = true) (h2 : invitesB ms vs = true) (h3 : bansB ms vs bs = true) : roomB ms vs bs = true := by simp [roomB, h1, h2, h3]
end Go.Proofs.YtbamhnbmddopgaaDoor
