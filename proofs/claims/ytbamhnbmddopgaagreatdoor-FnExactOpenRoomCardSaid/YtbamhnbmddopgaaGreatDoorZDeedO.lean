import Derived.Test.YtbamhnbmddopgaaGreatDoorChecked
import Derived.WalkKit
import Derived.ProofKit
import Derived.OpenShut
import Derived.ShutString
import Derived.ChangeOld
import Derived.Below
import Derived.Lib.Hide
import Derived.Test.YtbamhnbmddopgaaGreatDoorJk
namespace Go.Proofs.YtbamhnbmddopgaaGreatDoor
open Go.ChangeShapes Go.WideShapes Go.ChangeAt Go.RowKit
open Go.ChangeMaps (open_string shut_string)
set_option linter.unusedVariables false
open Go.Maps
set_option maxRecDepth 100000
theorem BookAt.setOpen {w : World} {g base N : Nat} {o : Bool} {ms : List Mb} {vs : List Iv} {bs : List Bn} (h : BookAt w g base N o ms vs bs) (n : Bool) : BookAt (w.setCell ⟨g, 0, none⟩ (.bool n)) g base N n ms vs bs := by
  obtain ⟨b1, b2, b3, hk, h1, h2, h3, r1, r2⟩ := h
  have a : ∀ {b N D}, w.ownsMap Tryz.prog 2 heldR b N D → b ≠ g := fun hm e => by
    subst e
    obtain ⟨es, cl, hb, _⟩ := hm
    unfold Blk at hk
    rw [hk] at hb
    cases hb
  exact ⟨b1, b2, b3, hk.set_ 0 (.bool n), h1.setCell (a h1) _, h2.setCell (a h2) _, h3.setCell (a h3) _, r1, r2⟩
theorem opening_act (n : Bool) (w : World) : Calls Tryz.prog 217 #[.agg #[.bool n]] w fun e w' => e = .returned (.int .i64 8) ∧ Below w.heap.size w w' := by
  go_enter Tryz.func217, Tryz.ntmps217
  go_wp2
  go_ret
  exact ⟨rfl, (Below.refl _ _).alloc (Nat.le_refl _) _⟩
theorem opening_whom (n : Bool) (w : World) : Calls Tryz.prog 219 #[.agg #[.bool n]] w fun e w' => e = .returned (.int .i64 0) ∧ Below w.heap.size w w' := by
  go_enter Tryz.func219, Tryz.ntmps219
  go_wp2
  go_ret
  exact ⟨rfl, (Below.refl _ _).alloc (Nat.le_refl _) _⟩
theorem opening_change (n o : Bool) (at_ : Int) (ms : List Mb) (vs : List Iv) (bs : List Bn) (w : World) : Does 218 (.agg #[.bool n]) at_ o ms vs bs (openF ms vs bs n) w := by
  intro W g base hbase hbW hbel hB
  have hg : base ≤ g := by obtain ⟨_, _, _, _, _, _, _, _, _, _, _, h⟩ := hB; exact h
  have hc : ∃ b1 b2 b3, Blk W g 150 #[.bool o, .map (some b1), .map (some b2), .map (some b3)] := by obtain ⟨b1, b2, b3, hk, _⟩ := hB; exact ⟨b1, b2, b3, hk⟩
  obtain ⟨b1, b2, b3, hk⟩ := hc
  have hB1 := hB.below (one_box W 75 #[.bool n]).2
  have hk1 := hk.alloc (Obj.cells #[.bool n] 75)
  have hb1 : Below base W (W.alloc (Obj.cells #[.bool n] 75)) := (Below.refl _ _).alloc hbW _
  have c0 : (W.alloc (Obj.cells #[.bool n] 75)).cell? ⟨g, 0, none⟩ = some (.bool o) := hk1.cell 0
  have f0 := hk1.frozen 0
  go_enter Tryz.func218, Tryz.ntmps218
  go_wp2
  go_ret
  exact ⟨.inl ⟨rfl, rfl, 100, hB1.setOpen n⟩, hb1.setCell hg _⟩
theorem impl_OpenRoom_any (o : Bool) (A1 A2 A3 : Option Addr) (n1 c1 n2 c2 n3 c3 : Nat) (ms : List Mb) (vs : List Iv) (bs : List Bn) (p : Int) (n : Bool) (at_ : Int) {a b : Addr} (w : World)
    (h : RoomAt w w.heap.size A1 n1 A2 n2 A3 n3 ms vs bs) (hn : n1 + n2 + n3 ≤ 1048576) (he : ErrN w a) (hR : ErrR w b) (hp : (Lit.int .i64 p).wf = true) :
    Calls Tryz.prog 18 #[.agg #[.bool o, .slice A1 n1 c1, .slice A2 n2 c2, .slice A3 n3 c3], .int .i64 p, .bool n, .int .i64 at_] w (RoomOut (openS o ms vs bs p n at_) w) := by
  rw [← open_same]
  obtain ⟨rz, hrz⟩ : ∃ z, carryR o ms vs bs p 8 0 at_ (openF ms vs bs n) = z := ⟨_, rfl⟩
  have HZ := Lib.hid hrz
  rw [hrz]
  clear hrz
  go_enter Tryz.func18, Tryz.ntmps18
  go_wp2_with fail
  obtain ⟨k0, k1, hb0⟩ := two_boxes w 32 32 #[.bool o, .slice A1 n1 c1, .slice A2 n2 c2, .slice A3 n3 c3] #[.bool false, .slice none 0 0, .slice none 0 0, .slice none 0 0]
  generalize ((w.alloc (.cells #[.bool o, .slice A1 n1 c1, .slice A2 n2 c2, .slice A3 n3 c3] 32)).alloc (.cells #[.bool false, .slice none 0 0, .slice none 0 0, .slice none 0 0] 32)) = W at *
  have h := (h.below hb0).more hb0.size
  have he := he.below hb0
  have hR := hR.below hb0
  have z1 := k1.lt
  have cc := carryOut_any 75 217 219 218 (.agg #[.bool n]) p 0 8 at_ a b o A1 A2 A3 n1 c1 n2 c2 n3 c3 ms vs bs (openF ms vs bs n) W
    (fun _ => by kernel_rfl) (enters_of Tryz.func217 (by kernel_rfl) rfl) (opening_act n)
    (fun _ => by kernel_rfl) (enters_of Tryz.func219 (by kernel_rfl) rfl) (opening_whom n)
    (fun _ => by kernel_rfl) (enters_of Tryz.func218 (by kernel_rfl) rfl)
    (fun _ _ _ => opening_change n o at_ ms vs bs W) (fun hb _ _ _ => (roomB_iff.1 hb).ok) h hn he hR hp (by decide)
  rw [HZ.out] at cc
  go_at_call 58; refine cc.mono ?_; rintro e W3 ⟨B1, m1, d1, B2, m2, d2, B3, m3, d3, rfl, hO, hb3, hnn⟩
  have k1 := k1.below hb3 z1
  have hOx := hO.mono (Nat.succ_le_of_lt z1)
  have hb0 := hb0.trans (hb3.mono hb0.size)
  clear hb3 hO cc
  have r0 := k1.cell 0; have r1 := k1.cell 1; have r2 := k1.cell 2; have r3 := k1.cell 3
  have f0 := k1.frozen 0; have f1 := k1.frozen 1; have f2 := k1.frozen 2; have f3 := k1.frozen 3
  go_wp2
  refine bodyPost_ret (v := .tuple #[.agg #[.bool rz.o, .slice B1 m1 d1, .slice B2 m2 d2, .slice B3 m3 d3], .bool rz.ok]) (by simp [results, Tryz.results18, go_sem, r0, r1, r2, r3]) rfl ?_
  exact ⟨_, _, _, _, _, _, _, _, _, rfl, (hOx.set4 (Nat.lt_succ_self _) _ _ _ _ _ _ _ _).mono (by omega), below_set4 hb0 (by omega) _ _ _ _ _ _ _ _, hnn⟩
end Go.Proofs.YtbamhnbmddopgaaGreatDoor
