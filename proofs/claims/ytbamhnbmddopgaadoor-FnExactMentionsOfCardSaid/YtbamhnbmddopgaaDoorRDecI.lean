import Derived.Test.YtbamhnbmddopgaaDoorChecked
import Derived.WalkKit
import Derived.ProofKit
import Derived.OpenShut
import Derived.ShutString
import Derived.ChangeOld
import Derived.Below
import Derived.Lib.Hide
import Derived.Stop.LaidErr
import Derived.Test.YtbamhnbmddopgaaDoorRDecS
import Derived.Test.YtbamhnbmddopgaaDoorDecI
namespace Go.Proofs.YtbamhnbmddopgaaDoor
open Go.ChangeShapes Go.WideShapes Go.ChangeAt Go.RowKit
open Go.ChangeMaps (open_string shut_string)
set_option linter.unusedVariables false
theorem var_below {P : Program} {w w' : World} {name : String} {cs : Array Value} (h : w.var? P name = some cs) (hb : Below w.heap.size w w') : w'.var? P name = some cs := by
  unfold World.var? at *
  cases hg : P.globalNamed name with
  | none => simp [hg] at h
  | some g =>
    simp only [hg, Option.bind_some] at h ⊢
    have hlt : g < w.heap.size := by
      rcases Nat.lt_or_ge g w.heap.size with h' | h'
      · exact h'
      · rw [Array.getElem?_eq_none h'] at h; simp at h
    rw [hb.block g hlt]
    exact h
/-- what the condition 'laid' gives: the table of powers, and the two errors -/
def Laid (w : World) : Prop := Pow10 w ∧ (∃ tp p, w.var? Tryd.prog "strconv.ErrSyntax" = some #[.iface tp p]) ∧ (∃ tp p, w.var? Tryd.prog "strconv.ErrRange" = some #[.iface tp p])
theorem Laid.below {w w' : World} (h : Laid w) (hb : Below w.heap.size w w') : Laid w' := by
  obtain ⟨h1, ⟨t2, p2, h2⟩, ⟨t3, p3, h3⟩⟩ := h
  exact ⟨h1.below hb, ⟨t2, p2, var_below h2 hb⟩, ⟨t3, p3, var_below h3 hb⟩⟩
theorem below_bytes (w : World) (e : TypeId) (t : ByteArray) : Below w.heap.size w (Lib.bytesWorld w e t) :=
  ⟨rfl, rfl, rfl, by rw [Lib.bytesWorld_size]; omega, fun k hk => Lib.bytesWorld_at_old w e t k hk⟩
theorem isValue_yes (n : Int) (w : World) (h0 : -1000000000 ≤ n) (h1 : n ≤ 1000000000) :
    Calls Tryd.prog 47 #[.int .i64 n] w fun e w' => e = .returned (.bool true) ∧ w = w' := by
  go_enter Tryd.func47, Tryd.ntmps47
  go_wp2
  go_ret
  exact ⟨rfl, rfl⟩
theorem isValue_no (n : Int) (w : World) (h : ¬ (-1000000000 ≤ n ∧ n ≤ 1000000000)) :
    Calls Tryd.prog 47 #[.int .i64 n] w fun e w' => e = .returned (.bool false) ∧ w = w' := by
  by_cases h1 : n < -1000000000
  · clear h
    go_enter Tryd.func47, Tryd.ntmps47
    go_wp2
    go_ret
    exact ⟨rfl, rfl⟩
  · have h2 : 1000000000 < n := by omega
    clear h
    go_enter Tryd.func47, Tryd.ntmps47
    go_wp2
    go_ret
    exact ⟨ret_bool (by simp; omega), rfl⟩
set_option maxHeartbeats 800000 in
theorem impl_ReadDecimal_ok (v : Int) (s : ByteArray) (hs : s.size ≤ 1048576) (hp : Lib.parseIntB 64 s.data.toList = .ok v) (hv0 : -9223372036854775808 ≤ v) (hv1 : v ≤ 9223372036854775807) (w : World) (hL : Laid w) :
    Calls Tryd.prog 21 #[.string s] w fun e w' => RdIs w s v e w' := by
  have hpi : Calls Tryd.prog 46 #[.string s, .int .i64 10, .int .i64 64] w fun e w' => e = .returned (.tuple #[.int .i64 v, .nilIface]) ∧ Below w.heap.size w w' :=
    (Tryd.strconv_ParseInt_10_at64_ok s (by omega) v hp w).mono fun e w' ⟨he, hw⟩ => ⟨he, by
      rcases hw with rfl | ⟨t, rfl⟩
      · exact Below.refl _ _
      · exact below_bytes _ _ _⟩
  clear hp
  by_cases hr : -1000000000 ≤ v ∧ v ≤ 1000000000
  · by_cases he : strOfNums (decL v) = s
    · have HE := Lib.hid he
      clear he
      go_enter Tryd.func21, Tryd.ntmps21
      go_wp2_with (first | (go_at_call 46; refine hpi.mono ?_; rintro e w1 ⟨rfl, hb1⟩) | (go_at_call 47; refine (isValue_yes _ _ hr.1 hr.2).mono ?_; rintro e w' ⟨rfl, rfl⟩) | (go_at_call 48; refine (impl_Decimal_any _ hv0 hv1 _ (hL.1.below hb1)).mono ?_; rintro e w2 ⟨he2, hb2⟩; rw [HE.out] at he2; subst he2))
      go_ret2
      exact ⟨fun _ => ⟨rfl, hb1.trans (hb2.mono hb1.size)⟩, fun h => absurd ⟨hr, HE.out⟩ h⟩
    · have hbe := toList_ne he
      go_enter Tryd.func21, Tryd.ntmps21
      go_wp2_with (first | (go_at_call 46; refine hpi.mono ?_; rintro e w1 ⟨rfl, hb1⟩) | (go_at_call 47; refine (isValue_yes _ _ hr.1 hr.2).mono ?_; rintro e w' ⟨rfl, rfl⟩) | (go_at_call 48; refine (impl_Decimal_any _ hv0 hv1 _ (hL.1.below hb1)).mono ?_; rintro e w2 ⟨rfl, hb2⟩))
      go_ret2
      exact ⟨fun h => absurd h.2 he, fun _ => ⟨rfl, hb1.trans (hb2.mono hb1.size)⟩⟩
  · go_enter Tryd.func21, Tryd.ntmps21
    go_wp2_with (first | (go_at_call 46; refine hpi.mono ?_; rintro e w1 ⟨rfl, hb1⟩) | (go_at_call 47; refine (isValue_no _ _ hr).mono ?_; rintro e w' ⟨rfl, rfl⟩))
    go_ret2
    exact ⟨fun h => absurd h.1 hr, fun _ => ⟨rfl, hb1⟩⟩
theorem impl_ReadDecimal_err (s : ByteArray) (hs : s.size ≤ 1048576) (hp : ∀ v, Lib.parseIntB 64 s.data.toList ≠ .ok v) (w : World) (hL : Laid w) :
    Calls Tryd.prog 21 #[.string s] w fun e w' => RdNo w e w' := by
  have hpi : Calls Tryd.prog 46 #[.string s, .int .i64 10, .int .i64 64] w fun e w' => ∃ (x : Int) (t : TypeId) (p : Value), e = .returned (.tuple #[.int .i64 x, .iface t p]) ∧ Below w.heap.size w w' := by
    obtain ⟨_, ⟨t2, p2, h2⟩, ⟨t3, p3, h3⟩⟩ := hL
    cases hq : Lib.parseIntB 64 s.data.toList with
    | ok v => exact absurd hq (hp v)
    | range => exact (Tryd.strconv_ParseInt_10_at64_range_var s (by omega) hq t3 p3 w h3).mono fun e w' ⟨N, he, _, _, hb⟩ => ⟨_, _, _, he, hb⟩
    | _ => exact (Any.strconv_ParseInt_10_at64_syntax_var Tryd.laysC174 s (by omega) hq t2 p2 w h2).mono fun e w' ⟨N, he, _, _, hb⟩ => ⟨_, _, _, he, hb⟩
  clear hp hL
  go_enter Tryd.func21, Tryd.ntmps21
  go_wp2_with (go_at_call 46; refine hpi.mono ?_; rintro e w1 ⟨x, t, p, rfl, hb1⟩)
  go_ret2
  exact ⟨rfl, hb1⟩
end Go.Proofs.YtbamhnbmddopgaaDoor
