import Derived.Test.YtdpclbmcmgknjaaChecked
import Derived.WalkKit
import Derived.ProofKit
import Derived.OpenShut
import Derived.ShutString
import Derived.ChangeOld
import Derived.Below
import Derived.Lib.Hide
import Derived.Deep.Onto
import Derived.Test.YtdpclbmcmgknjaaZDelP
import Derived.Test.YtdpclbmcmgknjaaZRowO
import Derived.Test.YtdpclbmcmgknjaaZStrS
import Derived.Test.YtdpclbmcmgknjaaZPutW
namespace Go.Proofs.Ytdpclbmcmgknjaa
open Go.ChangeShapes Go.WideShapes Go.ChangeAt Go.RowKit
open Go.ChangeMaps (open_string shut_string)
set_option linter.unusedVariables false
set_option maxRecDepth 100000
def oldB (t : Int) (x : Iv) : Bool := decide (x.til < t)
def forL (t : Int) (xs : List Iv) : List Iv := xs.filter fun x => !oldB t x
def forOk (t : Int) (xs : List Iv) : Bool := strikesB xs && tickB t
theorem ivC_ne (z : Iv) : ∀ u ∈ ([.int .i64 z.id, .int .i64 z.byy, .int .i64 z.til] : List Value), u.oneCell' = true := by intro u hu; simp at hu; rcases hu with rfl | rfl | rfl <;> rfl
set_option maxHeartbeats 6400000 in
theorem spec_ForgiveOld_any (A : Option Addr) (n c : Nat) (xs : List Iv) (t : Int) (w : World) (h : SRow 3 ivC w w.heap.size A n xs) (hn : n ≤ 1048576) :
    Calls Try.prog 32 #[.slice A n c, .int .i64 t] w fun e w' => StrOut (forOk t xs) (if forOk t xs = true then forL t xs else []) w e w' := by
  have HL := Lib.hid h.1
  obtain ⟨r, hr⟩ : ∃ z, forOk t xs = z := ⟨_, rfl⟩
  obtain ⟨zs, hzs⟩ : ∃ z, (if forOk t xs = true then forL t xs else []) = z := ⟨_, rfl⟩
  rw [hzs, hr]
  have HZS := Lib.hid (And.intro hr hzs)
  clear hr hzs
  obtain ⟨i0, hi, hz0, hz1, hz2⟩ := info_parts Try.info_Strike
  cases hA : strikesB xs with
  | false =>
    have HR := Lib.hid (show r = false ∧ zs = [] by have q : forOk t xs = false := (by simp [forOk, hA]); rw [← HZS.out.1, ← HZS.out.2, q]; exact ⟨rfl, rfl⟩)
    go_enter Try.func32, Try.ntmps32
    go_wp2_with (go_at_call 72; refine (l06Strikes_any _ _ _ _ _ h hn).mono ?_; rw [show rowG 64 skB skF xs = false from hA]; rintro e w1 ⟨rfl, hb1⟩)
    all_goals exact bodyPost_ret (v := .tuple #[.slice none 0 0, .bool false]) (by simp [results, Try.results32, go_sem]) rfl (by rw [HR.out.1, HR.out.2]; exact strout_no hb1)
  | true =>
    cases hT : tickB t with
    | false =>
      have HR := Lib.hid (show r = false ∧ zs = [] by have q : forOk t xs = false := (by simp [forOk, hT]); rw [← HZS.out.1, ← HZS.out.2, q]; exact ⟨rfl, rfl⟩)
      go_enter Try.func32, Try.ntmps32
      go_wp2_with (first | (go_at_call 72; refine (l06Strikes_any _ _ _ _ _ h hn).mono ?_; rw [show rowG 64 skB skF xs = true from hA]; rintro e w1 ⟨rfl, hb1⟩) | (go_at_call 76; refine (l02Tick_b _ _ _ hT).mono ?_; rintro e w' ⟨rfl, rfl⟩))
      all_goals exact bodyPost_ret (v := .tuple #[.slice none 0 0, .bool false]) (by simp [results, Try.results32, go_sem]) rfl (by rw [HR.out.1, HR.out.2]; exact strout_no hb1)
    | true =>
      have HR := Lib.hid (show r = true ∧ zs = forL t xs by have q : forOk t xs = true := (by simp [forOk, hA, hT]); rw [← HZS.out.1, ← HZS.out.2, q]; exact ⟨rfl, rfl⟩)
      go_enter Try.func32, Try.ntmps32
      go_wp2_with (first | (go_at_call 72; refine (l06Strikes_any _ _ _ _ _ h hn).mono ?_; rw [show rowG 64 skB skF xs = true from hA]; rintro e w1 ⟨rfl, hb1⟩) | (go_at_call 76; refine (l02Tick_b _ _ _ hT).mono ?_; rintro e w' ⟨rfl, rfl⟩))
      have hb0 : Below w.heap.size w (w1.alloc (.cells #[] 50)) := hb1.alloc hb1.size _
      have hown0 : (w1.alloc (.cells #[] 50)).ownsRow w.heap.size 50 3 (.slice (some ⟨w1.heap.size, 0, none⟩) 0 0) 0 ((keptL (oldB t) xs 0).flatMap ivC) := by
        simp only [keptL, List.take_zero, List.filter_nil, List.flatMap_nil]; exact World.ownsRow_made w1 #[] 0 hb1.size (by decide) rfl
      clear hA hT hb1
      generalize w1.alloc (.cells #[] 50) = W at *
      go_loopw [6, 7] (fun v i wr => ∃ (k : Nat) (u : Value), k ≤ n ∧ i = .int .i64 k ∧ v = u ∧ wr.ownsRow w.heap.size 50 3 u (keptL (oldB t) xs k).length ((keptL (oldB t) xs k).flatMap ivC) ∧ Below w.heap.size w wr) (fun _ i _ => n - (intOf i).toNat)
      case atStart => exact ⟨0, _, by omega, rfl, rfl, by simpa [keptL] using hown0, hb0⟩
      case round =>
        obtain ⟨k, u, hk, rfl, rfl, hown, hbel⟩ := hrel
        clear hown0 hb0
        have hkl := keptL_len (p := oldB t) (xs := xs) k
        by_cases hlt : k < n
        · have hlt' : decide ((k : Int) < (n : Int)) = true := decide_eq_true (by omega)
          obtain ⟨b, off, z, rfl, hb, hz, c0, c1, c2⟩ := (h.below hbel).ativ hlt
          have HZ := Lib.hid hz
          have hbs := hbel.size
          clear hz h
          by_cases ho : z.til < t
          · have ho' : decide (t ≤ z.til) = false := decide_eq_false (by omega)
            have HT := Lib.hid (keptL_yes HZ.out (show oldB t z = true from decide_eq_true ho))
            have HO := Lib.hid ho
            clear ho
            go_wp2
            go_roundw
            case rel => exact ⟨k + 1, _, by omega, by go_num, rfl, by rw [HT.out]; exact hown, hbel⟩
            case measure => simp [intOf]; omega
          · have ho' : decide (t ≤ z.til) = true := decide_eq_true (by omega)
            have HT := Lib.hid (keptL_no HZ.out (show oldB t z = false from decide_eq_false ho))
            have HO := Lib.hid ho
            clear ho
            go_wp2_with (at_builtin; refine wpList_append_own _ rfl _ _ 46 rfl w.heap.size 50 i0 (.agg #[.int .i64 0, .int .i64 0, .int .i64 0]) 3 24 Try.underlying46 hi hz0 hz1 hz2 rfl (by decide) _ _ _ rfl (hown.alloc _) ⟨wr.heap.size, 0, none⟩ 1 1 [.int .i64 z.id, .int .i64 z.byy, .int .i64 z.til] rfl rfl (one_cellsG wr _ _ _ rfl) (ivC_ne z) (by unfold maxLen; omega) (by omega) (by simp; omega) ?_; intro v2 w2 ho2 hg2 _)
            have hbel' : Below w.heap.size w w2 := (hbel.alloc hbs _).grown hg2 (by simp; omega) (fun g hg => (hown.lt g hg).1)
            clear hg2 hown hbel
            go_roundw
            case rel => exact ⟨k + 1, _, by omega, by go_num, rfl, by rw [HT.out, List.flatMap_append, List.length_append]; simpa [ivC] using ho2, hbel'⟩
            case measure => simp [intOf]; omega
        · have hlt' : decide ((k : Int) < (n : Int)) = false := decide_eq_false (by omega)
          have hkn : k = n := by omega
          subst hkn
          rw [keptL_all (by have := HL.out; omega)] at hown
          have HO := Lib.hid hown
          clear hown
          rcases HO.out.2 with ⟨hv, h0⟩ | ⟨g, cap, cur, hv, _⟩
          · subst hv
            go_wp2
            all_goals exact bodyPost_ret (v := .tuple #[.slice none 0 0, .bool true]) (by simp [results, Try.results32, go_sem]) rfl (by rw [HR.out.1, HR.out.2]; exact ⟨none, 0, 0, rfl, by have q := HO.out; rwa [h0] at q, hbel⟩)
          · subst hv
            go_wp2
            all_goals exact bodyPost_ret (v := .tuple #[.slice (some ⟨g, 0, none⟩) (xs.filter fun x => !oldB t x).length cap, .bool true]) (by simp [results, Try.results32, go_sem]) rfl (by rw [HR.out.1, HR.out.2]; exact ⟨_, _, _, rfl, HO.out, hbel⟩)
end Go.Proofs.Ytdpclbmcmgknjaa
