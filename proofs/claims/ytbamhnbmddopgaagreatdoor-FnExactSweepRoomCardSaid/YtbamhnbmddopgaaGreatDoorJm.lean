import Derived.Test.YtbamhnbmddopgaaGreatDoorChecked
import Derived.WalkKit
import Derived.ProofKit
import Derived.OpenShut
import Derived.ShutString
import Derived.ChangeOld
import Derived.Below
import Derived.Lib.Hide
import Derived.Deep.RegionHeld3
import Derived.Test.YtbamhnbmddopgaaGreatDoorZAllowS
import Derived.Test.YtbamhnbmddopgaaGreatDoorJh
import Derived.Test.YtbamhnbmddopgaaGreatDoorJf
namespace Go.Proofs.YtbamhnbmddopgaaGreatDoor
open Go.ChangeShapes Go.WideShapes Go.ChangeAt Go.RowKit
open Go.ChangeMaps (open_string shut_string)
set_option linter.unusedVariables false
set_option maxRecDepth 100000
theorem find_split {ms : List Mb} {t : Int} {m : Mb} (h : findM ms t = some m) : ∃ K, ms[K]? = some m ∧ (mids ms)[K]? = some t ∧ NotIn (mids ms) t K := by
  obtain ⟨K, hK, hf⟩ := first_at (findM_mem h)
  obtain ⟨m', hz, hF, _⟩ := find_at hK hf
  rw [h] at hF
  injection hF with hF
  subst hF
  exact ⟨K, hz, hK, hf⟩
theorem above_no1 {ms : List Mb} {vs : List Iv} {bs : List Bn} {p t a at_ : Int} (h : roomB ms vs bs = false) : aboveB ms vs bs p t a at_ = false := by simp [aboveB, h]
set_option maxHeartbeats 1600000 in
theorem l02Above_any (G : Nat) (A1 A2 A3 : Option Addr) (n1 c1 n2 c2 n3 c3 B : Nat) (ms : List Mb) (vs : List Iv) (bs : List Bn) (p t ac at_ : Int) (w : World)
    (hp1 : w.cell? ⟨G, 1, none⟩ = some (.slice A1 n1 c1)) (hp2 : w.cell? ⟨G, 2, none⟩ = some (.slice A2 n2 c2)) (hp3 : w.cell? ⟨G, 3, none⟩ = some (.slice A3 n3 c3)) (h : RoomAt w B A1 n1 A2 n2 A3 n3 ms vs bs) (hn : n1 + n2 + n3 ≤ 1048576) :
    Calls Tryz.prog 68 #[.pointer (some ⟨G, 0, none⟩), .int .i64 p, .int .i64 t, .int .i64 ac, .int .i64 at_] w fun e w' => e = .returned (.bool (aboveB ms vs bs p t ac at_)) ∧ ∃ q, w' = w.drewN q := by
  have cI := l02Is_any G A1 A2 A3 n1 c1 n2 c2 n3 c3 B ms vs bs w hp1 hp2 hp3 h hn
  cases hb : roomB ms vs bs with
  | false =>
    have HA := Lib.hid (above_no1 (p := p) (t := t) (a := ac) (at_ := at_) hb)
    rw [hb] at cI
    go_enter Tryz.func68, Tryz.ntmps68
    go_wp2_with (go_at_call 52; refine cI.mono ?_; rintro e w' ⟨rfl, q, rfl⟩)
    go_ret
    exact ⟨ret_bool HA.out.symm, q, rfl⟩
  | true =>
    rw [hb] at cI
    by_cases hpt : p = t
    · have HA := Lib.hid (show aboveB ms vs bs p t ac at_ = false by simp [aboveB, hpt])
      have hq : (p == t) = true := by simp [hpt]
      go_enter Tryz.func68, Tryz.ntmps68
      go_wp2_with (go_at_call 52; refine cI.mono ?_; rintro e w' ⟨rfl, q, rfl⟩)
      go_ret
      exact ⟨ret_bool HA.out.symm, q, rfl⟩
    · have hq : (p == t) = false := by simp [hpt]
      cases hi : idB t with
      | false =>
        have HA := Lib.hid (show aboveB ms vs bs p t ac at_ = false by simp [aboveB, hi])
        go_enter Tryz.func68, Tryz.ntmps68
        go_wp2_with (first | (go_at_call 52; refine cI.mono ?_; rintro e w' ⟨rfl, q, rfl⟩) | (go_at_call 74; refine (l02Id_b _ _ _ hi).mono ?_; rintro e w' ⟨rfl, rfl⟩))
        go_ret
        exact ⟨ret_bool HA.out.symm, q, rfl⟩
      | true =>
        cases ha : allowB ms p ac at_ with
        | false =>
          have HA := Lib.hid (show aboveB ms vs bs p t ac at_ = false by simp [aboveB, ha])
          go_enter Tryz.func68, Tryz.ntmps68
          go_wp2_with (first | (go_at_call 52; refine cI.mono ?_; rintro e w' ⟨rfl, q, rfl⟩) | (go_at_call 74; refine (l02Id_b _ _ _ hi).mono ?_; rintro e w' ⟨rfl, rfl⟩) | (go_at_call 53; refine (l02Allowed_any G A1 n1 c1 B ms p ac at_ (w.drewN q) hp1 (h.1.drewN q) (by omega)).mono ?_; rw [ha]; rintro e w' ⟨rfl, rfl⟩))
          go_ret
          exact ⟨ret_bool HA.out.symm, q, rfl⟩
        | true =>
          have hmem : p ∈ mids ms := allow_mem ha
          obtain ⟨bm, hbm⟩ : ∃ m, findM ms p = some m := by
            cases hf : findM ms p with
            | none => exact absurd hmem (findM_none.1 hf)
            | some m => exact ⟨m, rfl⟩
          cases hf : findM ms t with
          | none =>
            have HA := Lib.hid (show aboveB ms vs bs p t ac at_ = true by simp [aboveB, hb, hpt, hi, ha, rankB, hf])
            have HN := Lib.hid (findM_none.1 hf)
            go_enter Tryz.func68, Tryz.ntmps68
            go_wp2_with (first | (go_at_call 52; refine cI.mono ?_; rintro e w' ⟨rfl, q, rfl⟩) | (go_at_call 74; refine (l02Id_b _ _ _ hi).mono ?_; rintro e w' ⟨rfl, rfl⟩) | (go_at_call 53; refine (l02Allowed_any G A1 n1 c1 B ms p ac at_ (w.drewN q) hp1 (h.1.drewN q) (by omega)).mono ?_; rw [ha]; rintro e w' ⟨rfl, rfl⟩) | (go_at_call 70; refine (l02Find_no G A1 n1 c1 B ms t (w.drewN q) hp1 (h.1.drewN q) (by omega) HN.out).mono ?_; rintro e w' ⟨rfl, rfl⟩))
            go_region
            go_wp2
            go_ret
            exact ⟨ret_bool HA.out.symm, q + 1, rfl⟩
          | some m =>
            have HA := Lib.hid (show aboveB ms vs bs p t ac at_ = decide (m.role < bm.role) by simp [aboveB, hb, hpt, hi, ha, rankB, hf, hbm])
            obtain ⟨K, hz, hK, hKf⟩ := find_split hf
            obtain ⟨K', hz', hK', hKf'⟩ := find_split hbm
            have hl := h.1.1
            have hKn : K < n1 := by rw [← hl]; exact (List.getElem?_eq_some_iff.1 hz).1
            have hKn' : K' < n1 := by rw [← hl]; exact (List.getElem?_eq_some_iff.1 hz').1
            obtain ⟨b, off, rfl, hbB, hcs⟩ := h.1.2 (by omega)
            have d1 : w.cell? ⟨b, off + K * 4 + 1, none⟩ = some (.int .i64 m.role) := hcs K m hz 1 _ rfl
            have d2 : w.cell? ⟨b, off + K' * 4 + 1, none⟩ = some (.int .i64 bm.role) := hcs K' bm hz' 1 _ rfl
            have HK := Lib.hid (And.intro hK hKf)
            have HK' := Lib.hid (And.intro hK' hKf')
            have e0 : ¬ ((K : Int) < 0) := by omega
            have e1 : (K : Int) < (n1 : Int) := by omega
            have e2 : (0 : Int) ≤ (K' : Int) := by omega
            have e3 : (K' : Int) < (n1 : Int) := by omega
            have HH := Lib.hid h.1
            clear hK hKf hK' hKf' hz hz' hf hbm hcs hl h
            go_enter Tryz.func68, Tryz.ntmps68
            go_wp2_with (first | (go_at_call 52; refine cI.mono ?_; rintro e w' ⟨rfl, q, rfl⟩) | (go_at_call 74; refine (l02Id_b _ _ _ hi).mono ?_; rintro e w' ⟨rfl, rfl⟩) | (go_at_call 53; refine (l02Allowed_any G _ n1 c1 B ms p ac at_ (w.drewN q) hp1 (HH.out.drewN q) (by omega)).mono ?_; rw [ha]; rintro e w' ⟨rfl, rfl⟩) | (go_at_call 70; refine (l02Find_at G _ n1 c1 B ms t (w.drewN q) hp1 (HH.out.drewN q) (by omega) K HK.out.1 HK.out.2).mono ?_; rintro e w' ⟨rfl, rfl⟩))
            go_region_held3 (fun w' => w'.cell? ⟨G, 1, none⟩ = some (.slice (some ⟨b, off, none⟩) n1 c1) ∧ w'.cell? ⟨b, off + K * 4 + 1, none⟩ = some (.int .i64 m.role) ∧ w'.cell? ⟨b, off + K' * 4 + 1, none⟩ = some (.int .i64 bm.role))
              (exact ⟨hp1, d1, d2⟩)
              ((go_at_call 70; refine (l02Find_at G _ n1 c1 B ms p (w.drewN (q + 1)) hp1 (HH.out.drewN (q + 1)) (by omega) K' HK'.out.1 HK'.out.2).mono ?_; rintro e w' ⟨rfl, rfl⟩))
            go_wp2
            go_ret
            exact ⟨ret_bool HA.out.symm, q + 1, rfl⟩
end Go.Proofs.YtbamhnbmddopgaaGreatDoor
namespace Go.Proofs.YtbamhnbmddopgaaGreatDoor
open Go.ChangeShapes Go.WideShapes Go.ChangeAt Go.RowKit
open Go.ChangeMaps (open_string shut_string)
set_option linter.unusedVariables false
set_option maxRecDepth 100000
theorem l02Give_yes (o : Bool) (A1 A2 A3 : Option Addr) (n1 c1 n2 c2 n3 c3 : Nat) (ms : List Mb) (vs : List Iv) (bs : List Bn) (w : World)
    (h : RoomAt w w.heap.size A1 n1 A2 n2 A3 n3 ms vs bs) (hn : n1 + n2 + n3 ≤ 1048576) (hb : roomB ms vs bs = true) :
    Calls Tryz.prog 73 #[.agg #[.bool o, .slice A1 n1 c1, .slice A2 n2 c2, .slice A3 n3 c3]] w fun e w' => e = .returned (.tuple #[.agg #[.bool o, .slice A1 n1 c1, .slice A2 n2 c2, .slice A3 n3 c3], .bool true]) ∧ Below w.heap.size w w' := by
  go_enter Tryz.func73, Tryz.ntmps73
  go_wp2_with fail
  obtain ⟨k0, k1, hb0⟩ := two_boxes w 32 32 #[.bool o, .slice A1 n1 c1, .slice A2 n2 c2, .slice A3 n3 c3] #[.bool false, .slice none 0 0, .slice none 0 0, .slice none 0 0]
  generalize ((w.alloc (.cells #[.bool o, .slice A1 n1 c1, .slice A2 n2 c2, .slice A3 n3 c3] 32)).alloc (.cells #[.bool false, .slice none 0 0, .slice none 0 0, .slice none 0 0] 32)) = W at *
  have h := h.to hb0
  go_at_call 52; refine (l02Is_any _ _ _ _ _ _ _ _ _ _ _ _ _ _ _ (k0.cell 1) (k0.cell 2) (k0.cell 3) h hn).mono ?_; rw [hb]; rintro e w' ⟨rfl, q, rfl⟩
  have k0 := k0.drewN q
  have k1 := k1.drewN q
  have hb0 : Below w.heap.size w (W.drewN q) := hb0.trans (Below.mono (drew_below ⟨q, rfl⟩) hb0.size)
  have l0 := k0.cell 0; have l1 := k0.cell 1; have l2 := k0.cell 2; have l3 := k0.cell 3
  have r0 := k1.cell 0; have r1 := k1.cell 1; have r2 := k1.cell 2; have r3 := k1.cell 3
  have f0 := k1.frozen 0; have f1 := k1.frozen 1; have f2 := k1.frozen 2; have f3 := k1.frozen 3
  generalize W.drewN q = W' at *
  go_wp2
  exact bodyPost_ret (v := .tuple #[.agg #[.bool o, .slice A1 n1 c1, .slice A2 n2 c2, .slice A3 n3 c3], .bool true]) (by simp [results, Tryz.results73, go_sem, r0, r1, r2, r3]) rfl ⟨rfl, (((hb0.setCell (by simp) _).setCell (by simp) _).setCell (by simp) _).setCell (by simp) _⟩
theorem l02Give_no (o : Bool) (A1 A2 A3 : Option Addr) (n1 c1 n2 c2 n3 c3 : Nat) (ms : List Mb) (vs : List Iv) (bs : List Bn) (w : World)
    (h : RoomAt w w.heap.size A1 n1 A2 n2 A3 n3 ms vs bs) (hn : n1 + n2 + n3 ≤ 1048576) (hb : roomB ms vs bs = false) :
    Calls Tryz.prog 73 #[.agg #[.bool o, .slice A1 n1 c1, .slice A2 n2 c2, .slice A3 n3 c3]] w fun e w' => e = .returned (.tuple #[.agg #[.bool false, .slice none 0 0, .slice none 0 0, .slice none 0 0], .bool false]) ∧ Below w.heap.size w w' := by
  go_enter Tryz.func73, Tryz.ntmps73
  go_wp2_with fail
  obtain ⟨k0, k1, hb0⟩ := two_boxes w 32 32 #[.bool o, .slice A1 n1 c1, .slice A2 n2 c2, .slice A3 n3 c3] #[.bool false, .slice none 0 0, .slice none 0 0, .slice none 0 0]
  generalize ((w.alloc (.cells #[.bool o, .slice A1 n1 c1, .slice A2 n2 c2, .slice A3 n3 c3] 32)).alloc (.cells #[.bool false, .slice none 0 0, .slice none 0 0, .slice none 0 0] 32)) = W at *
  have h := h.to hb0
  go_at_call 52; refine (l02Is_any _ _ _ _ _ _ _ _ _ _ _ _ _ _ _ (k0.cell 1) (k0.cell 2) (k0.cell 3) h hn).mono ?_; rw [hb]; rintro e w' ⟨rfl, q, rfl⟩
  have k1 := k1.drewN q
  have hb0 : Below w.heap.size w (W.drewN q) := hb0.trans (Below.mono (drew_below ⟨q, rfl⟩) hb0.size)
  have r0 := k1.cell 0; have r1 := k1.cell 1; have r2 := k1.cell 2; have r3 := k1.cell 3
  have f0 := k1.frozen 0; have f1 := k1.frozen 1; have f2 := k1.frozen 2; have f3 := k1.frozen 3
  generalize W.drewN q = W' at *
  go_wp2
  exact bodyPost_ret (v := .tuple #[.agg #[.bool false, .slice none 0 0, .slice none 0 0, .slice none 0 0], .bool false]) (by simp [results, Tryz.results73, go_sem, r0, r1, r2, r3]) rfl ⟨rfl, (((hb0.setCell (by simp) _).setCell (by simp) _).setCell (by simp) _).setCell (by simp) _⟩
theorem flat_cells {α : Type} {sz : Nat} {f : α → List Value} {w : World} {B n : Nat} {a : Addr} {xs : List α} (hf : ∀ x, (f x).length = sz) (hsz : 0 < sz) (h : SRow sz f w B (some a) n xs) :
    ∀ (j : Nat) (u : Value), (xs.flatMap f)[j]? = some u → w.cell? (a.add j) = some u := by
  intro j u hu
  have hj : j < xs.length * sz := by
    have := (List.getElem?_eq_some_iff.1 hu).1
    rw [flat_len hf] at this
    exact this
  have hd : j / sz < xs.length := Nat.div_lt_of_lt_mul (by rw [Nat.mul_comm]; exact hj)
  have hz : xs[j / sz]? = some xs[j / sz] := List.getElem?_eq_getElem hd
  obtain ⟨b, off, e, hb, hc⟩ := h.2 (by rw [← h.1]; exact Nat.lt_of_le_of_lt (Nat.zero_le _) hd)
  injection e with e
  subst e
  have e2 : j / sz * sz + j % sz = j := Nat.div_add_mod' j sz
  have hg := flat_get hf xs (j / sz) _ hz (j % sz) (Nat.mod_lt _ hsz)
  rw [e2, hu] at hg
  have := hc (j / sz) _ hz (j % sz) u hg.symm
  rw [Nat.add_assoc, e2] at this
  clear hg e2 hz hd hj hu
  cases j <;> simpa [Addr.add] using this
theorem mbC_cells (xs : List Mb) : ∀ u ∈ xs.flatMap mbC, u.oneCell' = true := by
  intro u hu
  obtain ⟨z, _, hz⟩ := List.mem_flatMap.1 hu
  simp [mbC] at hz
  rcases hz with rfl | rfl | rfl | rfl <;> rfl
theorem ivC_cells (xs : List Iv) : ∀ u ∈ xs.flatMap ivC, u.oneCell' = true := by
  intro u hu
  obtain ⟨z, _, hz⟩ := List.mem_flatMap.1 hu
  simp [ivC] at hz
  rcases hz with rfl | rfl | rfl <;> rfl
theorem bnC_cells (xs : List Bn) : ∀ u ∈ xs.flatMap bnC, u.oneCell' = true := by
  intro u hu
  obtain ⟨z, _, hz⟩ := List.mem_flatMap.1 hu
  simp [bnC] at hz
  rcases hz with rfl | rfl <;> rfl
/-- the shape of a row that is one's own -/
theorem own_form {w : World} {base e size n : Nat} {v : Value} {xs : List Value} (h : w.ownsRow base e size v n xs) : ∃ A c, v = .slice A n c := by
  rcases h.2 with ⟨rfl, rfl⟩ | ⟨g, cap, cur, rfl, _⟩
  · exact ⟨_, _, rfl⟩
  · exact ⟨_, _, rfl⟩
end Go.Proofs.YtbamhnbmddopgaaGreatDoor
namespace Go.Proofs.YtbamhnbmddopgaaGreatDoor
open Go.ChangeShapes Go.WideShapes Go.ChangeAt Go.RowKit
open Go.ChangeMaps (open_string shut_string)
set_option linter.unusedVariables false
set_option maxRecDepth 100000
theorem own_far4 {w : World} {base e size n g : Nat} {v : Value} {xs : List Value} (h : w.ownsRow base e size v n xs) (hne : some g ≠ v.ownBlock) (i j k l : Nat) (v0 v1 v2 v3 : Value) :
    ((((w.setCell ⟨g, i, none⟩ v0).setCell ⟨g, j, none⟩ v1).setCell ⟨g, k, none⟩ v2).setCell ⟨g, l, none⟩ v3).ownsRow base e size v n xs :=
  ownsRow_setCell_other (ownsRow_setCell_other (ownsRow_setCell_other (ownsRow_setCell_other h (fun e => hne e.symm) _) (fun e => hne e.symm) _) (fun e => hne e.symm) _) (fun e => hne e.symm) _
theorem sz_set (w : World) (a : Addr) (v : Value) : (w.setCell a v).heap.size = w.heap.size := by simp
theorem sz_alloc (w : World) (x : Obj) : (w.alloc x).heap.size = w.heap.size + 1 := by simp
set_option maxHeartbeats 1600000 in
theorem l02Copy_any (G n1 c1 n2 c2 n3 c3 : Nat) (a1 a2 a3 : Addr) (o : Bool) (ms : List Mb) (vs : List Iv) (bs : List Bn) (w : World) (k : Blk w G 32 #[.bool o, .slice (some a1) n1 c1, .slice (some a2) n2 c2, .slice (some a3) n3 c3])
    (h : RoomAt w w.heap.size (some a1) n1 (some a2) n2 (some a3) n3 ms vs bs) (hn : n1 + n2 + n3 ≤ 1048576) :
    Calls Tryz.prog 54 #[.pointer (some ⟨G, 0, none⟩)] w fun e w' => ∃ A1 d1 A2 d2 A3 d3, e = .returned (.agg #[.bool o, .slice A1 n1 d1, .slice A2 n2 d2, .slice A3 n3 d3]) ∧
      RoomOwn w' w.heap.size A1 n1 d1 A2 n2 d2 A3 n3 d3 ms vs bs ∧ Below w.heap.size w w' := by
  obtain ⟨i1, hi1, hx0, hx1, hx2⟩ := info_parts Tryz.info_Member
  obtain ⟨i2, hi2, hy0, hy1, hy2⟩ := info_parts Tryz.info_Invite
  obtain ⟨i3, hi3, hz0, hz1, hz2⟩ := info_parts Tryz.info_Ban
  have HL1 := Lib.hid h.1.1; have HL2 := Lib.hid h.2.1.1; have HL3 := Lib.hid h.2.2.1
  have hG := k.lt
  obtain ⟨q0, q1, hb0⟩ := two_boxes w 32 32 #[.bool false, .slice none 0 0, .slice none 0 0, .slice none 0 0] #[.bool o, .slice none 0 0, .slice none 0 0, .slice none 0 0]
  have lA : (w.alloc (.cells #[.bool false, .slice none 0 0, .slice none 0 0, .slice none 0 0] 32)).cell? ⟨G, 0, none⟩ = some (.bool o) := (k.alloc _).cell 0
  go_enter Tryz.func54, Tryz.ntmps54
  have kB := k.below hb0 hG
  have hB := h.to hb0
  have z0 := hb0.size
  have ho := World.ownsRow_made ((w.alloc (.cells #[.bool false, .slice none 0 0, .slice none 0 0, .slice none 0 0] 32)).alloc (.cells #[.bool o, .slice none 0 0, .slice none 0 0, .slice none 0 0] 32)) (base := w.heap.size) (e := 89) (size := 4) #[] 0 z0 (by decide) rfl
  simp only [sz_alloc] at ho
  have hbC := hb0.alloc z0 (.cells #[] 89)
  have kC := kB.alloc (.cells #[] 89)
  have qC := q1.alloc (.cells #[] 89)
  have rC := q0.alloc (.cells #[] 89)
  have hC := hB.alloc (.cells #[] 89)
  have lC := kC.cell 1
  have zC := hbC.size
  clear hB kB q0 q1
  have HN1 := Lib.hid (And.intro (flat_cells (f := mbC) mbC_len (by decide) hC.1) (And.intro (show (ms.flatMap mbC).length = n1 * 4 by rw [flat_len mbC_len, HL1.out]) (show (vs.flatMap ivC).length = n2 * 3 by rw [flat_len ivC_len, HL2.out])))
  have HN3 := Lib.hid (show (bs.flatMap bnC).length = n3 * 2 by rw [flat_len bnC_len, HL3.out])
  go_wp2_with (at_builtin; first
    | (refine wpList_append_own _ rfl (.tmp 9) (.tmp 13) 28 rfl w.heap.size 89 i1 (.agg #[.int .i64 0, .int .i64 0, .int .i64 0, .int .i64 0]) 4 32 Tryz.underlying28 hi1 hx0 hx1 hx2 rfl (by decide) (.slice (some ⟨w.heap.size + 1 + 1, 0, none⟩) 0 0) 0 [] rfl ho a1 n1 c1 (ms.flatMap mbC) rfl HN1.out.2.1 HN1.out.1 (mbC_cells ms) (by unfold maxLen; omega) (by omega) (by simp; omega) ?_; intro v1 w1 ho1 hg1 _
       rw [Nat.zero_add, List.nil_append] at ho1
       obtain ⟨B1, d1, rfl⟩ := own_form ho1
       have kD := kC.grown hg1 (by intro e; simp [Value.ownBlock] at e; clear HN1; omega)
       have qD := qC.grown hg1 (by intro e; simp [Value.ownBlock] at e)
       have rD := rC.grown hg1 (by intro e; simp [Value.ownBlock] at e; omega)
       have hbD := hbC.grown hg1 zC (fun g hg => (ho.lt g hg).1)
       have hD := (h.below hbD).more hbD.size
       have x1 := qD.cell 1
       have y1 := qD.frozen 1
       have nq1 : some (w.heap.size + 1) ≠ (Value.slice B1 n1 d1).ownBlock := blk_apart qD ho1 (by decide)
       have zD := hbD.size
       have lt1 := qD.lt
       have kE := (kD.far (p := ⟨w.heap.size + 1, 1, none⟩) (by simp; omega) (.slice B1 n1 d1)).alloc (.cells #[] 54)
       have qE := (qD.set_ 1 (.slice B1 n1 d1)).alloc (.cells #[] 54)
       have rE := (rD.far (p := ⟨w.heap.size + 1, 1, none⟩) (by simp) (.slice B1 n1 d1)).alloc (.cells #[] 54)
       have hbE := (hbD.setCell (p := ⟨w.heap.size + 1, 1, none⟩) (by simp) (.slice B1 n1 d1)).alloc (by simp; omega) (.cells #[] 54)
       have oE := (ownsRow_setCell_other ho1 (a := ⟨w.heap.size + 1, 1, none⟩) (fun e => nq1 e.symm) (.slice B1 n1 d1)).alloc (.cells #[] 54)
       have ho2 := World.ownsRow_made (w1.setCell ⟨w.heap.size + 1, 1, none⟩ (.slice B1 n1 d1)) (base := w.heap.size) (e := 54) (size := 3) #[] 0 (by simp; omega) (by decide) rfl
       simp only [sz_set] at ho2
       have lE := kE.cell 2
       have zE := hbE.size
       have hE := (h.below hbE).more hbE.size
       have NE := Lib.hid (flat_cells (f := ivC) ivC_len (by decide) hE.2.1)
       clear hg1 kD qD rD ho ho1 kC qC rC hbC hC hD hbD)
    | (refine wpList_append_own _ rfl (.tmp 16) (.tmp 20) 29 rfl w.heap.size 54 i2 (.agg #[.int .i64 0, .int .i64 0, .int .i64 0]) 3 24 Tryz.underlying29 hi2 hy0 hy1 hy2 rfl (by decide) (.slice (some ⟨w1.heap.size, 0, none⟩) 0 0) 0 [] rfl ho2 a2 n2 c2 (vs.flatMap ivC) rfl HN1.out.2.2 NE.out (ivC_cells vs) (by unfold maxLen; omega) (by omega) (by simp; omega) ?_; intro v2 w2 ho3 hg2 _
       rw [Nat.zero_add, List.nil_append] at ho3
       obtain ⟨B2, d2, rfl⟩ := own_form ho3
       have kF := kE.grown hg2 (by intro e; simp [Value.ownBlock] at e; omega)
       have qF := qE.grown hg2 (by intro e; simp [Value.ownBlock] at e; omega)
       have rF := rE.grown hg2 (by intro e; simp [Value.ownBlock] at e; omega)
       have hbF := hbE.grown hg2 zE (fun g hg => (ho2.lt g hg).1)
       have oF := oE.kept hg2 (own_types2 oE ho2 (by decide))
       have x2 := qF.cell 2
       have y2 := qF.frozen 2
       have nq2 : some (w.heap.size + 1) ≠ (Value.slice B2 n2 d2).ownBlock := blk_apart qF ho3 (by decide)
       have nq1 : some (w.heap.size + 1) ≠ (Value.slice B1 n1 d1).ownBlock := blk_apart qF oF (by decide)
       have zF := hbF.size
       have lt2 := qF.lt
       have kG := (kF.far (p := ⟨w.heap.size + 1, 2, none⟩) (by simp; omega) (.slice B2 n2 d2)).alloc (.cells #[] 56)
       have qG := (qF.set_ 2 (.slice B2 n2 d2)).alloc (.cells #[] 56)
       have rG := (rF.far (p := ⟨w.heap.size + 1, 2, none⟩) (by simp) (.slice B2 n2 d2)).alloc (.cells #[] 56)
       have hbG := (hbF.setCell (p := ⟨w.heap.size + 1, 2, none⟩) (by simp) (.slice B2 n2 d2)).alloc (by simp; omega) (.cells #[] 56)
       have oG := (ownsRow_setCell_other oF (a := ⟨w.heap.size + 1, 2, none⟩) (fun e => nq1 e.symm) (.slice B2 n2 d2)).alloc (.cells #[] 56)
       have oG2 := (ownsRow_setCell_other ho3 (a := ⟨w.heap.size + 1, 2, none⟩) (fun e => nq2 e.symm) (.slice B2 n2 d2)).alloc (.cells #[] 56)
       have ho4 := World.ownsRow_made (w2.setCell ⟨w.heap.size + 1, 2, none⟩ (.slice B2 n2 d2)) (base := w.heap.size) (e := 56) (size := 2) #[] 0 (by simp; omega) (by decide) rfl
       simp only [sz_set] at ho4
       have lG := kG.cell 3
       have zG := hbG.size
       have hG := (h.below hbG).more hbG.size
       have NG := Lib.hid (flat_cells (f := bnC) bnC_len (by decide) hG.2.2)
       clear hg2 kE qE rE kF qF rF hbE hbF oE oF ho2 ho3 hE)
    | (refine wpList_append_own _ rfl (.tmp 23) (.tmp 27) 30 rfl w.heap.size 56 i3 (.agg #[.int .i64 0, .int .i64 0]) 2 16 Tryz.underlying30 hi3 hz0 hz1 hz2 rfl (by decide) (.slice (some ⟨w2.heap.size, 0, none⟩) 0 0) 0 [] rfl ho4 a3 n3 c3 (bs.flatMap bnC) rfl HN3.out NG.out (bnC_cells bs) (by unfold maxLen; omega) (by omega) (by simp; omega) ?_; intro v3 w3 ho5 hg3 _
       rw [Nat.zero_add, List.nil_append] at ho5
       obtain ⟨B3, d3, rfl⟩ := own_form ho5
       have qH := qG.grown hg3 (by intro e; simp [Value.ownBlock] at e; omega)
       have rH := rG.grown hg3 (by intro e; simp [Value.ownBlock] at e; omega)
       have hbH := hbG.grown hg3 zG (fun g hg => (ho4.lt g hg).1)
       have oH := oG.kept hg3 (own_types2 oG ho4 (by decide))
       have oH2 := oG2.kept hg3 (own_types2 oG2 ho4 (by decide))
       have x3 := qH.cell 3
       have y3 := qH.frozen 3
       have nq3 : some (w.heap.size + 1) ≠ (Value.slice B3 n3 d3).ownBlock := blk_apart qH ho5 (by decide)
       have nq2 : some (w.heap.size + 1) ≠ (Value.slice B2 n2 d2).ownBlock := blk_apart qH oH2 (by decide)
       have nq1 : some (w.heap.size + 1) ≠ (Value.slice B1 n1 d1).ownBlock := blk_apart qH oH (by decide)
       have lt3 := qH.lt
       have qI := qH.set_ 3 (.slice B3 n3 d3)
       have rI := rH.far (p := ⟨w.heap.size + 1, 3, none⟩) (by simp) (.slice B3 n3 d3)
       have hbI := hbH.setCell (p := ⟨w.heap.size + 1, 3, none⟩) (by simp) (.slice B3 n3 d3)
       have oI := ownsRow_setCell_other oH (a := ⟨w.heap.size + 1, 3, none⟩) (fun e => nq1 e.symm) (.slice B3 n3 d3)
       have oI2 := ownsRow_setCell_other oH2 (a := ⟨w.heap.size + 1, 3, none⟩) (fun e => nq2 e.symm) (.slice B3 n3 d3)
       have oI3 := ownsRow_setCell_other ho5 (a := ⟨w.heap.size + 1, 3, none⟩) (fun e => nq3 e.symm) (.slice B3 n3 d3)
       have e0 := qI.cell 0; have e1 := qI.cell 1; have e2 := qI.cell 2; have e3 := qI.cell 3
       have r0 := rI.cell 0; have r1 := rI.cell 1; have r2 := rI.cell 2; have r3 := rI.cell 3
       have f0 := rI.frozen 0; have f1 := rI.frozen 1; have f2 := rI.frozen 2; have f3 := rI.frozen 3
       clear hg3 kG qG rG qH rH hbG hbH oG oG2 oH oH2 ho4 ho5)
    | fail)
  have m1 : some w.heap.size ≠ (Value.slice B1 n1 d1).ownBlock := blk_apart rI oI (by decide)
  have m2 : some w.heap.size ≠ (Value.slice B2 n2 d2).ownBlock := blk_apart rI oI2 (by decide)
  have m3 : some w.heap.size ≠ (Value.slice B3 n3 d3).ownBlock := blk_apart rI oI3 (by decide)
  refine bodyPost_ret (v := .agg #[.bool o, .slice B1 n1 d1, .slice B2 n2 d2, .slice B3 n3 d3]) (by simp [results, Tryz.results54, go_sem, r0, r1, r2, r3]) rfl ?_
  exact ⟨_, _, _, _, _, _, rfl, ⟨own_far4 oI m1 _ _ _ _ _ _ _ _, own_far4 oI2 m2 _ _ _ _ _ _ _ _, own_far4 oI3 m3 _ _ _ _ _ _ _ _⟩, below_set4 hbI (Nat.le_refl _) _ _ _ _ _ _ _ _⟩
end Go.Proofs.YtbamhnbmddopgaaGreatDoor
namespace Go.Proofs.YtbamhnbmddopgaaGreatDoor
open Go.ChangeShapes Go.WideShapes Go.ChangeAt Go.RowKit
open Go.ChangeMaps (open_string shut_string)
set_option linter.unusedVariables false
set_option maxRecDepth 100000
theorem roomOut_yes {w w' : World} {r : ROut} {A1 A2 A3 : Option Addr} {n1 c1 n2 c2 n3 c3 : Nat} (h : RoomOwn w' w.heap.size A1 n1 c1 A2 n2 c2 A3 n3 c3 r.ms r.vs r.bs) (hb : Below w.heap.size w w') (hn : n1 + n2 + n3 ≤ 1048576) :
    RoomOut r w (.returned (.tuple #[.agg #[.bool r.o, .slice A1 n1 c1, .slice A2 n2 c2, .slice A3 n3 c3], .bool r.ok])) w' := ⟨_, _, _, _, _, _, _, _, _, rfl, h, hb, hn⟩
theorem RoomOwn.far4 {w : World} {base n1 c1 n2 c2 n3 c3 g : Nat} {A1 A2 A3 : Option Addr} {ms : List Mb} {vs : List Iv} {bs : List Bn} (h : RoomOwn w base A1 n1 c1 A2 n2 c2 A3 n3 c3 ms vs bs) {cs : Array Value} (hk : Blk w g 32 cs) (i j k l : Nat) (v0 v1 v2 v3 : Value) :
    RoomOwn ((((w.setCell ⟨g, i, none⟩ v0).setCell ⟨g, j, none⟩ v1).setCell ⟨g, k, none⟩ v2).setCell ⟨g, l, none⟩ v3) base A1 n1 c1 A2 n2 c2 A3 n3 c3 ms vs bs :=
  ⟨own_far4 h.1 (blk_apart hk h.1 (by decide)) _ _ _ _ _ _ _ _, own_far4 h.2.1 (blk_apart hk h.2.1 (by decide)) _ _ _ _ _ _ _ _, own_far4 h.2.2 (blk_apart hk h.2.2 (by decide)) _ _ _ _ _ _ _ _⟩
theorem RoomOwn.far {w : World} {base n1 c1 n2 c2 n3 c3 g : Nat} {A1 A2 A3 : Option Addr} {ms : List Mb} {vs : List Iv} {bs : List Bn} (h : RoomOwn w base A1 n1 c1 A2 n2 c2 A3 n3 c3 ms vs bs) {cs : Array Value} (hk : Blk w g 32 cs) (i : Nat) (v : Value) :
    RoomOwn (w.setCell ⟨g, i, none⟩ v) base A1 n1 c1 A2 n2 c2 A3 n3 c3 ms vs bs :=
  ⟨ownsRow_setCell_other h.1 (a := ⟨g, i, none⟩) (fun e => blk_apart hk h.1 (by decide) e.symm) v, ownsRow_setCell_other h.2.1 (a := ⟨g, i, none⟩) (fun e => blk_apart hk h.2.1 (by decide) e.symm) v, ownsRow_setCell_other h.2.2 (a := ⟨g, i, none⟩) (fun e => blk_apart hk h.2.2 (by decide) e.symm) v⟩
theorem RoomOwn.alloc {w : World} {base n1 c1 n2 c2 n3 c3 : Nat} {A1 A2 A3 : Option Addr} {ms : List Mb} {vs : List Iv} {bs : List Bn} (h : RoomOwn w base A1 n1 c1 A2 n2 c2 A3 n3 c3 ms vs bs) (x : Obj) : RoomOwn (w.alloc x) base A1 n1 c1 A2 n2 c2 A3 n3 c3 ms vs bs := ⟨h.1.alloc x, h.2.1.alloc x, h.2.2.alloc x⟩
set_option maxHeartbeats 1600000 in
theorem spec_OpenRoom_any (o : Bool) (a1 a2 a3 : Addr) (n1 c1 n2 c2 n3 c3 : Nat) (ms : List Mb) (vs : List Iv) (bs : List Bn) (p : Int) (n : Bool) (at_ : Int) (w : World)
    (h : RoomAt w w.heap.size (some a1) n1 (some a2) n2 (some a3) n3 ms vs bs) (hn : n1 + n2 + n3 ≤ 1048576) :
    Calls Tryz.prog 16 #[.agg #[.bool o, .slice (some a1) n1 c1, .slice (some a2) n2 c2, .slice (some a3) n3 c3], .int .i64 p, .bool n, .int .i64 at_] w (RoomOut (openS o ms vs bs p n at_) w) := by
  obtain ⟨rz, hrz⟩ : ∃ z, openS o ms vs bs p n at_ = z := ⟨_, rfl⟩
  have HZ := Lib.hid hrz
  rw [hrz]
  clear hrz
  go_enter Tryz.func16, Tryz.ntmps16
  go_wp2_with fail
  obtain ⟨k0, k1, hb0⟩ := two_boxes w 32 32 #[.bool o, .slice (some a1) n1 c1, .slice (some a2) n2 c2, .slice (some a3) n3 c3] #[.bool false, .slice none 0 0, .slice none 0 0, .slice none 0 0]
  generalize ((w.alloc (.cells #[.bool o, .slice (some a1) n1 c1, .slice (some a2) n2 c2, .slice (some a3) n3 c3] 32)).alloc (.cells #[.bool false, .slice none 0 0, .slice none 0 0, .slice none 0 0] 32)) = W at *
  have h := h.to hb0
  have cI := l02Is_any w.heap.size _ _ _ n1 c1 n2 c2 n3 c3 W.heap.size ms vs bs W (k0.cell 1) (k0.cell 2) (k0.cell 3) h hn
  have cA := fun q => l02Allowed_any w.heap.size _ n1 c1 W.heap.size ms p 8 at_ (W.drewN q) ((k0.drewN q).cell 1) (h.1.drewN q) (by omega)
  cases hb : (roomB ms vs bs && allowB ms p 8 at_) with
  | false =>
    have HR := Lib.hid (show rz = rNo by rw [← HZ.out, openS, if_neg (by simp [hb])])
    have fin : ∀ q, Below w.heap.size w (W.drewN q) := fun q => hb0.trans (Below.mono (drew_below ⟨q, rfl⟩) hb0.size)
    have k1q := fun q => k1.drewN q
    have r0 : ∀ q, (W.drewN q).cell? ⟨w.heap.size + 1, 0, none⟩ = some (.bool false) := fun q => (k1q q).cell 0
    have r1 : ∀ q, (W.drewN q).cell? ⟨w.heap.size + 1, 1, none⟩ = some (.slice none 0 0) := fun q => (k1q q).cell 1
    have r2 : ∀ q, (W.drewN q).cell? ⟨w.heap.size + 1, 2, none⟩ = some (.slice none 0 0) := fun q => (k1q q).cell 2
    have r3 : ∀ q, (W.drewN q).cell? ⟨w.heap.size + 1, 3, none⟩ = some (.slice none 0 0) := fun q => (k1q q).cell 3
    have f0 := k1.frozen 0; have f1 := k1.frozen 1; have f2 := k1.frozen 2; have f3 := k1.frozen 3
    cases hr : roomB ms vs bs with
    | false =>
      rw [hr] at cI
      go_wp2_with (go_at_call 52; refine cI.mono ?_; rintro e w' ⟨rfl, q, rfl⟩)
      refine bodyPost_ret (v := .tuple #[.agg #[.bool false, .slice none 0 0, .slice none 0 0, .slice none 0 0], .bool false]) (by simp [results, Tryz.results16, go_sem, r0, r1, r2, r3]) rfl ?_
      rw [HR.out]
      exact roomOut_no ((((fin q).setCell (by simp) _).setCell (by simp) _).setCell (by simp) _ |>.setCell (by simp) _)
    | true =>
      rw [hr] at cI
      rw [hr, Bool.true_and] at hb
      go_wp2_with (first | (go_at_call 52; refine cI.mono ?_; rintro e w' ⟨rfl, q, rfl⟩) | (go_at_call 53; refine (cA q).mono ?_; rw [hb]; rintro e w' ⟨rfl, rfl⟩))
      refine bodyPost_ret (v := .tuple #[.agg #[.bool false, .slice none 0 0, .slice none 0 0, .slice none 0 0], .bool false]) (by simp [results, Tryz.results16, go_sem, r0, r1, r2, r3]) rfl ?_
      rw [HR.out]
      exact roomOut_no ((((fin q).setCell (by simp) _).setCell (by simp) _).setCell (by simp) _ |>.setCell (by simp) _)
  | true =>
    have hb' := hb
    rw [Bool.and_eq_true] at hb'
    have HR := Lib.hid (show rz = ⟨n, ms, vs, bs, true⟩ by rw [← HZ.out, openS, if_pos hb])
    rw [hb'.1] at cI
    have ha := hb'.2
    clear hb hb'
    go_wp2_with (first | (go_at_call 52; refine cI.mono ?_; rintro e w' ⟨rfl, q, rfl⟩) | (go_at_call 53; refine (cA q).mono ?_; rw [ha]; rintro e w' ⟨rfl, rfl⟩))
    have z1 := k1.lt
    have hD : RoomAt (W.drewN q) (W.drewN q).heap.size (some a1) n1 (some a2) n2 (some a3) n3 ms vs bs := h
    have kD := k0.drewN q
    have k1D := k1.drewN q
    have hbD : Below w.heap.size w (W.drewN q) := hb0.trans (Below.mono (drew_below ⟨q, rfl⟩) hb0.size)
    have zD : w.heap.size + 1 < (W.drewN q).heap.size := z1
    clear h k0 k1 hb0 z1 cI cA
    generalize W.drewN q = W1 at *
    go_at_call 54; refine (l02Copy_any w.heap.size n1 c1 n2 c2 n3 c3 a1 a2 a3 o ms vs bs W1 kD hD hn).mono ?_; rintro e W2 ⟨B1, d1, B2, d2, B3, d3, rfl, hO, hb1⟩
    have k1 := k1D.below hb1 zD
    have hb0 := hbD.trans (hb1.mono hbD.size)
    have zE := k1.lt
    have hO := hO.mono (Nat.succ_le_of_lt zD)
    clear hb1 kD k1D hbD hD
    have s0 := k1.cell 0; have s1 := k1.cell 1; have s2 := k1.cell 2; have s3 := k1.cell 3
    have g0 := k1.frozen 0; have g1 := k1.frozen 1; have g2 := k1.frozen 2; have g3 := k1.frozen 3
    go_wp2
    refine bodyPost_ret (v := .tuple #[.agg #[.bool n, .slice B1 n1 d1, .slice B2 n2 d2, .slice B3 n3 d3], .bool true]) (by simp [results, Tryz.results16, go_sem, s0, s1, s2, s3, zE]) rfl ?_
    rw [HR.out]
    exact roomOut_yes (r := ⟨n, ms, vs, bs, true⟩) (((hO.far4 k1 _ _ _ _ _ _ _ _).alloc _).mono (by omega)) ((below_set4 hb0 (Nat.le_succ _) _ _ _ _ _ _ _ _).alloc (by simp; omega) _) hn
end Go.Proofs.YtbamhnbmddopgaaGreatDoor
namespace Go.Proofs.YtbamhnbmddopgaaGreatDoor
open Go.ChangeShapes Go.WideShapes Go.ChangeAt Go.RowKit
open Go.ChangeMaps (open_string shut_string)
set_option linter.unusedVariables false
set_option maxRecDepth 100000
theorem flat_set {α : Type} {sz : Nat} {f : α → List Value} (hf : ∀ x, (f x).length = sz) : ∀ (xs : List α) (K : Nat) (z z' : α) (i : Nat) (v : Value), xs[K]? = some z → i < sz → f z' = (f z).set i v → (xs.flatMap f).set (K * sz + i) v = (xs.set K z').flatMap f := by
  intro xs
  induction xs with
  | nil => intro K z z' i v h; simp at h
  | cons x r ih =>
    intro K z z' i v h hi hz
    cases K with
    | zero =>
      simp at h; subst h
      rw [List.set_cons_zero, List.flatMap_cons, List.flatMap_cons, Nat.zero_mul, Nat.zero_add, List.set_append_left _ _ (by rw [hf]; exact hi), hz]
    | succ K =>
      have h' : r[K]? = some z := by simpa using h
      have e : (K + 1) * sz + i = sz + (K * sz + i) := by rw [Nat.add_mul]; omega
      rw [List.set_cons_succ, List.flatMap_cons, List.flatMap_cons, e, List.set_append_right _ _ (by rw [hf]; omega), hf, Nat.add_sub_cancel_left, ih K z z' i v h' hi hz]
theorem set_alter {ms : List Mb} {K : Nat} {m : Mb} (f : Mb → Mb) (hr : Rise Mb.id ms) (hz : ms[K]? = some m) : ms.set K (f m) = alter m.id f ms := by
  apply List.ext_getElem?
  intro j
  rw [List.getElem?_set, alter, List.getElem?_map]
  have hK := (List.getElem?_eq_some_iff.1 hz).1
  by_cases hj : K = j
  · subst hj
    obtain ⟨hl, he⟩ := List.getElem?_eq_some_iff.1 hz
    simp [hl, he]
  · rw [if_neg hj]
    cases hx : ms[j]? with
    | none => rfl
    | some x =>
      have hne : x.id ≠ m.id := by
        obtain ⟨a1, e1⟩ := List.getElem?_eq_some_iff.1 hz
        obtain ⟨a2, e2⟩ := List.getElem?_eq_some_iff.1 hx
        rcases Nat.lt_or_gt_of_ne hj with hl | hl
        · have := List.pairwise_iff_getElem.1 hr K j a1 a2 hl
          rw [e1, e2] at this
          omega
        · have := List.pairwise_iff_getElem.1 hr j K a2 a1 hl
          rw [e1, e2] at this
          omega
      simp [hne]
theorem above_room {ms : List Mb} {vs : List Iv} {bs : List Bn} {p t a at_ : Int} (h : aboveB ms vs bs p t a at_ = true) : RoomV ms vs bs := by
  simp only [aboveB, Bool.and_eq_true] at h
  exact roomB_iff.1 h.1.1.1.1
theorem own_some {w : World} {base e size n c : Nat} {A : Option Addr} {xs : List Value} (h : w.ownsRow base e size (.slice A n c) n xs) (hn : 0 < n) : ∃ g, A = some ⟨g, 0, none⟩ ∧ base ≤ g := by
  rcases h.2 with ⟨hv, h0⟩ | ⟨g, cap, cur, hv, hg, _⟩
  · omega
  · injection hv with h1 h2 h3
    exact ⟨g, h1, hg⟩
theorem set_mem {α : Type} {xs : List α} {K : Nat} {z : α} : (xs.set K z).length = xs.length := by simp
end Go.Proofs.YtbamhnbmddopgaaGreatDoor
namespace Go.Proofs.YtbamhnbmddopgaaGreatDoor
open Go.ChangeShapes Go.WideShapes Go.ChangeAt Go.RowKit
open Go.ChangeMaps (open_string shut_string)
set_option linter.unusedVariables false
open Go.Maps
set_option maxRecDepth 100000
theorem drop_take_same {α : Type} {k : α → Int} {t : Int} {xs : List α} {n : Nat} {z : α} (hz : xs[n]? = some z) (h : k z = t) : dropK k t (xs.take (n + 1)) = dropK k t (xs.take n) := by
  rw [take_some hz]; simp [dropK, h]
theorem drop_take_next {α : Type} {k : α → Int} {t : Int} {xs : List α} {n : Nat} {z : α} (hz : xs[n]? = some z) (h : ¬ k z = t) : dropK k t (xs.take (n + 1)) = dropK k t (xs.take n) ++ [z] := by
  rw [take_some hz]; simp [dropK, h]
theorem drop_take_len {α : Type} {k : α → Int} {t : Int} (xs : List α) (n : Nat) : (dropK k t (xs.take n)).length ≤ n := Nat.le_trans drop_len (List.length_take_le _ _)
theorem one_cells (w : World) (t : TypeId) (cs : List Value) : ∀ (j : Nat) (u : Value), cs[j]? = some u → (w.alloc (.cells cs.toArray t)).cell? ((⟨w.heap.size, 0, none⟩ : Addr).add j) = some u := by
  intro j u h
  have := (Blk.new w t cs.toArray).cell j
  rw [List.getElem?_toArray, h] at this
  cases j <;> simpa [Addr.add] using this
set_option maxHeartbeats 1600000 in
theorem l02Rest_any (A : Option Addr) (n c : Nat) (xs : List Mb) (t : Int) (w : World) (h : SRow 4 mbC w w.heap.size A n xs) (hn : n ≤ 1048576) :
    Calls Tryz.prog 80 #[.slice A n c, .int .i64 t] w fun e w' => ∃ A' m c', e = .returned (.slice A' m c') ∧ m = (dropK Mb.id t xs).length ∧ w'.ownsRow w.heap.size 89 4 (.slice A' m c') m ((dropK Mb.id t xs).flatMap mbC) ∧ Below w.heap.size w w' := by
  obtain ⟨i0, hi, hz0, hz1, hz2⟩ := info_parts Tryz.info_Member
  have HL := Lib.hid h.1
  have ho := World.ownsRow_made w (base := w.heap.size) (e := 89) (size := 4) #[] 0 (Nat.le_refl _) (by decide) rfl
  have hb0 : Below w.heap.size w (w.alloc (.cells #[] 89)) := (Below.refl _ _).alloc (Nat.le_refl _) _
  go_enter Tryz.func80, Tryz.ntmps80
  go_wp2
  go_loopw [5, 6] (fun v i wr => ∃ k : Nat, k ≤ n ∧ i = .int .i64 k ∧ wr.ownsRow w.heap.size 89 4 v (dropK Mb.id t (xs.take k)).length ((dropK Mb.id t (xs.take k)).flatMap mbC) ∧ Below w.heap.size w wr) (fun _ i _ => n - (intOf i).toNat)
  case atStart => exact ⟨0, by omega, rfl, ho, hb0⟩
  case round =>
    obtain ⟨k, hk, rfl, hown, hbel⟩ := hrel
    clear ho hb0
    have hbs := hbel.size
    by_cases hlt : k < n
    · obtain ⟨b, off, z, rfl, hb, hz, c0, c1, c2, c3⟩ := h.atm hlt
      have d0 : wr.cell? ⟨b, off + k * 4, none⟩ = some (.int .i64 z.id) := (hbel.cell hb).trans c0
      have d1 : wr.cell? ⟨b, off + k * 4 + 1, none⟩ = some (.int .i64 z.role) := (hbel.cell hb).trans c1
      have d2 : wr.cell? ⟨b, off + k * 4 + 2, none⟩ = some (.int .i64 z.since) := (hbel.cell hb).trans c2
      have d3 : wr.cell? ⟨b, off + k * 4 + 3, none⟩ = some (.int .i64 z.quiet) := (hbel.cell hb).trans c3
      have hln := drop_take_len (k := Mb.id) (t := t) xs k
      clear c0 c1 c2 c3
      by_cases he : z.id = t
      · have HS := Lib.hid (drop_take_same hz he)
        have he' : (z.id != t) = false := by simp [he]
        clear hz he h
        go_wp2
        go_roundw
        case rel => exact ⟨k + 1, by omega, by go_num, by rw [HS.out]; exact hown, hbel⟩
        case measure => simp [intOf]; omega
      · have HS := Lib.hid (drop_take_next hz he)
        have he' : (z.id != t) = true := by simp [he]
        clear hz he h
        go_wp2_with (at_builtin; refine wpList_append_own _ rfl (.tmp 21) (.tmp 26) 28 rfl w.heap.size 89 i0 (.agg #[.int .i64 0, .int .i64 0, .int .i64 0, .int .i64 0]) 4 32 Tryz.underlying28 hi hz0 hz1 hz2 rfl (by decide) _ _ _ rfl (hown.alloc _) ⟨wr.heap.size, 0, none⟩ 1 1 [.int .i64 z.id, .int .i64 z.role, .int .i64 z.since, .int .i64 z.quiet] rfl rfl (one_cells wr _ _) (by intro u hu; simp at hu; rcases hu with rfl | rfl | rfl | rfl <;> rfl) (by unfold maxLen; omega) (by omega) (by simp; omega) ?_; intro v2 w2 ho2 hg2 _)
        have hb2 : Below w.heap.size w w2 := (hbel.alloc hbs _).grown hg2 (by simp; omega) (fun g hg => (hown.lt g hg).1)
        clear hg2 hown hbel d0 d1 d2 d3
        go_roundw
        case rel => exact ⟨k + 1, by omega, by go_num, by rw [HS.out, List.flatMap_append, List.length_append]; exact ho2, hb2⟩
        case measure => simp [intOf]; omega
    · have hkn : k = n := by omega
      subst hkn
      rw [List.take_of_length_le (by have := HL.out; omega)] at hown
      go_wp2
      go_ret
      obtain ⟨A', c', rfl⟩ := own_form hown
      exact ⟨A', _, c', rfl, rfl, hown, hbel⟩
set_option maxHeartbeats 1600000 in
theorem l02Without_any (A : Option Addr) (n c : Nat) (xs : List Iv) (t : Int) (w : World) (h : SRow 3 ivC w w.heap.size A n xs) (hn : n ≤ 1048576) :
    Calls Tryz.prog 72 #[.slice A n c, .int .i64 t] w fun e w' => ∃ A' m c', e = .returned (.slice A' m c') ∧ m = (dropK Iv.id t xs).length ∧ w'.ownsRow w.heap.size 54 3 (.slice A' m c') m ((dropK Iv.id t xs).flatMap ivC) ∧ Below w.heap.size w w' := by
  obtain ⟨i0, hi, hz0, hz1, hz2⟩ := info_parts Tryz.info_Invite
  have HL := Lib.hid h.1
  have ho := World.ownsRow_made w (base := w.heap.size) (e := 54) (size := 3) #[] 0 (Nat.le_refl _) (by decide) rfl
  have hb0 : Below w.heap.size w (w.alloc (.cells #[] 54)) := (Below.refl _ _).alloc (Nat.le_refl _) _
  go_enter Tryz.func72, Tryz.ntmps72
  go_wp2
  go_loopw [5, 6] (fun v i wr => ∃ k : Nat, k ≤ n ∧ i = .int .i64 k ∧ wr.ownsRow w.heap.size 54 3 v (dropK Iv.id t (xs.take k)).length ((dropK Iv.id t (xs.take k)).flatMap ivC) ∧ Below w.heap.size w wr) (fun _ i _ => n - (intOf i).toNat)
  case atStart => exact ⟨0, by omega, rfl, ho, hb0⟩
  case round =>
    obtain ⟨k, hk, rfl, hown, hbel⟩ := hrel
    clear ho hb0
    have hbs := hbel.size
    by_cases hlt : k < n
    · obtain ⟨b, off, z, rfl, hb, hz, c0, c1, c2⟩ := h.ativ hlt
      have d0 : wr.cell? ⟨b, off + k * 3, none⟩ = some (.int .i64 z.id) := (hbel.cell hb).trans c0
      have d1 : wr.cell? ⟨b, off + k * 3 + 1, none⟩ = some (.int .i64 z.byy) := (hbel.cell hb).trans c1
      have d2 : wr.cell? ⟨b, off + k * 3 + 2, none⟩ = some (.int .i64 z.til) := (hbel.cell hb).trans c2
      have hln := drop_take_len (k := Iv.id) (t := t) xs k
      clear c0 c1 c2
      by_cases he : z.id = t
      · have HS := Lib.hid (drop_take_same hz he)
        have he' : (z.id != t) = false := by simp [he]
        clear hz he h
        go_wp2
        go_roundw
        case rel => exact ⟨k + 1, by omega, by go_num, by rw [HS.out]; exact hown, hbel⟩
        case measure => simp [intOf]; omega
      · have HS := Lib.hid (drop_take_next hz he)
        have he' : (z.id != t) = true := by simp [he]
        clear hz he h
        go_wp2_with (at_builtin; refine wpList_append_own _ rfl (.tmp 21) (.tmp 26) 29 rfl w.heap.size 54 i0 (.agg #[.int .i64 0, .int .i64 0, .int .i64 0]) 3 24 Tryz.underlying29 hi hz0 hz1 hz2 rfl (by decide) _ _ _ rfl (hown.alloc _) ⟨wr.heap.size, 0, none⟩ 1 1 [.int .i64 z.id, .int .i64 z.byy, .int .i64 z.til] rfl rfl (one_cells wr _ _) (by intro u hu; simp at hu; rcases hu with rfl | rfl | rfl <;> rfl) (by unfold maxLen; omega) (by omega) (by simp; omega) ?_; intro v2 w2 ho2 hg2 _)
        have hb2 : Below w.heap.size w w2 := (hbel.alloc hbs _).grown hg2 (by simp; omega) (fun g hg => (hown.lt g hg).1)
        clear hg2 hown hbel d0 d1 d2
        go_roundw
        case rel => exact ⟨k + 1, by omega, by go_num, by rw [HS.out, List.flatMap_append, List.length_append]; exact ho2, hb2⟩
        case measure => simp [intOf]; omega
    · have hkn : k = n := by omega
      subst hkn
      rw [List.take_of_length_le (by have := HL.out; omega)] at hown
      go_wp2
      go_ret
      obtain ⟨A', c', rfl⟩ := own_form hown
      exact ⟨A', _, c', rfl, rfl, hown, hbel⟩
end Go.Proofs.YtbamhnbmddopgaaGreatDoor
