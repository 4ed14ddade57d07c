import Derived.Test.YtmnmmjobplbflaaGreatChecked
import Derived.WalkKit
import Derived.ProofKit
import Derived.OpenShut
import Derived.ShutString
import Derived.ChangeOld
import Derived.Below
import Derived.Lib.Hide
import Derived.Deep.RegionHeld3
import Derived.Test.YtmnmmjobplbflaaGreatZAllowS
import Derived.Test.YtmnmmjobplbflaaGreatJh
import Derived.Test.YtmnmmjobplbflaaGreatJf
namespace Go.Proofs.YtmnmmjobplbflaaGreat
open Go.ChangeShapes Go.WideShapes Go.ChangeAt Go.RowKit
open Go.ChangeMaps (open_string shut_string)
set_option linter.unusedVariables false
set_option maxRecDepth 100000
theorem find_split {ms : List Mb} {t : Int} {m : Mb} (h : findM ms t = some m) : ∃ K, ms[K]? = some m ∧ (mids ms)[K]? = some t ∧ NotIn (mids ms) t K := by
  obtain ⟨K, hK, hf⟩ := first_at (findM_mem h)
  obtain ⟨m', hz, hF, _⟩ := find_at hK hf
  rw [h] at hF
  injection hF with hF
  subst hF
  exact ⟨K, hz, hK, hf⟩
theorem above_no1 {ms : List Mb} {vs : List Iv} {bs : List Bn} {p t a at_ : Int} (h : roomB ms vs bs = false) : aboveB ms vs bs p t a at_ = false := by simp [aboveB, h]
end Go.Proofs.YtmnmmjobplbflaaGreat
namespace Go.Proofs.YtmnmmjobplbflaaGreat
open Go.ChangeShapes Go.WideShapes Go.ChangeAt Go.RowKit
open Go.ChangeMaps (open_string shut_string)
set_option linter.unusedVariables false
set_option maxRecDepth 100000
theorem flat_cells {α : Type} {sz : Nat} {f : α → List Value} {w : World} {B n : Nat} {a : Addr} {xs : List α} (hf : ∀ x, (f x).length = sz) (hsz : 0 < sz) (h : SRow sz f w B (some a) n xs) :
    ∀ (j : Nat) (u : Value), (xs.flatMap f)[j]? = some u → w.cell? (a.add j) = some u := by
  intro j u hu
  have hj : j < xs.length * sz := by
    have := (List.getElem?_eq_some_iff.1 hu).1
    rw [flat_len hf] at this
    exact this
  have hd : j / sz < xs.length := Nat.div_lt_of_lt_mul (by rw [Nat.mul_comm]; exact hj)
  have hz : xs[j / sz]? = some xs[j / sz] := List.getElem?_eq_getElem hd
  obtain ⟨b, off, e, hb, hc⟩ := h.2 (by rw [← h.1]; exact Nat.lt_of_le_of_lt (Nat.zero_le _) hd)
  injection e with e
  subst e
  have e2 : j / sz * sz + j % sz = j := Nat.div_add_mod' j sz
  have hg := flat_get hf xs (j / sz) _ hz (j % sz) (Nat.mod_lt _ hsz)
  rw [e2, hu] at hg
  have := hc (j / sz) _ hz (j % sz) u hg.symm
  rw [Nat.add_assoc, e2] at this
  clear hg e2 hz hd hj hu
  cases j <;> simpa [Addr.add] using this
theorem mbC_cells (xs : List Mb) : ∀ u ∈ xs.flatMap mbC, u.oneCell' = true := by
  intro u hu
  obtain ⟨z, _, hz⟩ := List.mem_flatMap.1 hu
  simp [mbC] at hz
  rcases hz with rfl | rfl | rfl | rfl <;> rfl
theorem ivC_cells (xs : List Iv) : ∀ u ∈ xs.flatMap ivC, u.oneCell' = true := by
  intro u hu
  obtain ⟨z, _, hz⟩ := List.mem_flatMap.1 hu
  simp [ivC] at hz
  rcases hz with rfl | rfl | rfl <;> rfl
theorem bnC_cells (xs : List Bn) : ∀ u ∈ xs.flatMap bnC, u.oneCell' = true := by
  intro u hu
  obtain ⟨z, _, hz⟩ := List.mem_flatMap.1 hu
  simp [bnC] at hz
  rcases hz with rfl | rfl <;> rfl
/-- the shape of a row that is one's own -/
theorem own_form {w : World} {base e size n : Nat} {v : Value} {xs : List Value} (h : w.ownsRow base e size v n xs) : ∃ A c, v = .slice A n c := by
  rcases h.2 with ⟨rfl, rfl⟩ | ⟨g, cap, cur, rfl, _⟩
  · exact ⟨_, _, rfl⟩
  · exact ⟨_, _, rfl⟩
end Go.Proofs.YtmnmmjobplbflaaGreat
namespace Go.Proofs.YtmnmmjobplbflaaGreat
open Go.ChangeShapes Go.WideShapes Go.ChangeAt Go.RowKit
open Go.ChangeMaps (open_string shut_string)
set_option linter.unusedVariables false
set_option maxRecDepth 100000
theorem own_far4 {w : World} {base e size n g : Nat} {v : Value} {xs : List Value} (h : w.ownsRow base e size v n xs) (hne : some g ≠ v.ownBlock) (i j k l : Nat) (v0 v1 v2 v3 : Value) :
    ((((w.setCell ⟨g, i, none⟩ v0).setCell ⟨g, j, none⟩ v1).setCell ⟨g, k, none⟩ v2).setCell ⟨g, l, none⟩ v3).ownsRow base e size v n xs :=
  ownsRow_setCell_other (ownsRow_setCell_other (ownsRow_setCell_other (ownsRow_setCell_other h (fun e => hne e.symm) _) (fun e => hne e.symm) _) (fun e => hne e.symm) _) (fun e => hne e.symm) _
theorem sz_set (w : World) (a : Addr) (v : Value) : (w.setCell a v).heap.size = w.heap.size := by simp
theorem sz_alloc (w : World) (x : Obj) : (w.alloc x).heap.size = w.heap.size + 1 := by simp
end Go.Proofs.YtmnmmjobplbflaaGreat
namespace Go.Proofs.YtmnmmjobplbflaaGreat
open Go.ChangeShapes Go.WideShapes Go.ChangeAt Go.RowKit
open Go.ChangeMaps (open_string shut_string)
set_option linter.unusedVariables false
set_option maxRecDepth 100000
theorem roomOut_yes {w w' : World} {r : ROut} {A1 A2 A3 : Option Addr} {n1 c1 n2 c2 n3 c3 : Nat} (h : RoomOwn w' w.heap.size A1 n1 c1 A2 n2 c2 A3 n3 c3 r.ms r.vs r.bs) (hb : Below w.heap.size w w') (hn : n1 + n2 + n3 ≤ 1048576) :
    RoomOut r w (.returned (.tuple #[.agg #[.bool r.o, .slice A1 n1 c1, .slice A2 n2 c2, .slice A3 n3 c3], .bool r.ok])) w' := ⟨_, _, _, _, _, _, _, _, _, rfl, h, hb, hn⟩
theorem RoomOwn.far4 {w : World} {base n1 c1 n2 c2 n3 c3 g : Nat} {A1 A2 A3 : Option Addr} {ms : List Mb} {vs : List Iv} {bs : List Bn} (h : RoomOwn w base A1 n1 c1 A2 n2 c2 A3 n3 c3 ms vs bs) {cs : Array Value} (hk : Blk w g 35 cs) (i j k l : Nat) (v0 v1 v2 v3 : Value) :
    RoomOwn ((((w.setCell ⟨g, i, none⟩ v0).setCell ⟨g, j, none⟩ v1).setCell ⟨g, k, none⟩ v2).setCell ⟨g, l, none⟩ v3) base A1 n1 c1 A2 n2 c2 A3 n3 c3 ms vs bs :=
  ⟨own_far4 h.1 (blk_apart hk h.1 (by decide)) _ _ _ _ _ _ _ _, own_far4 h.2.1 (blk_apart hk h.2.1 (by decide)) _ _ _ _ _ _ _ _, own_far4 h.2.2 (blk_apart hk h.2.2 (by decide)) _ _ _ _ _ _ _ _⟩
theorem RoomOwn.far {w : World} {base n1 c1 n2 c2 n3 c3 g : Nat} {A1 A2 A3 : Option Addr} {ms : List Mb} {vs : List Iv} {bs : List Bn} (h : RoomOwn w base A1 n1 c1 A2 n2 c2 A3 n3 c3 ms vs bs) {cs : Array Value} (hk : Blk w g 35 cs) (i : Nat) (v : Value) :
    RoomOwn (w.setCell ⟨g, i, none⟩ v) base A1 n1 c1 A2 n2 c2 A3 n3 c3 ms vs bs :=
  ⟨ownsRow_setCell_other h.1 (a := ⟨g, i, none⟩) (fun e => blk_apart hk h.1 (by decide) e.symm) v, ownsRow_setCell_other h.2.1 (a := ⟨g, i, none⟩) (fun e => blk_apart hk h.2.1 (by decide) e.symm) v, ownsRow_setCell_other h.2.2 (a := ⟨g, i, none⟩) (fun e => blk_apart hk h.2.2 (by decide) e.symm) v⟩
theorem RoomOwn.alloc {w : World} {base n1 c1 n2 c2 n3 c3 : Nat} {A1 A2 A3 : Option Addr} {ms : List Mb} {vs : List Iv} {bs : List Bn} (h : RoomOwn w base A1 n1 c1 A2 n2 c2 A3 n3 c3 ms vs bs) (x : Obj) : RoomOwn (w.alloc x) base A1 n1 c1 A2 n2 c2 A3 n3 c3 ms vs bs := ⟨h.1.alloc x, h.2.1.alloc x, h.2.2.alloc x⟩
end Go.Proofs.YtmnmmjobplbflaaGreat
namespace Go.Proofs.YtmnmmjobplbflaaGreat
open Go.ChangeShapes Go.WideShapes Go.ChangeAt Go.RowKit
open Go.ChangeMaps (open_string shut_string)
set_option linter.unusedVariables false
set_option maxRecDepth 100000
theorem flat_set {α : Type} {sz : Nat} {f : α → List Value} (hf : ∀ x, (f x).length = sz) : ∀ (xs : List α) (K : Nat) (z z' : α) (i : Nat) (v : Value), xs[K]? = some z → i < sz → f z' = (f z).set i v → (xs.flatMap f).set (K * sz + i) v = (xs.set K z').flatMap f := by
  intro xs
  induction xs with
  | nil => intro K z z' i v h; simp at h
  | cons x r ih =>
    intro K z z' i v h hi hz
    cases K with
    | zero =>
      simp at h; subst h
      rw [List.set_cons_zero, List.flatMap_cons, List.flatMap_cons, Nat.zero_mul, Nat.zero_add, List.set_append_left _ _ (by rw [hf]; exact hi), hz]
    | succ K =>
      have h' : r[K]? = some z := by simpa using h
      have e : (K + 1) * sz + i = sz + (K * sz + i) := by rw [Nat.add_mul]; omega
      rw [List.set_cons_succ, List.flatMap_cons, List.flatMap_cons, e, List.set_append_right _ _ (by rw [hf]; omega), hf, Nat.add_sub_cancel_left, ih K z z' i v h' hi hz]
theorem set_alter {ms : List Mb} {K : Nat} {m : Mb} (f : Mb → Mb) (hr : Rise Mb.id ms) (hz : ms[K]? = some m) : ms.set K (f m) = alter m.id f ms := by
  apply List.ext_getElem?
  intro j
  rw [List.getElem?_set, alter, List.getElem?_map]
  have hK := (List.getElem?_eq_some_iff.1 hz).1
  by_cases hj : K = j
  · subst hj
    obtain ⟨hl, he⟩ := List.getElem?_eq_some_iff.1 hz
    simp [hl, he]
  · rw [if_neg hj]
    cases hx : ms[j]? with
    | none => rfl
    | some x =>
      have hne : x.id ≠ m.id := by
        obtain ⟨a1, e1⟩ := List.getElem?_eq_some_iff.1 hz
        obtain ⟨a2, e2⟩ := List.getElem?_eq_some_iff.1 hx
        rcases Nat.lt_or_gt_of_ne hj with hl | hl
        · have := List.pairwise_iff_getElem.1 hr K j a1 a2 hl
          rw [e1, e2] at this
          omega
        · have := List.pairwise_iff_getElem.1 hr j K a2 a1 hl
          rw [e1, e2] at this
          omega
      simp [hne]
theorem above_room {ms : List Mb} {vs : List Iv} {bs : List Bn} {p t a at_ : Int} (h : aboveB ms vs bs p t a at_ = true) : RoomV ms vs bs := by
  simp only [aboveB, Bool.and_eq_true] at h
  exact roomB_iff.1 h.1.1.1.1
theorem own_some {w : World} {base e size n c : Nat} {A : Option Addr} {xs : List Value} (h : w.ownsRow base e size (.slice A n c) n xs) (hn : 0 < n) : ∃ g, A = some ⟨g, 0, none⟩ ∧ base ≤ g := by
  rcases h.2 with ⟨hv, h0⟩ | ⟨g, cap, cur, hv, hg, _⟩
  · omega
  · injection hv with h1 h2 h3
    exact ⟨g, h1, hg⟩
theorem set_mem {α : Type} {xs : List α} {K : Nat} {z : α} : (xs.set K z).length = xs.length := by simp
end Go.Proofs.YtmnmmjobplbflaaGreat
namespace Go.Proofs.YtmnmmjobplbflaaGreat
open Go.ChangeShapes Go.WideShapes Go.ChangeAt Go.RowKit
open Go.ChangeMaps (open_string shut_string)
set_option linter.unusedVariables false
open Go.Maps
set_option maxRecDepth 100000
theorem drop_take_same {α : Type} {k : α → Int} {t : Int} {xs : List α} {n : Nat} {z : α} (hz : xs[n]? = some z) (h : k z = t) : dropK k t (xs.take (n + 1)) = dropK k t (xs.take n) := by
  rw [take_some hz]; simp [dropK, h]
theorem drop_take_next {α : Type} {k : α → Int} {t : Int} {xs : List α} {n : Nat} {z : α} (hz : xs[n]? = some z) (h : ¬ k z = t) : dropK k t (xs.take (n + 1)) = dropK k t (xs.take n) ++ [z] := by
  rw [take_some hz]; simp [dropK, h]
theorem drop_take_len {α : Type} {k : α → Int} {t : Int} (xs : List α) (n : Nat) : (dropK k t (xs.take n)).length ≤ n := Nat.le_trans drop_len (List.length_take_le _ _)
theorem one_cells (w : World) (t : TypeId) (cs : List Value) : ∀ (j : Nat) (u : Value), cs[j]? = some u → (w.alloc (.cells cs.toArray t)).cell? ((⟨w.heap.size, 0, none⟩ : Addr).add j) = some u := by
  intro j u h
  have := (Blk.new w t cs.toArray).cell j
  rw [List.getElem?_toArray, h] at this
  cases j <;> simpa [Addr.add] using this
set_option maxHeartbeats 1600000 in
theorem l02Rest_any (A : Option Addr) (n c : Nat) (xs : List Mb) (t : Int) (w : World) (h : SRow 4 mbC w w.heap.size A n xs) (hn : n ≤ 1048576) :
    Calls Tryz.prog 18 #[.slice A n c, .int .i64 t] w fun e w' => ∃ A' m c', e = .returned (.slice A' m c') ∧ m = (dropK Mb.id t xs).length ∧ w'.ownsRow w.heap.size 50 4 (.slice A' m c') m ((dropK Mb.id t xs).flatMap mbC) ∧ Below w.heap.size w w' := by
  obtain ⟨i0, hi, hz0, hz1, hz2⟩ := info_parts Tryz.info_Member
  have HL := Lib.hid h.1
  have ho := World.ownsRow_made w (base := w.heap.size) (e := 50) (size := 4) #[] 0 (Nat.le_refl _) (by decide) rfl
  have hb0 : Below w.heap.size w (w.alloc (.cells #[] 50)) := (Below.refl _ _).alloc (Nat.le_refl _) _
  go_enter Tryz.func18, Tryz.ntmps18
  go_wp2
  go_loopw [5, 6] (fun v i wr => ∃ k : Nat, k ≤ n ∧ i = .int .i64 k ∧ wr.ownsRow w.heap.size 50 4 v (dropK Mb.id t (xs.take k)).length ((dropK Mb.id t (xs.take k)).flatMap mbC) ∧ Below w.heap.size w wr) (fun _ i _ => n - (intOf i).toNat)
  case atStart => exact ⟨0, by omega, rfl, ho, hb0⟩
  case round =>
    obtain ⟨k, hk, rfl, hown, hbel⟩ := hrel
    clear ho hb0
    have hbs := hbel.size
    by_cases hlt : k < n
    · obtain ⟨b, off, z, rfl, hb, hz, c0, c1, c2, c3⟩ := h.atm hlt
      have d0 : wr.cell? ⟨b, off + k * 4, none⟩ = some (.int .i64 z.id) := (hbel.cell hb).trans c0
      have d1 : wr.cell? ⟨b, off + k * 4 + 1, none⟩ = some (.int .i64 z.role) := (hbel.cell hb).trans c1
      have d2 : wr.cell? ⟨b, off + k * 4 + 2, none⟩ = some (.int .i64 z.since) := (hbel.cell hb).trans c2
      have d3 : wr.cell? ⟨b, off + k * 4 + 3, none⟩ = some (.int .i64 z.quiet) := (hbel.cell hb).trans c3
      have hln := drop_take_len (k := Mb.id) (t := t) xs k
      clear c0 c1 c2 c3
      by_cases he : z.id = t
      · have HS := Lib.hid (drop_take_same hz he)
        have he' : (z.id != t) = false := by simp [he]
        clear hz he h
        go_wp2
        go_roundw
        case rel => exact ⟨k + 1, by omega, by go_num, by rw [HS.out]; exact hown, hbel⟩
        case measure => simp [intOf]; omega
      · have HS := Lib.hid (drop_take_next hz he)
        have he' : (z.id != t) = true := by simp [he]
        clear hz he h
        go_wp2_with (at_builtin; refine wpList_append_own _ rfl (.tmp 21) (.tmp 26) 31 rfl w.heap.size 50 i0 (.agg #[.int .i64 0, .int .i64 0, .int .i64 0, .int .i64 0]) 4 32 Tryz.underlying31 hi hz0 hz1 hz2 rfl (by decide) _ _ _ rfl (hown.alloc _) ⟨wr.heap.size, 0, none⟩ 1 1 [.int .i64 z.id, .int .i64 z.role, .int .i64 z.since, .int .i64 z.quiet] rfl rfl (one_cells wr _ _) (by intro u hu; simp at hu; rcases hu with rfl | rfl | rfl | rfl <;> rfl) (by unfold maxLen; omega) (by omega) (by simp; omega) ?_; intro v2 w2 ho2 hg2 _)
        have hb2 : Below w.heap.size w w2 := (hbel.alloc hbs _).grown hg2 (by simp; omega) (fun g hg => (hown.lt g hg).1)
        clear hg2 hown hbel d0 d1 d2 d3
        go_roundw
        case rel => exact ⟨k + 1, by omega, by go_num, by rw [HS.out, List.flatMap_append, List.length_append]; exact ho2, hb2⟩
        case measure => simp [intOf]; omega
    · have hkn : k = n := by omega
      subst hkn
      rw [List.take_of_length_le (by have := HL.out; omega)] at hown
      go_wp2
      go_ret
      obtain ⟨A', c', rfl⟩ := own_form hown
      exact ⟨A', _, c', rfl, rfl, hown, hbel⟩
end Go.Proofs.YtmnmmjobplbflaaGreat
