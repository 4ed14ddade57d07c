import Derived.Test.YtdpclbmcmgknjabDoorChecked
import Derived.WalkKit
import Derived.ProofKit
import Derived.OpenShut
import Derived.ShutString
import Derived.ChangeOld
import Derived.Below
import Derived.Lib.Hide
import Derived.Deep.MidRow
import Derived.StillTailTactics
import Derived.Test.YtdpclbmcmgknjabDoorZMsgR
import Derived.Test.YtdpclbmcmgknjabDoorJd
namespace Go.Proofs.YtdpclbmcmgknjabDoor
open Go.ChangeShapes Go.WideShapes Go.ChangeAt Go.RowKit
open Go.ChangeMaps (open_string shut_string)
set_option linter.unusedVariables false
set_option maxRecDepth 100000
theorem three_boxes (w : World) (t t' t'' : TypeId) (c c' c'' : Array Value) : Blk (((w.alloc (.cells c t)).alloc (.cells c' t')).alloc (.cells c'' t'')) w.heap.size t c ∧ Blk (((w.alloc (.cells c t)).alloc (.cells c' t')).alloc (.cells c'' t'')) (w.heap.size + 1) t' c' ∧ Blk (((w.alloc (.cells c t)).alloc (.cells c' t')).alloc (.cells c'' t'')) (w.heap.size + 1 + 1) t'' c'' ∧ Below w.heap.size w (((w.alloc (.cells c t)).alloc (.cells c' t')).alloc (.cells c'' t'')) := by
  obtain ⟨k0, k1, hb⟩ := two_boxes w t t' c c'
  refine ⟨k0.alloc _, k1.alloc _, ?_, hb.alloc hb.size _⟩
  have := Blk.new ((w.alloc (.cells c t)).alloc (.cells c' t')) t'' c''
  simpa using this
/-- stores into a block of the call's own, above the rows of others -/
theorem own_sets {base e size n g : Nat} {v : Value} {xs : List Value} : ∀ (us : List (Nat × Value)) {w : World}, w.ownsRow base e size v n xs → g < base → (us.foldl (fun w u => w.setCell ⟨g, u.1, none⟩ u.2) w).ownsRow base e size v n xs
  | [], _, h, _ => h
  | u :: us, _, h, hg => own_sets us (ownsRow_setCell_below h (a := ⟨g, u.1, none⟩) hg u.2) hg
theorem below_sets {B g : Nat} {w0 : World} : ∀ (us : List (Nat × Value)) {w : World}, Below B w0 w → B ≤ g → Below B w0 (us.foldl (fun w u => w.setCell ⟨g, u.1, none⟩ u.2) w)
  | [], _, h, _ => h
  | u :: us, _, h, hg => below_sets us (h.setCell (p := ⟨g, u.1, none⟩) hg u.2) hg
/-- the same messages, whose likes lie elsewhere -/
theorem likes_len {rs : List Rm} {w : World} {B : Nat} (h : LikesAt w B rs) {r : Rm} (hr : r ∈ rs) : r.m.likes.length = r.ln := (h r hr).1
theorem own_nextR {w : World} {base e n cap g k : Nat} {ts : List Rm} {r : Rm} {tail : List Value} (vs : List Value) (hvs : vs = rmC r) (hl : ts.length = k) (hk : k < n) (h : w.ownsRow base e 8 (.slice (some ⟨g, 0, none⟩) n cap) n (ts.flatMap rmC ++ tail)) :
    (w.setCells g (k * 8) vs).ownsRow base e 8 (.slice (some ⟨g, 0, none⟩) n cap) n ((ts ++ [r]).flatMap rmC ++ tail.drop 8) ∧ w.grownBy (w.setCells g (k * 8) vs) (some g) := by
  subst hvs
  have hp : (ts.flatMap rmC).length = k * 8 := by rw [flat_len rmC_len, hl]
  have hlen := h.1
  rw [List.length_append, hp] at hlen
  have := own_setCells (rmC r) (k * 8) w (ts.flatMap rmC) tail h hp (by rw [rmC_len]; omega)
  rw [rmC_len] at this
  refine ⟨?_, this.2⟩
  have h1 := this.1
  rw [← List.append_assoc] at h1
  simpa using h1
theorem own_fullR {w : World} {base e n cap g : Nat} {ts : List Rm} {tail : List Value} (hn : ts.length = n) (h : w.ownsRow base e 8 (.slice (some ⟨g, 0, none⟩) n cap) n (ts.flatMap rmC ++ tail)) : w.ownsRow base e 8 (.slice (some ⟨g, 0, none⟩) n cap) n (ts.flatMap rmC) := by
  have hl := h.1
  rw [List.length_append, flat_len rmC_len, hn] at hl
  have : tail = [] := List.eq_nil_of_length_eq_zero (by omega)
  subst this
  rw [List.append_nil] at h
  exact h
def rmSz (r : Rm) : Nat := r.m.text.size + r.ln
def szTo (rs : List Rm) (k : Nat) : Nat := ((rs.take k).map rmSz).sum
theorem szTo_zero (rs : List Rm) : szTo rs 0 = 0 := by simp [szTo]
theorem szTo_succ {rs : List Rm} {k : Nat} {r : Rm} (h : rs[k]? = some r) : szTo rs (k + 1) = szTo rs k + (r.m.text.size + r.ln) := by
  unfold szTo
  rw [List.take_add_one, h]
  simp [rmSz]
theorem szTo_le (rs : List Rm) (k : Nat) : szTo rs k ≤ szTo rs rs.length := by
  unfold szTo
  rw [List.take_length]
  conv => rhs; rw [← List.take_append_drop k rs]
  rw [List.map_append, List.sum_append]
  omega
def logSize (rs : List Rm) : Nat := rs.length + szTo rs rs.length
theorem log_small {rs : List Rm} (h : logSize rs ≤ 1048576) : rs.length ≤ 1048576 ∧ ∀ r ∈ rs, r.ln ≤ 1048576 ∧ r.m.text.size ≤ 1048576 := by
  refine ⟨by unfold logSize at h; omega, fun r hr => ?_⟩
  obtain ⟨k, hk⟩ := List.mem_iff_getElem?.1 hr
  have h1 := szTo_succ hk
  have h2 := szTo_le rs (k + 1)
  unfold logSize at h
  omega
theorem fit_of {w : World} {n B : Nat} {A : Option Addr} {rs : List Rm} (h : LogAt w B A n rs) (hs : logSize rs ≤ 1048576) : fitL (mgs rs) := by
  obtain ⟨h1, h2⟩ := log_small hs
  refine ⟨by rw [mgs_len]; exact h1, fun m hm => ?_⟩
  obtain ⟨r, hr, rfl⟩ := List.mem_map.1 hm
  have := h2 r hr
  have := (h.2 r hr).1
  omega
theorem row_len {xs : List Int} {w : World} {B n : Nat} {A : Option Addr} (h : Row i64v w B A n xs) : xs.length = n := h.1
end Go.Proofs.YtdpclbmcmgknjabDoor
