import Derived.Test.YtblkonfphaalhaaChecked
import Derived.WalkKit
import Derived.ProofKit
import Derived.OpenShut
import Derived.ShutString
import Derived.ChangeOld
import Derived.Below
import Derived.Lib.Hide
import Derived.Test.YtblkonfphaalhaaDigestS
import Derived.Test.YtblkonfphaalhaaDigestI
import Derived.Test.YtblkonfphaalhaaRows3
import Derived.Test.YtblkonfphaalhaaStrs2
import Derived.Test.YtblkonfphaalhaaWordsI
namespace Go.Proofs.Ytblkonfphaalhaa
open Go.ChangeShapes Go.WideShapes Go.ChangeAt Go.RowKit
open Go.ChangeMaps (open_string shut_string)
set_option linter.unusedVariables false
def dig (s : ByteArray) : ByteArray := strOfNums (digL s)
theorem dig_size (s : ByteArray) : (dig s).size = 32 := by rw [dig, strOfNums_size, digL_len]
def chStep (st : List ByteArray × ByteArray) (p : ByteArray) : List ByteArray × ByteArray := (st.1 ++ [dig (st.2 ++ p)], dig (st.2 ++ p))
def chTo (now : ByteArray) (xs : List ByteArray) (k : Nat) : List ByteArray × ByteArray := (xs.take k).foldl chStep ([], now)
theorem chTo_succ (now : ByteArray) (xs : List ByteArray) (k : Nat) (p : ByteArray) (h : xs[k]? = some p) : chTo now xs (k + 1) = chStep (chTo now xs k) p := by
  have hk : k < xs.length := (List.getElem?_eq_some_iff.1 h).1
  have hp : xs[k] = p := (List.getElem?_eq_some_iff.1 h).2
  simp [chTo, List.take_succ_eq_append_getElem hk, hp]
theorem chTo_len (now : ByteArray) (xs : List ByteArray) (k : Nat) (h : k ≤ xs.length) : (chTo now xs k).1.length = k := by
  induction k with
  | zero => simp [chTo]
  | succ k ih =>
    rw [chTo_succ now xs k xs[k] (List.getElem?_eq_getElem (by omega))]
    simp [chStep, ih (by omega)]
theorem chTo_size (now : ByteArray) (xs : List ByteArray) (hn : now.size = 32) (k : Nat) (h : k ≤ xs.length) : (chTo now xs k).2.size = 32 := by
  cases k with
  | zero => simpa [chTo] using hn
  | succ k =>
    rw [chTo_succ now xs k xs[k] (List.getElem?_eq_getElem (by omega))]
    exact dig_size _
def ChNo (w : World) (e : Ending) (w' : World) : Prop := e = .returned (.tuple #[.slice none 0 0, .bool false]) ∧ Below w.heap.size w w'
/-- the first m parts are short enough, and there is no more, or the next one is too long -/
def ChAt (xs : List ByteArray) (m : Nat) : Prop := m ≤ xs.length ∧ (∀ j p, j < m → xs[j]? = some p → p.size ≤ 3968) ∧ ∀ p, xs[m]? = some p → 3968 < p.size
theorem chAt_ex (xs : List ByteArray) : ∃ m, ChAt xs m := by
  induction xs with
  | nil => exact ⟨0, Nat.le_refl _, fun j p h => by omega, fun p h => by simp at h⟩
  | cons x xs ih =>
    obtain ⟨m, h1, h2, h3⟩ := ih
    by_cases hx : x.size ≤ 3968
    · refine ⟨m + 1, by simpa using h1, ?_, fun p hp => h3 p (by simpa using hp)⟩
      intro j p hj hp
      cases j with
      | zero => simp at hp; subst hp; exact hx
      | succ j => exact h2 j p (by omega) (by simpa using hp)
    · exact ⟨0, Nat.zero_le _, fun j p h => by omega, fun p hp => by simp at hp; subst hp; omega⟩
set_option maxHeartbeats 1600000 in
set_option maxRecDepth 100000 in
theorem spec_ChainOf_go (A : Option Addr) (n c m : Nat) (b : ByteArray) (xs : List ByteArray) (w : World) (h : Row strv w w.heap.size A n xs) (hb : b.size = 32) (hn : n ≤ 300) (hm : ChAt xs m) :
    Calls Try.prog 40 #[.string b, .slice A n c] w fun e w' => (m = n → WYes w (chTo b xs n).1 e w') ∧ (m ≠ n → ChNo w e w') := by
  obtain ⟨i0, hi, hz0, hz1, hz2⟩ := info_parts Try.info_str
  obtain ⟨hmx, hgood, hbad⟩ := hm
  have hlen := h.1
  rw [hlen] at hmx
  have HL := Lib.hid hlen
  clear hlen
  have HG := Lib.hid hgood
  have HBD := Lib.hid hbad
  clear hgood hbad
  have hbi : (b.size : Int) = 32 := by omega
  have HSZ := Lib.hid (chTo_size b xs hb)
  have HLN := Lib.hid (chTo_len b xs)
  go_enter Try.func40, Try.ntmps40
  go_wp2
  go_loopw [6, 7, 21] (fun v o i wr => ∃ k : Nat, k ≤ m ∧ i = .int .i64 k ∧ o = .string (chTo b xs k).2 ∧ wr.ownsRow w.heap.size 9 1 v k ((chTo b xs k).1.map strv) ∧ Below w.heap.size w wr) (fun _ _ i _ => n - (intOf i).toNat)
  case atStart => exact ⟨0, by omega, rfl, rfl, World.ownsRow_made w #[] 0 (Nat.le_refl _) (by decide) rfl, (Below.refl _ _).alloc (Nat.le_refl _) _⟩
  case round =>
    obtain ⟨k, hk, rfl, rfl, hown, hbel⟩ := hrel
    have hbs := hbel.size
    by_cases hkn : k < n
    · obtain ⟨bb, off, z, rfl, hblt, hz, hcw⟩ := h.ats hkn
      have hc : wr.cell? ⟨bb, off + k, none⟩ = some (.string z) := (hbel.cell hblt).trans hcw
      clear hcw
      by_cases hkm : k < m
      · have hzs := HG.out k z hkm hz
        have HS := Lib.hid (chTo_succ b xs k z hz)
        have hsz := HSZ.out k (by have := HL.out; omega)
        have hln := HLN.out k (by have := HL.out; omega)
        clear hz
        generalize hst : chTo b xs k = st at *
        clear hst
        obtain ⟨done, cur⟩ := st
        simp only at hown hsz hln
        have hln2 := Lib.hid hln
        clear hln
        have hsum : cur.size + z.size ≤ 9223372036854775807 := by omega
        have hdl : (cur ++ z).size ≤ 4000 := by rw [ByteArray.size_append]; omega
        have HD := Lib.hid hdl
        clear hdl
        go_wp2_with fail
        go_at_call 66; refine (l01Digest_any _ _ HD.out).mono ?_; rintro e w1 ⟨rfl, hbn⟩
        have hown1 := own_below hown hbn (Nat.le_refl _)
        have hbel1 := hbel.trans (hbn.mono hbs)
        have hbs1 := hbel1.size
        clear hown hbel hbn hc
        go_wp2_with (at_builtin; refine wpList_append_own _ rfl _ _ 34 rfl w.heap.size 9 i0 (.string ByteArray.empty) 1 16 Try.underlying34 hi hz0 hz1 hz2 rfl (by decide) _ _ _ rfl (hown1.alloc _) ⟨w1.heap.size, 0, none⟩ 1 1 [.string (strOfNums (digL (cur ++ z)))] rfl rfl ?p1 ?p2 ?p3 ?p4 ?p5 ?_)
        all_goals try first | rfl | exact cell_one_new _ _ _ | (intro u hu; simp at hu; subst hu; rfl) | (unfold maxLen; omega) | omega | (simp; omega)
        intro v' w5 hown' hgrow _
        have hbel' : Below w.heap.size w w5 := (hbel1.alloc hbs1 _).grown hgrow (by simp; omega) (fun g hg => (hown1.lt g hg).1)
        clear hgrow hown1 hbel1
        go_wp2
        go_roundw
        case rel => exact ⟨k + 1, by omega, by go_num, by rw [HS.out]; rfl, by rw [HS.out]; simpa [chStep, strv, dig] using hown', hbel'⟩
        case measure => simp [intOf]; omega
      · have hke : k = m := by omega
        subst hke
        have hzs := HBD.out z hz
        have hne : k ≠ n := by omega
        clear hz
        go_wp2
        go_ret2
        exact ⟨fun e => absurd e hne, fun _ => ⟨rfl, hbel⟩⟩
    · have hke : k = n := by omega
      have hkm : m = n := by omega
      subst hke
      obtain ⟨A2, m2, c2, rfl, hmm⟩ := own_shapeS hown
      subst hmm
      go_wp2
      go_ret2
      exact ⟨fun _ => ⟨A2, _, c2, rfl, hown, hbel⟩, fun e => absurd hkm e⟩
theorem spec_ChainOf_out (A : Option Addr) (n c : Nat) (b : ByteArray) (w : World) (hs : b.size ≤ maxLen) (h : b.size ≠ 32 ∨ 300 < n) :
    Calls Try.prog 40 #[.string b, .slice A n c] w fun e w' => ChNo w e w' := by
  unfold maxLen at hs
  by_cases hb : b.size = 32
  · have hn : 300 < n := by omega
    clear h
    have hbi : (b.size : Int) = 32 := by omega
    go_enter Try.func40, Try.ntmps40
    go_wp2
    go_ret2
    exact ⟨rfl, Below.refl _ _⟩
  · clear h
    go_enter Try.func40, Try.ntmps40
    go_wp2
    go_ret2
    exact ⟨rfl, Below.refl _ _⟩
end Go.Proofs.Ytblkonfphaalhaa
