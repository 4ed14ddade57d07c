import Derived.Test.YteeodjbionjlmaaChecked
import Derived.WalkKit
import Derived.ProofKit
import Derived.OpenShut
import Derived.ShutString
import Derived.ChangeOld
import Derived.Below
import Derived.Lib.Hide
import Derived.WalkSpells
import Derived.WalkLawsBesides
import Derived.Lib.OthersKept
import Derived.WalkSmall
import Derived.Laws.Cover4
import Derived.Laws.RangeString
import Derived.Test.YteeodjbionjlmaaZWordsS
import Derived.Test.YteeodjbionjlmaaZIsNameC
namespace Go.Proofs.Yteeodjbionjlmaa
open Go.ChangeShapes Go.WideShapes Go.ChangeAt Go.RowKit
open Go.ChangeMaps (open_string shut_string)
set_option linter.unusedVariables false
theorem Try.info_i32 : (Try.prog.info? 21).map (fun i => (i.zero, i.size, i.bytes)) = some (some (.int .i32 0), 1, 4) := by kernel_rfl
def i32v : Int → Value := fun x => Value.int .i32 x
theorem encode_ascii (n : Int) (h0 : 0 ≤ n) (h1 : n < 128) : Utf8.encode n = strOfNums [n] := by
  have hv : Utf8.valid n = true := by simp [Utf8.valid]; omega
  have hn : n.toNat < 128 := by omega
  simp [Utf8.encode, hv, hn, strOfNums]
theorem runes_ascii (l : List Int) (h : ByteL l) : runesBytes l = strOfNums l := by
  have gen : ∀ (l acc : List Int), ByteL l → l.foldl (fun r n => r ++ Utf8.encode n) (strOfNums acc) = strOfNums (acc ++ l) := by
    intro l
    induction l with
    | nil => intro acc _; simp
    | cons x l ih =>
      intro acc h
      rw [List.foldl_cons, encode_ascii x (h x (by simp)).1 (h x (by simp)).2, strOfNums_snoc, ih (acc ++ [x]) (fun y hy => h y (by simp [hy]))]
      simp
  exact gen l [] h
/-- one step of a range over a string whose next byte is ASCII, other rows kept -/
theorem next_pack (w0 wr : World) (B : Nat) (s : ByteArray) (k : Nat) (hk : wr.heap[B]? = some (.stringIter s k)) (h : k < s.size) (ha : s[k].toNat < 128) (hb : Below B w0 wr) :
    ∃ w1, (∀ ty, (Instr.next (.pointer (some ⟨B, 0, none⟩)) true ty).run Try.prog wr = .ok (.tuple #[.bool true, .int .i64 k, .int .i32 s[k].toNat]) w1) ∧ w1.heap[B]? = some (.stringIter s (k + 1)) ∧
      (∀ base e size v n xs, B < base → wr.ownsRow base e size v n xs → w1.ownsRow base e size v n xs) ∧ w1.heap.size = wr.heap.size ∧ Below B w0 w1 :=
  ⟨_, fun ty => Lib.run_next_ascii_at wr B s k ty hk h ha, Lib.iterAt_heap wr B s k (k + 1) hk, fun _ _ _ _ _ _ hlt ho => ownsRow_iterAt ho hlt s (k + 1), Lib.iterAt_size _ _ _ _, Lib.below_iterAt hb (Nat.le_refl _) s (k + 1)⟩
theorem own_types {w : World} {b1 e1 s1 n1 b2 e2 s2 n2 : Nat} {v1 v2 : Value} {xs ys : List Value} (h1 : w.ownsRow b1 e1 s1 v1 n1 xs) (h2 : w.ownsRow b2 e2 s2 v2 n2 ys) (hne : e1 ≠ e2) : v1.ownBlock = none ∨ v1.ownBlock ≠ v2.ownBlock := by
  rcases h1.2 with ⟨rfl, _⟩ | ⟨g, cap, cur, rfl, _, hg, _⟩
  · exact .inl rfl
  · right
    rcases h2.2 with ⟨rfl, _⟩ | ⟨g', cap', cur', rfl, _, hg', _⟩
    · simp [Value.ownBlock]
    · intro e
      simp only [Value.ownBlock, Option.some.injEq] at e
      subst e
      rw [hg] at hg'
      injection hg' with hg'
      injection hg' with _ ht
      exact hne ht
theorem own_weaken {w : World} {b b' e size n : Nat} {v : Value} {xs : List Value} (h : w.ownsRow b e size v n xs) (hb : b' ≤ b) : w.ownsRow b' e size v n xs := by
  rcases h.2 with ⟨h0, h1⟩ | ⟨g, cap, cur, hv, hg, hh, hn, hcap, hsz, htake⟩
  · exact ⟨h.1, .inl ⟨h0, h1⟩⟩
  · exact ⟨h.1, .inr ⟨g, cap, cur, hv, Nat.le_trans hb hg, hh, hn, hcap, hsz, htake⟩⟩
theorem own_cut {w : World} {base e n g cap : Nat} {xs : List Value} (h : w.ownsRow base e 1 (.slice (some ⟨g, 0, none⟩) n cap) n xs) : w.ownsRow base e 1 (.slice (some ⟨g, 0, none⟩) 0 cap) 0 [] := by
  rcases h.2 with ⟨h0, _⟩ | ⟨g', cap', cur, hv, hg, hh, hn, hcap, hsz, htake⟩
  · cases h0
  · cases hv
    exact ⟨rfl, .inr ⟨g, cap, cur, rfl, hg, hh, by omega, hcap, hsz, by simp⟩⟩
theorem isDigit_yes (r : Int) (w : World) (h1 : 48 ≤ r) (h2 : r ≤ 57) :
    Calls Try.prog 120 #[.int .i32 r] w fun e w' => e = .returned (.bool true) ∧ w = w' := by
  go_enter Try.func120, Try.ntmps120
  go_wp2
  go_ret
  exact ⟨rfl, rfl⟩
theorem isDigit_no (r : Int) (w : World) (h : r < 48 ∨ 57 < r) :
    Calls Try.prog 120 #[.int .i32 r] w fun e w' => e = .returned (.bool false) ∧ w = w' := by
  by_cases h1 : r < 48
  · clear h
    go_enter Try.func120, Try.ntmps120
    go_wp2
    go_ret
    exact ⟨rfl, rfl⟩
  · have h2 : 57 < r := by omega
    clear h
    go_enter Try.func120, Try.ntmps120
    go_wp2
    go_ret
    exact ⟨ret_bool (by simp; omega), rfl⟩
/-- the text with a blank behind it -/
def blanked (s : ByteArray) : ByteArray := s ++ ⟨#[32]⟩
theorem blanked_size (s : ByteArray) : (blanked s).size = s.size + 1 := by rw [blanked, ByteArray.size_append]; rfl
theorem blanked_at (s : ByteArray) (k : Nat) (h : k < (blanked s).size) (ht : textB s = true) : ∃ b : Int, ((blanked s)[k].toNat : Int) = b ∧ 32 ≤ b ∧ b ≤ 126 ∧ wTo s (k + 1) = wstep (wTo s k) b := by
  rw [blanked_size] at h
  by_cases hk : k < s.size
  · have e : (blanked s)[k] = s[k] := by simp [blanked, ByteArray.getElem_append_left hk]
    have hb := textB_at ht k hk
    refine ⟨(s[k].toNat : Int), by rw [e], hb.1, hb.2, ?_⟩
    show wstep (wTo s k) (byteAt s k) = _
    rw [byteAt_eq s k hk]
  · have hk2 : k = s.size := by omega
    subst hk2
    refine ⟨32, ?_, by omega, by omega, ?_⟩
    · have e : (blanked s)[s.size] = (32 : UInt8) := by
        simp only [blanked]
        rw [ByteArray.getElem_append_right (Nat.le_refl _)]
        simp
        rfl
      rw [e]; rfl
    · show wstep (wTo s s.size) (byteAt s s.size) = _
      rw [byteAt_out]
      simp [wstep, lowC]

theorem iter_grown {w1 w2 : World} {B base e size n : Nat} {v : Value} {xs : List Value} {o X : Obj} (h : w1.heap[B]? = some X) (hB : B < base) (hv : w1.ownsRow base e size v n xs) (hg : (w1.alloc o).grownBy w2 v.ownBlock) : w2.heap[B]? = some X := by
  have hlt : B < w1.heap.size := by
    rcases Nat.lt_or_ge B w1.heap.size with hlt | hge
    · exact hlt
    · rw [Array.getElem?_eq_none hge] at h; cases h
  rw [hg.block B (by simp; omega) (fun e => by have := (hv.lt B e.symm).1; omega), Below.heap_alloc w1 o B hlt]
  exact h
end Go.Proofs.Yteeodjbionjlmaa
