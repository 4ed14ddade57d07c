namespace Go.Proofs.Ytblkonfphaalhaa
def chk (n : Int) (l : List UInt8) : Int := l.foldl (fun n c => (433 * n + c.toNat + 37) % 65129) n
theorem chk_bd (n : Int) (l : List UInt8) (h : 0 ≤ n) (h2 : n < 65129) : 0 ≤ chk n l ∧ chk n l < 65129 := by
  unfold chk
  induction l generalizing n with
  | nil => exact ⟨h, h2⟩
  | cons c l ih =>
    have g : ∀ x : Int, 0 ≤ x % 65129 ∧ x % 65129 < 65129 := fun x => by omega
    exact ih _ (g _).1 (g _).2
theorem chk_snoc (n : Int) (l : List UInt8) (c : UInt8) : chk n (l ++ [c]) = (433 * chk n l + c.toNat + 37) % 65129 := by
  unfold chk; rw [List.foldl_append]; rfl
theorem take_snoc (s : ByteArray) (k : Nat) (h : k < s.size) : s.data.toList.take (k + 1) = s.data.toList.take k ++ [s[k]] := by
  rw [List.take_succ_eq_append_getElem (by simpa using h)]; rfl
def chkTo (n : Int) (s : ByteArray) (k : Nat) : Int := chk n (s.data.toList.take k)
theorem chkTo_zero (n : Int) (s : ByteArray) : chkTo n s 0 = n := by simp [chkTo, chk]
theorem chkTo_bd (n : Int) (s : ByteArray) (k : Nat) (h : 0 ≤ n) (h2 : n < 65129) : 0 ≤ chkTo n s k ∧ chkTo n s k < 65129 := chk_bd _ _ h h2
theorem chkTo_succ (n : Int) (s : ByteArray) (k : Nat) (h : k < s.size) : chkTo n s (k + 1) = (433 * chkTo n s k + s[k].toNat + 37) % 65129 := by
  unfold chkTo; rw [take_snoc s k h, chk_snoc]
theorem chkTo_end (n : Int) (s : ByteArray) (k : Nat) (h : s.size ≤ k) : chkTo n s k = chk n s.data.toList := by
  unfold chkTo; rw [List.take_of_length_le (by simpa using h)]
end Go.Proofs.Ytblkonfphaalhaa
