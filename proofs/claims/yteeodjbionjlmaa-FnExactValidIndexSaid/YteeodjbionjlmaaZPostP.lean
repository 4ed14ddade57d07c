import GoSem.Op.String
import Derived.Test.YteeodjbionjlmaaJa
import Derived.Test.YteeodjbionjlmaaJyc
namespace Go.Proofs.Yteeodjbionjlmaa
set_option linter.unusedVariables false
/-- boxes of a post, field by field; a parcel is a pair of numbers -/
structure Bx where
  tok : ByteArray
  mem : Int
  mis : Int
  held : List Bn
def limB (n : Int) : Bool := decide (1 ≤ n ∧ n ≤ 64)
def misB (n : Int) : Bool := decide (0 ≤ n ∧ n ≤ 1000000000)
def roomNB (n : Int) : Bool := decide (1 ≤ n ∧ n ≤ 1000)
def numNB (n : Int) : Bool := decide (1 ≤ n ∧ n ≤ 1000000)
def parB (x : Bn) : Bool := roomNB x.id && numNB x.til
def parsB (xs : List Bn) : Bool := decide (xs.length ≤ 64) && xs.all parB
def tokB (t : ByteArray) : Bool := decide (t.size = 16)
def fitsB (lim : Int) (b : Bx) : Bool := tokB b.tok && (idB b.mem && (misB b.mis && (parsB b.held && decide ((b.held.length : Int) ≤ lim))))
def ordB (p b : Bx) : Bool := Go.Op.bytesLess p.tok.toList b.tok.toList
def linkX (lim : Int) (p : Option Bx) (b : Bx) : Bool := fitsB lim b && match p with | none => true | some p => ordB p b
def chainX (lim : Int) : Option Bx → List Bx → Bool
  | _, [] => true
  | p, m :: r => linkX lim p m && chainX lim (some m) r
def lastX : Option Bx → List Bx → Option Bx
  | p, [] => p
  | _, m :: r => lastX (some m) r
def postB (lim : Int) (bs : List Bx) : Bool := limB lim && (decide (bs.length ≤ 32) && chainX lim none bs)
theorem chainX_append (lim : Int) : ∀ (a b : List Bx) (p : Option Bx), chainX lim p (a ++ b) = (chainX lim p a && chainX lim (lastX p a) b) := by
  intro a
  induction a with
  | nil => intro b p; simp [chainX, lastX]
  | cons m r ih => intro b p; simp [chainX, lastX, ih, Bool.and_assoc]
theorem lastX_append : ∀ (a b : List Bx) (p : Option Bx), lastX p (a ++ b) = lastX (lastX p a) b := by
  intro a
  induction a with
  | nil => intro b p; rfl
  | cons m r ih => intro b p; simp [lastX, ih]
theorem takeX {α : Type} {ms : List α} {k : Nat} {m : α} (h : ms[k]? = some m) : ms.take (k + 1) = ms.take k ++ [m] := by
  rw [List.take_add_one, h]; rfl
theorem chainX_step {lim : Int} {ms : List Bx} {k : Nat} {m : Bx} (h : ms[k]? = some m) : chainX lim none (ms.take (k + 1)) = (chainX lim none (ms.take k) && linkX lim (lastX none (ms.take k)) m) := by
  rw [takeX h, chainX_append]; simp [chainX]
theorem lastX_step {ms : List Bx} {k : Nat} {m : Bx} (h : ms[k]? = some m) : lastX none (ms.take (k + 1)) = some m := by
  rw [takeX h, lastX_append]; rfl
theorem splitX {α : Type} {ms : List α} {k : Nat} {m : α} (h : ms[k]? = some m) : ms = ms.take k ++ m :: ms.drop (k + 1) := by
  have hk : k < ms.length := (List.getElem?_eq_some_iff.1 h).1
  have e : ms[k] = m := by rw [List.getElem?_eq_getElem hk] at h; injection h
  conv => lhs; rw [← List.take_append_drop k ms, List.drop_eq_getElem_cons hk, e]
theorem chainX_no {lim : Int} {ms : List Bx} {k : Nat} {m : Bx} (h : ms[k]? = some m) (hl : linkX lim (lastX none (ms.take k)) m = false) : chainX lim none ms = false := by
  rw [splitX h, chainX_append]; simp [chainX, hl]
theorem postB_chain {lim : Int} {bs : List Bx} (h : chainX lim none bs = false) : postB lim bs = false := by simp [postB, h]
theorem postB_long {lim : Int} {bs : List Bx} (h : 32 < bs.length) : postB lim bs = false := by
  have : decide (bs.length ≤ 32) = false := decide_eq_false (by omega)
  simp [postB, this]
theorem postB_lim {lim : Int} {bs : List Bx} (h : limB lim = false) : postB lim bs = false := by simp [postB, h]
theorem postB_yes {lim : Int} {bs : List Bx} (h : limB lim = true) (h1 : bs.length ≤ 32) (h2 : chainX lim none bs = true) : postB lim bs = true := by simp [postB, h, h1, h2]
/-- lengths that a law lets by -/
def fitP (bs : List Bx) : Prop := bs.length ≤ 1048576 ∧ ∀ b ∈ bs, b.held.length ≤ 1048576 ∧ b.tok.size ≤ 1048576
end Go.Proofs.Yteeodjbionjlmaa
