import Derived.Test.YteeodjbionjlmaaJa
import Derived.Test.YteeodjbionjlmaaJyc
namespace Go.Proofs.Yteeodjbionjlmaa
set_option linter.unusedVariables false
/-- messages of a log, field by field -/
structure Mg where
  num : Int
  sdr : Int
  tick : Int
  text : ByteArray
  edits : Int
  gone : Bool
  reply : Int
  likes : List Int
def numB (n : Int) : Bool := decide (1 ≤ n ∧ n ≤ 1000000000)
def amtB (n : Int) : Bool := decide (0 ≤ n ∧ n ≤ 1000000000)
def repB (m : Mg) : Bool := decide (0 ≤ m.reply ∧ m.reply ≤ m.num - 1)
def likesB (m : Mg) : Bool := decide (m.likes.length ≤ 20) && (memB m.likes && !decide (m.sdr ∈ m.likes))
def goneB (m : Mg) : Bool := !m.gone || (m.text.toList.isEmpty && decide (m.likes.length = 0))
def msgB (m : Mg) : Bool := numB m.num && (idB m.sdr && (tickB m.tick && (textB m.text && (amtB m.edits && (repB m && (likesB m && goneB m))))))
/-- a message behind another one -/
def linkB (p : Option Mg) (m : Mg) : Bool := msgB m && match p with | none => true | some p => decide (p.num < m.num) && decide (p.tick ≤ m.tick)
def chainB : Option Mg → List Mg → Bool
  | _, [] => true
  | p, m :: r => linkB p m && chainB (some m) r
def lastO : Option Mg → List Mg → Option Mg
  | p, [] => p
  | _, m :: r => lastO (some m) r
def lowB (next : Int) (ms : List Mg) : Bool := ms.all fun m => decide (m.num < next)
def logB (next : Int) (ms : List Mg) : Bool := decide (ms.length ≤ 40) && (numB next && (chainB none ms && lowB next ms))
def pNum (p : Option Mg) : Int := match p with | none => 0 | some p => p.num
def pTick (p : Option Mg) : Int := match p with | none => 0 | some p => p.tick
theorem msg_num {m : Mg} (h : msgB m = true) : 1 ≤ m.num ∧ m.num ≤ 1000000000 := by
  simp only [msgB, numB, Bool.and_eq_true, decide_eq_true_eq] at h; exact h.1
theorem msg_tick {m : Mg} (h : msgB m = true) : 0 ≤ m.tick ∧ m.tick ≤ 1000000 := by
  simp only [msgB, tickB, Bool.and_eq_true, decide_eq_true_eq] at h; exact h.2.2.1
theorem link_eq (p : Option Mg) (m : Mg) : linkB p m = (msgB m && (decide (pNum p < m.num) && decide (pTick p ≤ m.tick))) := by
  cases p with
  | some p => rfl
  | none =>
    cases hm : msgB m with
    | false => simp [linkB, hm]
    | true =>
      have h1 := msg_num hm
      have h2 := msg_tick hm
      have e1 : decide (pNum none < m.num) = true := decide_eq_true (show (0 : Int) < m.num by omega)
      have e2 : decide (pTick none ≤ m.tick) = true := decide_eq_true (show (0 : Int) ≤ m.tick from h2.1)
      rw [e1, e2]
      simp [linkB, hm]
theorem chain_append : ∀ (a b : List Mg) (p : Option Mg), chainB p (a ++ b) = (chainB p a && chainB (lastO p a) b) := by
  intro a
  induction a with
  | nil => intro b p; simp [chainB, lastO]
  | cons m r ih => intro b p; simp [chainB, lastO, ih, Bool.and_assoc]
theorem lastO_append : ∀ (a b : List Mg) (p : Option Mg), lastO p (a ++ b) = lastO (lastO p a) b := by
  intro a
  induction a with
  | nil => intro b p; rfl
  | cons m r ih => intro b p; simp [lastO, ih]
theorem take_get {ms : List Mg} {k : Nat} {m : Mg} (h : ms[k]? = some m) : ms.take (k + 1) = ms.take k ++ [m] := by
  rw [List.take_add_one, h]; rfl
theorem chain_step {ms : List Mg} {k : Nat} {m : Mg} (h : ms[k]? = some m) : chainB none (ms.take (k + 1)) = (chainB none (ms.take k) && linkB (lastO none (ms.take k)) m) := by
  rw [take_get h, chain_append]; simp [chainB]
theorem last_step {ms : List Mg} {k : Nat} {m : Mg} (h : ms[k]? = some m) : lastO none (ms.take (k + 1)) = some m := by
  rw [take_get h, lastO_append]; rfl
theorem chain_split {ms : List Mg} {k : Nat} {m : Mg} (h : ms[k]? = some m) : ms = ms.take k ++ m :: ms.drop (k + 1) := by
  have hk : k < ms.length := (List.getElem?_eq_some_iff.1 h).1
  have e : ms[k] = m := by rw [List.getElem?_eq_getElem hk] at h; injection h
  conv => lhs; rw [← List.take_append_drop k ms, List.drop_eq_getElem_cons hk, e]
theorem chainM_no {ms : List Mg} {k : Nat} {m : Mg} (h : ms[k]? = some m) (hl : linkB (lastO none (ms.take k)) m = false) : chainB none ms = false := by
  rw [chain_split h, chain_append]; simp [chainB, hl]
theorem low_no {next : Int} {ms : List Mg} {k : Nat} {m : Mg} (h : ms[k]? = some m) (hl : ¬ m.num < next) : lowB next ms = false := by
  rw [← Bool.not_eq_true]; intro H
  have := List.all_eq_true.1 H m (List.mem_of_getElem? h)
  simp at this; omega
theorem low_step {next : Int} {ms : List Mg} {k : Nat} {m : Mg} (h : ms[k]? = some m) (h0 : lowB next (ms.take k) = true) (hl : m.num < next) : lowB next (ms.take (k + 1)) = true := by
  rw [take_get h]; unfold lowB at h0 ⊢; rw [List.all_append, h0]; simpa using hl
/-- the last one is the greatest -/
theorem chain_last : ∀ (ms : List Mg) (p : Option Mg), chainB p ms = true → pNum p ≤ pNum (lastO p ms) ∧ ∀ m ∈ ms, m.num ≤ pNum (lastO p ms) := by
  intro ms
  induction ms with
  | nil => intro p _; exact ⟨by simp [lastO], fun _ h => by cases h⟩
  | cons m r ih =>
    intro p h
    rw [chainB, link_eq, Bool.and_eq_true] at h
    obtain ⟨h1, h2⟩ := h
    simp only [Bool.and_eq_true, decide_eq_true_eq] at h1
    have h3 := ih (some m) h2
    refine ⟨?_, fun x hx => ?_⟩
    · have := h3.1
      simp only [lastO]
      have h4 : pNum (some m) = m.num := rfl
      omega
    · rcases List.mem_cons.1 hx with rfl | hx
      · exact h3.1
      · exact h3.2 x hx
theorem lastO_mem : ∀ (ms : List Mg) (p : Option Mg), lastO p ms = p ∨ ∃ m ∈ ms, lastO p ms = some m := by
  intro ms
  induction ms with
  | nil => intro p; exact .inl rfl
  | cons m r ih =>
    intro p
    right
    rcases ih (some m) with h | ⟨x, hx, h⟩
    · exact ⟨m, List.mem_cons_self, h⟩
    · exact ⟨x, List.mem_cons_of_mem _ hx, h⟩
theorem low_last {next : Int} {ms : List Mg} (h : chainB none ms = true) (hn : 1 ≤ next) : decide (pNum (lastO none ms) < next) = lowB next ms := by
  rw [Bool.eq_iff_iff, decide_eq_true_eq]
  unfold lowB
  rw [List.all_eq_true]
  constructor
  · intro hl m hm
    have := (chain_last ms none h).2 m hm
    simp; omega
  · intro ha
    rcases lastO_mem ms none with e | ⟨m, hm, e⟩
    · rw [e]; show (0 : Int) < next; omega
    · rw [e]; have := ha m hm; show m.num < next; simpa using this
theorem logB_long {next : Int} {ms : List Mg} (h : 40 < ms.length) : logB next ms = false := by
  have : decide (ms.length ≤ 40) = false := decide_eq_false (by omega)
  simp [logB, this]
theorem logB_next {next : Int} {ms : List Mg} (h : numB next = false) : logB next ms = false := by simp [logB, h]
theorem logB_chain {next : Int} {ms : List Mg} (h : chainB none ms = false) : logB next ms = false := by simp [logB, h]
theorem logB_low {next : Int} {ms : List Mg} (h : lowB next ms = false) : logB next ms = false := by simp [logB, h]
theorem logB_yes {next : Int} {ms : List Mg} (h : ms.length ≤ 40) (h1 : numB next = true) (h2 : chainB none ms = true) (h3 : lowB next ms = true) : logB next ms = true := by
  simp [logB, h, h1, h2, h3]
/-- lengths that a law lets by -/
def fitL (ms : List Mg) : Prop := ms.length ≤ 1048576 ∧ ∀ m ∈ ms, m.likes.length ≤ 1048576 ∧ m.text.size ≤ 1048576
end Go.Proofs.Yteeodjbionjlmaa
