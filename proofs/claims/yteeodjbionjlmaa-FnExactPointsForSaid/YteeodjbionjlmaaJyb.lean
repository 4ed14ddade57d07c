import Derived.Test.YteeodjbionjlmaaChecked
import Derived.WalkKit
import Derived.ProofKit
import Derived.OpenShut
import Derived.ShutString
import Derived.ChangeOld
import Derived.Below
import Derived.Lib.Hide
import Derived.RangeFuncBox
import Derived.RangeFuncNested
import Derived.RangeFuncLeaves
import Derived.RangeFuncBound
import Derived.RangeFuncCalls
import Derived.Test.YteeodjbionjlmaaJb
import Derived.Shelf.Abstract
namespace Go.Proofs.Yteeodjbionjlmaa
open Go.ChangeShapes Go.WideShapes Go.ChangeAt Go.RowKit
open Go.ChangeMaps (open_string shut_string)
set_option linter.unusedVariables false
/-- what an iterator that keeps rows of type t may turn: no cells, or cells of type t -/
def loose (t : TypeId) : Obj → Bool
  | .cells _ e _ => e == t
  | _ => true
/-- a step of such an iterator: what lay below B, and cells of other types, lie as they lay -/
structure Rl (t : TypeId) (B : Nat) (X Y : World) : Prop where
  os : Y.os = X.os
  tape : Y.tape = X.tape
  output : Y.output = X.output
  size : X.heap.size ≤ Y.heap.size
  same : ∀ (k : Nat) (o : Obj), X.heap[k]? = some o → (k < B ∨ loose t o = false) → Y.heap[k]? = some o
theorem Rl.refl (t : TypeId) (B : Nat) (X : World) : Rl t B X X := ⟨rfl, rfl, rfl, Nat.le_refl _, fun _ _ h _ => h⟩
theorem Rl.trans {t : TypeId} {B : Nat} {X Y Z : World} (h : Rl t B X Y) (k : Rl t B Y Z) : Rl t B X Z :=
  ⟨k.os.trans h.os, k.tape.trans h.tape, k.output.trans h.output, Nat.le_trans h.size k.size, fun i o hi hb => k.same i o (h.same i o hi hb) hb⟩
theorem Rl.mono {t : TypeId} {B B' : Nat} {X Y : World} (h : Rl t B X Y) (hb : B' ≤ B) : Rl t B' X Y :=
  ⟨h.os, h.tape, h.output, h.size, fun i o hi hk => h.same i o hi (hk.imp_left (fun z => Nat.lt_of_lt_of_le z hb))⟩
theorem Rl.of_grown {t : TypeId} {B : Nat} {X Y : World} {row : Option Nat} (h : X.grownBy Y row) (hr : ∀ r, row = some r → B ≤ r ∧ ∀ o, X.heap[r]? = some o → loose t o = true) : Rl t B X Y :=
  ⟨h.os, h.tape, h.output, h.size, fun k o hk hb => by
    refine (h.block k (Array.getElem?_eq_some_iff.1 hk).1 (fun e => ?_)).trans hk
    obtain ⟨h1, h2⟩ := hr k e.symm
    rcases hb with hb | hb
    · omega
    · rw [h2 o hk] at hb; cases hb⟩
theorem Rl.alloc {t : TypeId} {B : Nat} {X Y : World} (h : Rl t B X Y) (o : Obj) : Rl t B X (Y.alloc o) :=
  h.trans (.of_grown (World.grownBy_alloc Y o none) (fun r e => by cases e))
/-- an invariant that does not mind such steps -/
def RlFrom {β : Type} (t : TypeId) (B : Nat) (J : β → World → Prop) : Prop := ∀ s X Y, J s X → Rl t B X Y → J s Y
theorem RlFrom.and {β : Type} {t : TypeId} {B : Nat} {I J : β → World → Prop} (h : RlFrom t B I) (k : RlFrom t B J) : RlFrom t B (fun s W => I s W ∧ J s W) :=
  fun s X Y hs hr => ⟨h s X Y hs.1 hr, k s X Y hs.2 hr⟩
theorem RlFrom.mono {β : Type} {t : TypeId} {B B' : Nat} {I : β → World → Prop} (h : RlFrom t B I) (hb : B ≤ B') : RlFrom t B' I := fun s X Y hs hr => h s X Y hs (hr.mono hb)
theorem RlFrom.below {β : Type} (t : TypeId) {n0 B : Nat} (w : World) (hn : n0 ≤ w.heap.size) (hB : n0 ≤ B) : RlFrom t B (fun (_ : β) W => Below n0 w W) :=
  fun _ X Y hs hr => hs.trans ⟨hr.os, hr.tape, hr.output, hr.size, fun k hk => by
    have hlt : k < X.heap.size := by have := hs.size; omega
    have e := Array.getElem?_eq_getElem hlt
    rw [e]; exact hr.same k _ e (.inl (by omega))⟩
theorem RlFrom.turn {β : Type} {t : TypeId} {B : Nat} {J : β → World → Prop} (h : RlFrom t B J) {s : β} {X : World} {l : Nat} {o : Obj} (o' : Obj) (hs : J s X) (hB : B ≤ l) (hl : X.heap[l]? = some o) (ho : loose t o = true) : J s (X.putObj l o') :=
  h s X _ hs (.of_grown (grownBy_putObj' X l o') (fun r e => by cases e; exact ⟨hB, fun o2 h2 => by rw [hl] at h2; cases h2; exact ho⟩))
/-- the contract of an iterator that keeps rows of its own -/
def SeqR {α : Type} (t : TypeId) (F : Fence) (n : Nat) (P : Program) (g : Nat) (lb : Array Value) (encs : α → Array Value) (Kp : World → World → Prop) (S Sp : List α → Prop) (N : Nat) (w : World) : Prop :=
  ∀ (l : Nat) (J Jx : List α → World → Prop) (W : World), Below w.heap.size w W → l < W.heap.size → RlFrom t W.heap.size J → RlFrom t W.heap.size Jx →
    (∀ pre x W1, J pre W1 → pre.length < N → Sp (pre ++ [x]) → YieldAt F (n - 1) P l (encs x) W1 fun e W' => KeepsFrom (l + 1) W1 W' ∧
      ((e = .returned (.bool true) ∧ J (pre ++ [x]) W' ∧ Kp W1 W') ∨ (e = .returned (.bool false) ∧ Jx (pre ++ [x]) W'))) →
    J [] W →
    CallsIn F n P g (#[.func (.yield l) #[] #[]] ++ lb) W fun e W' => (∃ v, e = .returned v) ∧ ((∃ xs, S xs ∧ J xs W') ∨ (∃ pre, Sp pre ∧ Jx pre W'))
/-- a range over such an iterator -/
theorem wpIn_rangeR {α : Type} {F : Fence} {n : Nat} {P : Program} {t : TypeId} {g : Operand} {ps : Array Tmp} {assign body : Code} {Q : Exit → Act → World → Prop} {a : Act} {w : World}
    (hro : F.round = none) (h1 : 1 ≤ n) {gf : Nat} {lb : Array Value} (hg : a.eval g = .func (.func gf) #[] lb) (hFg : F.fn gf) (eg : ∀ args w, (callFunc gf args).run P w = .ok (.enter gf args) w)
    {encs : α → Array Value} {Kp : World → World → Prop} {S Sp : List α → Prop} {N : Nat} {w0 : World} (hseq : SeqR t F (n - 1) P gf lb encs Kp S Sp N w0)
    (hKt : ∀ {A B C : World}, Kp A B → Kp B C → Kp A C) (hKb : ∀ (W : World) (l : Nat) (r r' : Loop), w.heap.size ≤ l → W.heap[l]? = some (.loop r) → Kp W (W.putObj l (.loop r'))) (hb0 : Below w0.heap.size w0 w) (hps : ∀ x, (encs x).size = ps.size)
    (I : List α → World → Prop) (Ix : Code → List α → World → Prop) (hI : RlFrom t w.heap.size I) (hIx : ∀ c, RlFrom t w.heap.size (Ix c)) (h0 : I [] w) (a₁ : α → Act)
    (hassign : ∀ (l : Nat) (x : α) (W : World) (K : Act → World → Prop), K (a₁ x) W →
      assign.wpIn (F.inRound l) (n - 1 - 1) P (Exit.then K (fun _ _ _ => False)) { tmps := (ps.zip (encs x)).foldl (fun t (p, v) => t.setIfInBounds p v) a.tmps, defers := [] } W)
    (hbody : ∀ (l : Nat) (pre : List α) (x : α) (W : World), w.heap.size ≤ l → I pre W → pre.length < N → Sp (pre ++ [x]) → body.wpIn (F.inRound l) (n - 1 - 1) P (ownPostG w.heap.size Kp I Ix (pre ++ [x]) W) (a₁ x) W)
    (hdone : ∀ (D : Nat) (xs : List α) (W : World), w.heap.size ≤ D → S xs → I xs W → W.heap[D]? = some (.deferred (some [])) → Q .normal { a with defers := { target := .collected D, args := #[] } :: a.defers } W)
    (hstop : ∀ (D : Nat) (c : Code) (pre : List α) (W : World), w.heap.size ≤ D → Sp pre → Ix c pre W → W.heap[D]? = some (.deferred (some [])) → c.wpIn F n P Q { a with defers := { target := .collected D, args := #[] } :: a.defers } W) :
    (Code.rangeFunc g ps assign body).wpIn F n P Q a w := by
  refine wpIn_rangeFunc (fun fn hfn => ?_)
  rw [hro]
  let Z := w.heap.size
  let mk : LoopState → Option Code → Loop := fun st pe => { state := st, pending := pe, fn, tmps := a.tmps, params := ps, assign, body, defers := Z }
  let X := (w.alloc (.deferred (some []))).alloc (.loop (mk .ready none))
  have eX : X.heap.size = Z + 2 := by simp [X, Z]
  -- the two blocks of book-keeping, in a world
  let two : World → Loop → Prop := fun W r => W.heap[Z + 1]? = some (.loop r) ∧ W.heap[Z]? = some (.deferred (some []))
  have twoX : two X (mk .ready none) := by
    constructor
    · have h := World.alloc_heap_new (w.alloc (.deferred (some []))) (.loop (mk .ready none))
      rwa [World.size_alloc] at h
    · exact (Below.heap_alloc _ _ _ (by simp [Z])).trans (World.alloc_heap_new w _)
  have twoR : ∀ {W W' : World} {r : Loop}, two W r → Rl t X.heap.size W W' → two W' r := fun h k => ⟨k.same _ _ h.1 (.inl (by omega)), k.same _ _ h.2 (.inl (by omega))⟩
  have twoP : ∀ {W : World} {r r' : Loop}, two W r → two (W.putObj (Z + 1) (.loop r')) r' := fun h =>
    ⟨World.putObj_heap_same (Array.getElem?_eq_some_iff.1 h.1).1, (World.putObj_heap_other (by omega)).trans h.2⟩
  have twoK : ∀ {W W' : World} {r : Loop}, two W r → KeepsFrom Z W W' → two W' r := fun h k => ⟨k.same _ _ (by omega) h.1 rfl, k.same _ _ (Nat.le_refl _) h.2 rfl⟩
  have turn : ∀ {J : List α → World → Prop} {s : List α} {W : World} {r : Loop} (r' : Loop), RlFrom t w.heap.size J → J s W → two W r → J s (W.putObj (Z + 1) (.loop r')) :=
    fun r' hJ hs h => hJ.turn _ hs (Nat.le_succ _) h.1 rfl
  have hX0 : I [] X := hI [] w X h0 (((Rl.refl t _ w).alloc _).alloc _)
  have hbX : Below w0.heap.size w0 X := hb0.trans ((((Below.refl _ w).alloc (Nat.le_refl _) _).alloc (by simp) _).mono hb0.size)
  refine ⟨Z + 1, [{ target := .collected Z, args := #[] }], X, { target := .fn (.func gf) lb, args := #[.func (.yield (Z + 1)) #[] #[]] }, X, gf,
    #[.func (.yield (Z + 1)) #[] #[]] ++ lb, X, run_enterLoop_outer _ _ _ _ _, by simp only [resolve, hg]; simp [go_sem], fun f' hf' => by simp [Target.leads] at hf'; subst hf'; exact hFg, by simp [invoke, go_sem, eg], fun _ => h1, ?_⟩
  have hc := hseq (Z + 1) (fun pre W => I pre W ∧ two W (mk .ready none)) (fun pre W => ∃ c, Ix c pre W ∧ two W (mk .done (some c))) X hbX (by omega)
    (fun s A B hs hr => ⟨hI s A B hs.1 (hr.mono (by omega)), twoR hs.2 hr⟩)
    (fun s A B ⟨c, hs, ht⟩ hr => ⟨c, hIx c s A B hs (hr.mono (by omega)), twoR ht hr⟩) ?round ⟨hX0, twoX⟩
  case round =>
    rintro pre x W ⟨hi, ht⟩ hlen hsp
    refine ⟨fn, _, assign, body, run_yield (P := P) (args := encs x) ht.1 (hps x), roundIn_of_wpIn hfn (hassign _ x W _ ⟨_, run_beginRound ht.1 rfl, ?_⟩)⟩
    have htB := twoP (r' := { mk .ready none with state := .busy }) ht
    have kB := hKb W _ _ { mk .ready none with state := .busy } (Nat.le_succ _) ht.1
    refine wpIn_mono (hbody _ pre x _ (Nat.le_succ _) (turn _ hI hi ht) hlen hsp) ?_
    intro e a3 W3 hp
    have far : ∀ (r : Loop), KeepsFrom Z (W.putObj (Z + 1) (.loop { mk .ready none with state := .busy })) W3 → KeepsFrom (Z + 1 + 1) W (W3.putObj (Z + 1) (.loop r)) := fun r hk =>
      ((KeepsFrom.of_grownBy (grownBy_putObj' W (Z + 1) _) (fun j ej => by cases ej; omega)).trans ⟨hk.size, fun k o hk2 => hk.same k o (by omega)⟩).trans (KeepsFrom.of_grownBy (grownBy_putObj' W3 (Z + 1) _) (fun j ej => by cases ej; omega))
    have left : ∀ (c : Code), KeepsFrom Z (W.putObj (Z + 1) (.loop { mk .ready none with state := .busy })) W3 → Ix c (pre ++ [x]) W3 → ∃ v w', (Instr.endRound (Z + 1) (some c)).run P W3 = .ok v w' ∧ KeepsFrom (Z + 1 + 1) W w' ∧
        ((Ending.returned v = .returned (.bool true) ∧ (I (pre ++ [x]) w' ∧ two w' (mk .ready none)) ∧ Kp W w') ∨ (Ending.returned v = .returned (.bool false) ∧ ∃ c, Ix c (pre ++ [x]) w' ∧ two w' (mk .done (some c)))) := fun c hk hx =>
      ⟨_, _, run_endRound (P := P) (some c) (twoK htB hk).1, far _ hk, .inr ⟨rfl, c, turn _ (hIx c) hx (twoK htB hk), twoP (twoK htB hk)⟩⟩
    cases e with
    | normal => exact ⟨_, _, run_endRound (P := P) none (twoK htB hp.1).1, far _ hp.1, .inl ⟨rfl, ⟨turn _ hI hp.2.2 (twoK htB hp.1), twoP (twoK htB hp.1)⟩, hKt kB (hKt hp.2.1 (hKb W3 _ _ _ (Nat.le_succ _) (twoK htB hp.1).1))⟩⟩
    | ret => exact left .ret hp.1 hp.2
    | exit id => exact left (.exit id) hp.1 hp.2
    | goto id => exact left (.goto id) hp.1 hp.2
    | panic ch => exact hp.elim
    | outgrown => exact hp.elim
  refine hc.mono ?_
  rintro e W ⟨⟨v, rfl⟩, ⟨xs, hS, hi, ht⟩ | ⟨pre, hS, c, hi, ht⟩⟩
  · exact ⟨none, _, run_endLoop (P := P) ht.1 (by simp [mk]), hdone Z xs _ (Nat.le_refl _) hS (turn _ hI hi ht) ((World.putObj_heap_other (by omega)).trans ht.2)⟩
  · exact ⟨some c, _, run_endLoop (P := P) ht.1 (by simp [mk]), hstop Z c pre _ (Nat.le_refl _) hS (turn _ (hIx c) hi ht) ((World.putObj_heap_other (by omega)).trans ht.2)⟩
end Go.Proofs.Yteeodjbionjlmaa
namespace Go.Proofs.Yteeodjbionjlmaa
open Go.ChangeShapes Go.WideShapes Go.ChangeAt Go.RowKit
open Go.ChangeMaps (open_string shut_string)
set_option linter.unusedVariables false
/-- what a body leaves as it lay: walks, and cells of the types of T -/
def held (T : TypeId → Bool) : Obj → Bool
  | .cells _ e _ => T e
  | o => o.isWalk
structure Kt (T : TypeId → Bool) (X Y : World) : Prop where
  size : X.heap.size ≤ Y.heap.size
  same : ∀ (k : Nat) (o : Obj), X.heap[k]? = some o → held T o = true → Y.heap[k]? = some o
theorem Kt.refl (T : TypeId → Bool) (X : World) : Kt T X X := ⟨Nat.le_refl _, fun _ _ h _ => h⟩
theorem Kt.trans {T : TypeId → Bool} {X Y Z : World} (h : Kt T X Y) (k : Kt T Y Z) : Kt T X Z := ⟨Nat.le_trans h.size k.size, fun i o hi hb => k.same i o (h.same i o hi hb) hb⟩
theorem Kt.of_below {T : TypeId → Bool} {X Y : World} (h : Below X.heap.size X Y) : Kt T X Y :=
  ⟨h.size, fun k o hk _ => (h.block k (Array.getElem?_eq_some_iff.1 hk).1).trans hk⟩
theorem Kt.of_grown {T : TypeId → Bool} {X Y : World} {row : Option Nat} (h : X.grownBy Y row) (hr : ∀ r, row = some r → ∀ o, X.heap[r]? = some o → held T o = false) : Kt T X Y :=
  ⟨h.size, fun k o hk hh => (h.block k (Array.getElem?_eq_some_iff.1 hk).1 (fun e => by rw [hr k e.symm o hk] at hh; cases hh)).trans hk⟩
theorem Kt.store {T : TypeId → Bool} {X : World} {B : Nat} {cs : Array Value} {e : TypeId} {fz : Nat × Nat} (h : X.heap[B]? = some (.cells cs e fz)) (he : T e = false) (v : Value) : Kt T X (X.setCell ⟨B, 0, none⟩ v) :=
  .of_grown (grownBy_setCell' X B v) (fun r er o ho => by cases er; rw [h] at ho; cases ho; exact he)
theorem Kt.loop {T : TypeId → Bool} (W : World) (l : Nat) (r r' : Loop) (h : W.heap[l]? = some (.loop r)) : Kt T W (W.putObj l (.loop r')) :=
  .of_grown (grownBy_putObj' W l _) (fun r er o ho => by cases er; rw [h] at ho; cases ho; rfl)
theorem Kt.drew {T : TypeId → Bool} (W : World) : Kt T W W.drew := ⟨Nat.le_refl _, fun _ _ h _ => h⟩
theorem Rl.boxed {t : TypeId} {B b : Nat} {e : TypeId} {v : Value} {X Y : World} (h : Boxed X b e v) (he : e ≠ t ∨ b < B) (k : Rl t B X Y) : Boxed Y b e v :=
  k.same b _ h (he.symm.imp_right (fun z => by simp [loose, z]))
theorem Rl.own {t : TypeId} {B base e size n : Nat} {v : Value} {xs : List Value} {X Y : World} (h : X.ownsRow base e size v n xs) (he : e ≠ t) (k : Rl t B X Y) : Y.ownsRow base e size v n xs := by
  rcases h.2 with ⟨h0, h1⟩ | ⟨g, cap, cur, hv, hg, hh, hn, hcap, hsz, htake⟩
  · exact ⟨h.1, .inl ⟨h0, h1⟩⟩
  · exact ⟨h.1, .inr ⟨g, cap, cur, hv, hg, k.same g _ hh (.inr (by simp [loose, he])), hn, hcap, hsz, htake⟩⟩
theorem Rl.below {t : TypeId} {n0 B : Nat} {w X Y : World} (h : Below n0 w X) (hn : n0 ≤ w.heap.size) (hB : n0 ≤ B) (k : Rl t B X Y) : Below n0 w Y := RlFrom.below t w hn hB () X Y h k
/-- a box that is kept -/
theorem Kt.boxed {T : TypeId → Bool} {b : Nat} {e : TypeId} {v : Value} {X Y : World} (h : Boxed X b e v) (he : T e = true) (k : Kt T X Y) : Boxed Y b e v := k.same b _ h he
theorem Kt.own {T : TypeId → Bool} {base e size n : Nat} {v : Value} {xs : List Value} {X Y : World} (h : X.ownsRow base e size v n xs) (he : T e = true) (k : Kt T X Y) : Y.ownsRow base e size v n xs := by
  rcases h.2 with ⟨h0, h1⟩ | ⟨g, cap, cur, hv, hg, hh, hn, hcap, hsz, htake⟩
  · exact ⟨h.1, .inl ⟨h0, h1⟩⟩
  · exact ⟨h.1, .inr ⟨g, cap, cur, hv, hg, k.same g _ hh he, hn, hcap, hsz, htake⟩⟩
theorem Kt.alloc {T : TypeId → Bool} (X : World) (o : Obj) : Kt T X (X.alloc o) := .of_grown (World.grownBy_alloc X o none) (fun r er => by cases er)
theorem Kt.rowed {T : TypeId → Bool} {X Y : World} {base e size n : Nat} {v : Value} {xs : List Value} {o : Obj} (hv : X.ownsRow base e size v n xs) (he : T e = false) (hg : (X.alloc o).grownBy Y v.ownBlock) : Kt T X Y := by
  refine (Kt.alloc X o).trans (.of_grown hg (fun r er o2 h2 => ?_))
  have hl := hv.lt r er
  rcases hv.2 with ⟨rfl, _⟩ | ⟨g, cap, cur, rfl, hbg, hh, -⟩
  · cases er
  · cases er
    rw [Below.heap_alloc _ _ _ hl.2, hh] at h2
    cases h2
    exact he
theorem Kt.appended {T : TypeId → Bool} {X Y : World} {base B t e size n : Nat} {v u : Value} {xs : List Value} {o : Obj} (hv : X.ownsRow base e size v n xs) (he : T e = false) (ht : T t = false) (hg : (X.alloc o).grownBy Y v.ownBlock) (hb : Boxed Y B t u) (v' : Value) : Kt T X (Y.setCell ⟨B, 0, none⟩ v') :=
  (Kt.rowed hv he hg).trans (Kt.store (show Y.heap[B]? = _ from hb) ht v')
end Go.Proofs.Yteeodjbionjlmaa
