import Derived.Test.YtdpclbmcmgknjaaChecked
import Derived.WalkKit
import Derived.ProofKit
import Derived.OpenShut
import Derived.ShutString
import Derived.ChangeOld
import Derived.Below
import Derived.Lib.Hide
import Derived.Deep.RegionHeld3
import Derived.Deep.RegionLawGrows
import Derived.WalkSpells
import Derived.Test.YtdpclbmcmgknjaaZPresS
namespace Go.Proofs.Ytdpclbmcmgknjaa
open Go.ChangeShapes Go.WideShapes Go.ChangeAt Go.RowKit
open Go.ChangeMaps (open_string shut_string)
set_option linter.unusedVariables false
set_option maxRecDepth 100000
theorem flat_cells {α : Type} {sz : Nat} {f : α → List Value} {w : World} {B n : Nat} {a : Addr} {xs : List α} (hf : ∀ x, (f x).length = sz) (hsz : 0 < sz) (h : SRow sz f w B (some a) n xs) :
    ∀ (j : Nat) (u : Value), (xs.flatMap f)[j]? = some u → w.cell? (a.add j) = some u := by
  intro j u hu
  have hj : j < xs.length * sz := by
    have := (List.getElem?_eq_some_iff.1 hu).1
    rw [flat_len hf] at this
    exact this
  have hd : j / sz < xs.length := Nat.div_lt_of_lt_mul (by rw [Nat.mul_comm]; exact hj)
  have hz : xs[j / sz]? = some xs[j / sz] := List.getElem?_eq_getElem hd
  obtain ⟨b, off, e, hb, hc⟩ := h.2 (by rw [← h.1]; exact Nat.lt_of_le_of_lt (Nat.zero_le _) hd)
  injection e with e
  subst e
  have e2 : j / sz * sz + j % sz = j := Nat.div_add_mod' j sz
  have hg := flat_get hf xs (j / sz) _ hz (j % sz) (Nat.mod_lt _ hsz)
  rw [e2, hu] at hg
  have := hc (j / sz) _ hz (j % sz) u hg.symm
  rw [Nat.add_assoc, e2] at this
  clear hg e2 hz hd hj hu
  cases j <;> simpa [Addr.add] using this
theorem bnC_cells (xs : List Bn) : ∀ u ∈ xs.flatMap bnC, u.oneCell' = true := by
  intro u hu
  obtain ⟨z, _, hz⟩ := List.mem_flatMap.1 hu
  simp [bnC] at hz
  rcases hz with rfl | rfl <;> rfl
/-- the shape of a row that is one's own -/
theorem own_form {w : World} {base e size n : Nat} {v : Value} {xs : List Value} (h : w.ownsRow base e size v n xs) : ∃ A c, v = .slice A n c := by
  rcases h.2 with ⟨rfl, rfl⟩ | ⟨g, cap, cur, rfl, _⟩
  · exact ⟨_, _, rfl⟩
  · exact ⟨_, _, rfl⟩
/-- an append to an empty slice without room, as a step of a region: what stood stands -/
theorem step_append_fresh {P : Program} {w : World} {ops : Array Oper} {o : Oper} {a : Act} {K : Act → World → Prop} {Q : Exit → Act → World → Prop} {E : Prop} (hgd : o.guard = none) (s x : Operand) (t : TypeId)
    (ho : o.op = .call { callee := .builtin .append, args := #[s, x], argTypes := #[t, t] })
    (base : Nat) (e : TypeId) (i : TypeInfo) (z : Value) (size bytes : Nat) (ht : P.underlying t = some (.slice e)) (hi : P.info? e = some i) (hz : i.zero = some z)
    (hsize : i.size = size) (hby : i.bytes = bytes) (hzs : z.cells.size = size) (hsz : 0 < size)
    (b : Nat) (hs : a.eval s = .slice (some ⟨b, 0, none⟩) 0 0) (hmade : Blk w b e #[]) (hbb : base ≤ b)
    (ad : Addr) (m c : Nat) (news : List Value) (hx : a.eval x = .slice (some ad) m c) (hl : news.length = m * size) (hnews : ∀ j u, news[j]? = some u → w.cell? (ad.add j) = some u) (h1 : ∀ u ∈ news, u.oneCell' = true)
    (h63 : m ≤ maxLen) (hbytes : m * bytes ≤ 140737488355328) (hbase : base ≤ w.heap.size)
    (h : ∀ (v' : Value) (w' : World), w'.ownsRow base e size v' m news → Below w.heap.size w w' → K (a.put o.dst v') w') :
    if Region.wanted o (yielded ops a.tmps) = true then Oper.wp P o a w K Q else E := by
  by_cases hm : m = 0
  · subst hm
    obtain rfl : news = [] := List.eq_nil_of_length_eq_zero (by simpa using hl)
    refine step_append_room hgd s x t ho e i size ht hi hsize b 0 0 0 hs ad 0 c [] hx hl hnews h1 (Nat.le_refl _) (fun j hj => by simp at hj) ?_
    refine h _ _ ⟨by simp, .inr ⟨b, 0, #[], rfl, hbb, hmade, Nat.le_refl _, by unfold maxLen; omega, by simp, by simp⟩⟩ (Below.refl _ _)
  · refine step_append_grows hgd s x t ho e i z size bytes ht hi hz hsize hby hzs hsz _ 0 0 [] hs (fun e => by cases e) (by simp) (fun _ _ j u hu => by simp at hu) ad m c news hx hl hnews h1 (by omega) (by omega) (by rw [Nat.zero_add]; exact hbytes) ?_
    intro v' w' ho' hg
    rw [Nat.zero_add, List.nil_append] at ho'
    exact h v' w' (World.ownsRow.mono ho' hbase) ⟨hg.os, hg.tape, hg.output, hg.size, fun k hk => hg.block k hk (by simp)⟩
theorem cells3 {w : World} {g t : Nat} {v0 v1 v2 : Value} (h : Blk w g t #[v0, v1, v2]) : w.cell? ⟨g, 0, none⟩ = some v0 ∧ w.cell? ⟨g, 1, none⟩ = some v1 ∧ w.cell? ⟨g, 2, none⟩ = some v2 := ⟨h.cell 0, h.cell 1, h.cell 2⟩
theorem szA (w : World) (x : Obj) : (w.alloc x).heap.size = w.heap.size + 1 := by simp
theorem heap_new2 (w : World) (t : TypeId) (cs : Array Value) (k : Nat) (h : k = w.heap.size) : Blk (w.alloc (.cells cs t)) k t cs := by subst h; exact Blk.new w t cs
theorem own_far3 {w : World} {base e size n g : Nat} {v : Value} {xs : List Value} (h : w.ownsRow base e size v n xs) (hne : some g ≠ v.ownBlock) (i j k : Nat) (v0 v1 v2 : Value) :
    (((w.setCell ⟨g, i, none⟩ v0).setCell ⟨g, j, none⟩ v1).setCell ⟨g, k, none⟩ v2).ownsRow base e size v n xs :=
  ownsRow_setCell_other (ownsRow_setCell_other (ownsRow_setCell_other h (fun e => hne e.symm) _) (fun e => hne e.symm) _) (fun e => hne e.symm) _
/-- lists of a presence in memory of one's own -/
def PresOwnS (w : World) (base : Nat) (A1 : Option Addr) (n1 c1 : Nat) (A2 : Option Addr) (n2 c2 : Nat) (A3 : Option Addr) (n3 c3 : Nat) (hs ts ks : List Bn) : Prop :=
  w.ownsRow base 136 2 (.slice A1 n1 c1) n1 (hs.flatMap bnC) ∧ w.ownsRow base 136 2 (.slice A2 n2 c2) n2 (ts.flatMap bnC) ∧ w.ownsRow base 139 2 (.slice A3 n3 c3) n3 (ks.flatMap bnC)
set_option maxHeartbeats 12800000 in
theorem l05Own_any (G n1 c1 n2 c2 n3 c3 : Nat) (a1 a2 a3 : Addr) (hs ts ks : List Bn) (w : World) (k : Blk w G 71 #[.slice (some a1) n1 c1, .slice (some a2) n2 c2, .slice (some a3) n3 c3])
    (h : PresAt w w.heap.size (some a1) n1 (some a2) n2 (some a3) n3 hs ts ks) (hn : n1 + n2 + n3 ≤ 1048576) :
    Calls Try.prog 95 #[.pointer (some ⟨G, 0, none⟩)] w fun e w' => ∃ A1 d1 A2 d2 A3 d3, e = .returned (.agg #[.slice A1 n1 d1, .slice A2 n2 d2, .slice A3 n3 d3]) ∧
      PresOwnS w' w.heap.size A1 n1 d1 A2 n2 d2 A3 n3 d3 hs ts ks ∧ Below w.heap.size w w' := by
  obtain ⟨i1, hi1, hx0, hx1, hx2⟩ := info_parts Try.info_Lease
  obtain ⟨i3, hi3, hz0, hz1, hz2⟩ := info_parts Try.info_Mark
  have HL1 := Lib.hid (show (hs.flatMap bnC).length = n1 * 2 by rw [flat_len bnC_len, h.1.1])
  have HL2 := Lib.hid (show (ts.flatMap bnC).length = n2 * 2 by rw [flat_len bnC_len, h.2.1.1])
  have HL3 := Lib.hid (show (ks.flatMap bnC).length = n3 * 2 by rw [flat_len bnC_len, h.2.2.1])
  have hG := k.lt
  have hne : G ≠ w.heap.size := Nat.ne_of_lt hG
  go_enter Try.func95, Try.ntmps95
  go_wp2_with fail
  obtain ⟨q0, hb0⟩ := one_box w 71 #[.slice none 0 0, .slice none 0 0, .slice none 0 0]
  have zW : w.heap.size + 1 ≤ (w.alloc (.cells #[.slice none 0 0, .slice none 0 0, .slice none 0 0] 71)).heap.size := by simp
  have k0 := k.below hb0 hG
  clear k
  generalize w.alloc (.cells #[.slice none 0 0, .slice none 0 0, .slice none 0 0] 71) = W at *
  go_region_held3 (fun w' => w'.cell? ⟨G, 0, none⟩ = some (.slice (some a1) n1 c1) ∧ w'.cell? ⟨G, 1, none⟩ = some (.slice (some a2) n2 c2) ∧ w'.cell? ⟨G, 2, none⟩ = some (.slice (some a3) n3 c3)) ((with_reducible refine cells3 (t := 71) ?_ <;> (repeat (first | with_reducible exact k0 | with_reducible refine Blk.drew ?_ | with_reducible refine Blk.alloc ?_ _ | with_reducible refine Blk.below ?_ b3 (by first | omega | (simp <;> omega)) | with_reducible refine Blk.below ?_ b2 (by first | omega | (simp <;> omega)) | with_reducible refine Blk.below ?_ b1 (by first | omega | (simp <;> omega)) | with_reducible refine Blk.far ?_ hne _))))
    ((first
      | (refine step_append_fresh (by rfl) (.tmp 3) (.tmp 7) _ (by rfl) w.heap.size 136 i1 (.agg #[.int .i64 0, .int .i64 0]) 2 16 Try.underlying68 hi1 hx0 hx1 hx2 rfl (by decide) _ (by rfl) (by repeat (first | (with_reducible refine heap_new2 _ _ _ _ ?_; simp; done) | with_reducible refine Blk.drew ?_ | with_reducible refine Blk.alloc ?_ _ | with_reducible refine Blk.below ?_ b2 (by first | omega | (simp <;> omega)) | with_reducible refine Blk.below ?_ b1 (by first | omega | (simp <;> omega)))) (by first | omega | (simp <;> omega)) a1 n1 c1 (hs.flatMap bnC) (by rfl) HL1.out (fun j u hu => flat_cells (f := bnC) bnC_len (by decide) ((h.below (by repeat (first | with_reducible exact hb0 | with_reducible refine Below.drew ?_ | with_reducible refine Below.alloc ?_ (by first | omega | (simp <;> omega)) _ | with_reducible refine Below.trans ?_ (b3.mono (by first | omega | (simp <;> omega))) | with_reducible refine Below.trans ?_ (b2.mono (by first | omega | (simp <;> omega))) | with_reducible refine Below.trans ?_ (b1.mono (by first | omega | (simp <;> omega)))))).1) j u hu) (bnC_cells hs) (by unfold maxLen; omega) (by omega) (by first | omega | (simp <;> omega)) ?_; intro (v1 : Value) (w1 : World) o1 b1; obtain ⟨B1, d1, rfl⟩ := own_form o1; have z1 := b1.size; (try simp at z1))
      | (refine step_append_fresh (by rfl) (.tmp 9) (.tmp 13) _ (by rfl) w.heap.size 136 i1 (.agg #[.int .i64 0, .int .i64 0]) 2 16 Try.underlying68 hi1 hx0 hx1 hx2 rfl (by decide) _ (by rfl) (by repeat (first | (with_reducible refine heap_new2 _ _ _ _ ?_; simp; done) | with_reducible refine Blk.drew ?_ | with_reducible refine Blk.alloc ?_ _ | with_reducible refine Blk.below ?_ b2 (by first | omega | (simp <;> omega)) | with_reducible refine Blk.below ?_ b1 (by first | omega | (simp <;> omega)))) (by first | omega | (simp <;> omega)) a2 n2 c2 (ts.flatMap bnC) (by rfl) HL2.out (fun j u hu => flat_cells (f := bnC) bnC_len (by decide) ((h.below (by repeat (first | with_reducible exact hb0 | with_reducible refine Below.drew ?_ | with_reducible refine Below.alloc ?_ (by first | omega | (simp <;> omega)) _ | with_reducible refine Below.trans ?_ (b3.mono (by first | omega | (simp <;> omega))) | with_reducible refine Below.trans ?_ (b2.mono (by first | omega | (simp <;> omega))) | with_reducible refine Below.trans ?_ (b1.mono (by first | omega | (simp <;> omega)))))).2.1) j u hu) (bnC_cells ts) (by unfold maxLen; omega) (by omega) (by first | omega | (simp <;> omega)) ?_; intro (v2 : Value) (w2 : World) o2 b2; obtain ⟨B2, d2, rfl⟩ := own_form o2; have z2 := b2.size; (try simp at z2))
      | (refine step_append_fresh (by rfl) (.tmp 15) (.tmp 19) _ (by rfl) w.heap.size 139 i3 (.agg #[.int .i64 0, .int .i64 0]) 2 16 Try.underlying69 hi3 hz0 hz1 hz2 rfl (by decide) _ (by rfl) (by repeat (first | (with_reducible refine heap_new2 _ _ _ _ ?_; simp; done) | with_reducible refine Blk.drew ?_ | with_reducible refine Blk.alloc ?_ _ | with_reducible refine Blk.below ?_ b2 (by first | omega | (simp <;> omega)) | with_reducible refine Blk.below ?_ b1 (by first | omega | (simp <;> omega)))) (by first | omega | (simp <;> omega)) a3 n3 c3 (ks.flatMap bnC) (by rfl) HL3.out (fun j u hu => flat_cells (f := bnC) bnC_len (by decide) ((h.below (by repeat (first | with_reducible exact hb0 | with_reducible refine Below.drew ?_ | with_reducible refine Below.alloc ?_ (by first | omega | (simp <;> omega)) _ | with_reducible refine Below.trans ?_ (b3.mono (by first | omega | (simp <;> omega))) | with_reducible refine Below.trans ?_ (b2.mono (by first | omega | (simp <;> omega))) | with_reducible refine Below.trans ?_ (b1.mono (by first | omega | (simp <;> omega)))))).2.2) j u hu) (bnC_cells ks) (by unfold maxLen; omega) (by omega) (by first | omega | (simp <;> omega)) ?_; intro (v3 : Value) (w3 : World) o3 b3; obtain ⟨B3, d3, rfl⟩ := own_form o3; have z3 := b3.size; (try simp at z3); have qF : Blk w3 w.heap.size 71 #[.slice none 0 0, .slice none 0 0, .slice none 0 0] := (by repeat (first | with_reducible exact q0 | with_reducible refine Blk.drew ?_ | with_reducible refine Blk.alloc ?_ _ | with_reducible refine Blk.below ?_ b3 (by first | omega | (simp <;> omega)) | with_reducible refine Blk.below ?_ b2 (by first | omega | (simp <;> omega)) | with_reducible refine Blk.below ?_ b1 (by first | omega | (simp <;> omega)))); have s0 := (cells3 qF).1; have s1 := (cells3 qF).2.1; have s2 := (cells3 qF).2.2; have f0 := qF.frozen 0; have f1 := qF.frozen 1; have f2 := qF.frozen 2)))
  all_goals go_wp2
  all_goals
    have oF : w3.ownsRow w.heap.size 136 2 (.slice B1 n1 d1) n1 (hs.flatMap bnC) := by repeat (first | with_reducible exact o1 | with_reducible exact o2 | with_reducible refine own_below ?_ b3 (Nat.le_refl _) | with_reducible refine own_below ?_ b2 (Nat.le_refl _) | with_reducible refine World.ownsRow.alloc ?_ _)
    have oF2 : w3.ownsRow w.heap.size 136 2 (.slice B2 n2 d2) n2 (ts.flatMap bnC) := by repeat (first | with_reducible exact o1 | with_reducible exact o2 | with_reducible refine own_below ?_ b3 (Nat.le_refl _) | with_reducible refine own_below ?_ b2 (Nat.le_refl _) | with_reducible refine World.ownsRow.alloc ?_ _)
    have hbF : Below w.heap.size w w3 := by repeat (first | with_reducible exact hb0 | with_reducible refine Below.drew ?_ | with_reducible refine Below.alloc ?_ (by first | omega | (simp <;> omega)) _ | with_reducible refine Below.trans ?_ (b3.mono (by first | omega | (simp <;> omega))) | with_reducible refine Below.trans ?_ (b2.mono (by first | omega | (simp <;> omega))) | with_reducible refine Below.trans ?_ (b1.mono (by first | omega | (simp <;> omega))))
    have m1 : some w.heap.size ≠ (Value.slice B1 n1 d1).ownBlock := blk_apart qF oF (by decide)
    have m2 : some w.heap.size ≠ (Value.slice B2 n2 d2).ownBlock := blk_apart qF oF2 (by decide)
    have m3 : some w.heap.size ≠ (Value.slice B3 n3 d3).ownBlock := blk_apart qF o3 (by decide)
    refine bodyPost_ret (v := .agg #[.slice B1 n1 d1, .slice B2 n2 d2, .slice B3 n3 d3]) (by simp [results, Try.results95, go_sem, s0, s1, s2]) rfl ?_
    exact ⟨_, _, _, _, _, _, rfl, ⟨own_far3 oF m1 _ _ _ _ _ _, own_far3 oF2 m2 _ _ _ _ _ _, own_far3 o3 m3 _ _ _ _ _ _⟩, ((hbF.setCell (Nat.le_refl _) _).setCell (Nat.le_refl _) _).setCell (Nat.le_refl _) _⟩
end Go.Proofs.Ytdpclbmcmgknjaa
