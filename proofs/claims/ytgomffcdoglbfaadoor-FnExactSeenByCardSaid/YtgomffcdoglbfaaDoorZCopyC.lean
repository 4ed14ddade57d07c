import Derived.Test.YtgomffcdoglbfaaDoorChecked
import Derived.WalkKit
import Derived.ProofKit
import Derived.OpenShut
import Derived.ShutString
import Derived.ChangeOld
import Derived.Below
import Derived.Lib.Hide
import Derived.Deep.RegionHeld3
import Derived.Test.YtgomffcdoglbfaaDoorZLogV
import Derived.Test.YtgomffcdoglbfaaDoorZCloneC
namespace Go.Proofs.YtgomffcdoglbfaaDoor
open Go.ChangeShapes Go.WideShapes Go.ChangeAt Go.RowKit
open Go.ChangeMaps (open_string shut_string)
set_option linter.unusedVariables false
set_option maxRecDepth 100000
theorem flat_put {α : Type} {sz : Nat} {f : α → List Value} (hf : ∀ x, (f x).length = sz) : ∀ (xs : List α) (K : Nat) (z z' : α) (i : Nat) (v : Value), xs[K]? = some z → i < sz → f z' = (f z).set i v → (xs.flatMap f).set (K * sz + i) v = (xs.set K z').flatMap f := by
  intro xs
  induction xs with
  | nil => intro K z z' i v h; simp at h
  | cons x r ih =>
    intro K z z' i v h hi hz
    cases K with
    | zero =>
      simp at h; subst h
      rw [List.set_cons_zero, List.flatMap_cons, List.flatMap_cons, Nat.zero_mul, Nat.zero_add, List.set_append_left _ _ (by rw [hf]; exact hi), hz]
    | succ K =>
      have h' : r[K]? = some z := by simpa using h
      have e : (K + 1) * sz + i = sz + (K * sz + i) := by rw [Nat.add_mul]; omega
      rw [List.set_cons_succ, List.flatMap_cons, List.flatMap_cons, e, List.set_append_right _ _ (by rw [hf]; omega), hf, Nat.add_sub_cancel_left, ih K z z' i v h' hi hz]
theorem put_next {α : Type} {qs rs : List α} {k : Nat} {z z' : α} (hq : qs.length = k) (hz : rs[k]? = some z) : (qs ++ rs.drop k).set k z' = (qs ++ [z']) ++ rs.drop (k + 1) := by
  obtain ⟨hl, _⟩ := List.getElem?_eq_some_iff.1 hz
  rw [List.set_append_right _ _ (by omega), hq, Nat.sub_self, List.drop_eq_getElem_cons hl, List.set_cons_zero, List.append_assoc]
  rfl
theorem at_next {α : Type} {qs rs : List α} {k : Nat} {z : α} (hq : qs.length = k) (hz : rs[k]? = some z) : (qs ++ rs.drop k)[k]? = some z := by
  obtain ⟨hl, he⟩ := List.getElem?_eq_some_iff.1 hz
  rw [List.getElem?_append_right (by omega), hq, Nat.sub_self, List.getElem?_drop, Nat.add_zero, hz]
/-- a log's copy: its messages and their likes in memory of its own -/
def CopyAt (w : World) (g base : Nat) (x : Int) (A : Option Addr) (n c : Nat) (qs : List Rm) : Prop := base ≤ g ∧ Blk w g 73 #[.int .i64 x, .slice A n c] ∧ LogOwn w base A n c qs
set_option maxHeartbeats 6400000 in
theorem shelfOf_any (x : Int) (A : Option Addr) (n c : Nat) (rs : List Rm) (w : World) (h : LogAt w w.heap.size A n rs) (hf : fitL (mgs rs)) :
    Calls Tryd.prog 29 #[.agg #[.int .i64 x, .slice A n c]] w fun e w' => ∃ g A' c' qs, e = .returned (.pointer (some ⟨g, 0, none⟩)) ∧ CopyAt w' g w.heap.size x A' n c' qs ∧ mgs qs = mgs rs ∧ Below w.heap.size w w' := by
  have hn := fit_n h hf
  have HF := Lib.hid (fun r hr => (fit_ln h.2 hf (r := r) hr).1)
  have HL := Lib.hid h.len
  have HLK := Lib.hid h.2
  clear hf
  go_enter Tryd.func29, Tryd.ntmps29
  go_wp2_with fail
  obtain ⟨k0, hb0⟩ := one_box w 31 #[.int .i64 x, .slice A n c]
  generalize w.alloc (.cells #[.int .i64 x, .slice A n c] 31) = W at *
  have h : LogAt W.drew W.drew.heap.size A n rs := (h.below hb0).more hb0.size
  have k0 : Blk W.drew w.heap.size 31 #[.int .i64 x, .slice A n c] := k0
  have hb0 : Below w.heap.size w W.drew := hb0.drew
  have z0 := hb0.size
  go_region_held3 (fun w' => w'.cell? ⟨w.heap.size, 0, none⟩ = some (.int .i64 x) ∧ w'.cell? ⟨w.heap.size, 1, none⟩ = some (.slice A n c))
    (first | exact ⟨k0.cell 0, k0.cell 1⟩ | exact ⟨k1.cell 0, k1.cell 1⟩ | exact ⟨(k1.alloc _).cell 0, (k1.alloc _).cell 1⟩)
    ((first
      | (go_at_call 40; refine (cloneM_any _ _ _ _ _ h.1 hn).mono ?_; rintro e w1 ⟨A', c', rfl, ho1, hb1⟩; have k1 := k0.below hb1 k0.lt; have h1 := h.to hb1; have hbA := hb0.trans (hb1.mono z0); have z1 := hbA.size)))
  have kg := Blk.new w1 73 #[.int .i64 x, .slice A' n c']
  have ho2 := ho1.alloc (.cells #[.int .i64 x, .slice A' n c'] 73)
  have hbB := hbA.alloc z1 (.cells #[.int .i64 x, .slice A' n c'] 73)
  have h2 := (h.below hb1)
  generalize hG : w1.heap.size = g at *
  have hgl := kg.lt
  generalize w1.alloc (.cells #[.int .i64 x, .slice A' n c'] 73) = V at *
  have ho3 : V.ownsRow w.heap.size 44 8 (.slice A' n c') n (rs.flatMap rmC) := World.ownsRow.mono ho2 z0
  clear h h1 h2 ho1 ho2 k0 k1 hb0 hbA hb1
  have l1 := kg.cell 1
  go_wp2
  clear l1
  go_loopw [18] (fun i wr => ∃ (k : Nat) (qs : List Rm), k ≤ n ∧ i = .int .i64 k ∧ Hid (qs.length = k ∧ mgs qs = (mgs rs).take k) ∧ wr.ownsRow w.heap.size 44 8 (.slice A' n c') n ((qs ++ rs.drop k).flatMap rmC) ∧ LikesOwn wr w.heap.size qs ∧ Blk wr g 73 #[.int .i64 x, .slice A' n c'] ∧ Below w.heap.size w wr) (fun i _ => n - (intOf i).toNat)
  case atStart => exact ⟨0, [], by omega, rfl, Lib.hid ⟨rfl, by simp [mgs]⟩, ho3, LikesOwn.nil, kg, hbB⟩
  case round =>
    obtain ⟨k, qs, hk, rfl, HQ, hown, hlk, kg, hbel⟩ := hrel
    by_cases hlt : k < n
    · have hlt' : decide ((k : Int) < (n : Int)) = true := decide_eq_true (by omega)
      obtain ⟨z, hz⟩ : ∃ z, rs[k]? = some z := ⟨_, List.getElem?_eq_getElem (by have := HL.out; omega)⟩
      have hzm := List.mem_of_getElem? hz
      have hzn := HF.out z hzm
      have hlik := ((HLK.out z hzm).below hbel).more hbel.size
      obtain ⟨M, rfl⟩ : ∃ M, A' = some ⟨M, 0, none⟩ := by
        rcases hown.2 with ⟨hv, h0⟩ | ⟨M, cap, cur, hv, _⟩
        · omega
        · injection hv with e _ _
          exact ⟨M, e⟩
      have hrow := SRow.of_own_any rmC_len (by decide) hown
      obtain ⟨b, off, hA, _, hcs⟩ := hrow.2 (by omega)
      injection hA with hA
      injection hA with e1 e2 _
      subst e1; subst e2
      have hc := hcs k z (at_next HQ.out.1 hz)
      rw [Nat.zero_add] at hc
      have d0 : wr.cell? ⟨M, k * 8, none⟩ = some (.int .i64 z.m.num) := hc 0 _ rfl
      have d1 : wr.cell? ⟨M, k * 8 + 1, none⟩ = some (.int .i64 z.m.sdr) := hc 1 _ rfl
      have d2 : wr.cell? ⟨M, k * 8 + 2, none⟩ = some (.int .i64 z.m.tick) := hc 2 _ rfl
      have d3 : wr.cell? ⟨M, k * 8 + 3, none⟩ = some (.string z.m.text) := hc 3 _ rfl
      have d4 : wr.cell? ⟨M, k * 8 + 4, none⟩ = some (.int .i64 z.m.edits) := hc 4 _ rfl
      have d5 : wr.cell? ⟨M, k * 8 + 5, none⟩ = some (.bool z.m.gone) := hc 5 _ rfl
      have d6 : wr.cell? ⟨M, k * 8 + 6, none⟩ = some (.int .i64 z.m.reply) := hc 6 _ rfl
      have d7 : wr.cell? ⟨M, k * 8 + 7, none⟩ = some (.slice z.la z.ln z.lc) := hc 7 _ rfl
      clear hc hcs hrow
      have hMl := (hown.lt M rfl).2
      have HZ := Lib.hid hz
      clear hz hzm
      go_wp2_with fail
      obtain ⟨km, hbm⟩ := one_box wr 44 #[.int .i64 z.m.num, .int .i64 z.m.sdr, .int .i64 z.m.tick, .string z.m.text, .int .i64 z.m.edits, .bool z.m.gone, .int .i64 z.m.reply, .slice z.la z.ln z.lc]
      have hlik : Row i64v _ _ _ _ _ := hlik.to hbm
      have hown := own_below hown hbm (Nat.le_refl _)
      have hlk := hlk.below hbm (Nat.le_refl _)
      have kg := kg.below hbm kg.lt
      have hbel := hbel.trans (hbm.mono hbel.size)
      clear hbm d0 d1 d2 d3 d4 d5 d6 d7
      generalize hwm : wr.heap.size = gm at *
      generalize wr.alloc (.cells #[.int .i64 z.m.num, .int .i64 z.m.sdr, .int .i64 z.m.tick, .string z.m.text, .int .i64 z.m.edits, .bool z.m.gone, .int .i64 z.m.reply, .slice z.la z.ln z.lc] 44) = U at *
      have hlik : Row i64v U.drew U.drew.heap.size z.la z.ln z.m.likes := hlik
      have hown : U.drew.ownsRow w.heap.size 44 8 (.slice (some ⟨M, 0, none⟩) n c') n ((qs ++ rs.drop k).flatMap rmC) := hown
      have hlk : LikesOwn U.drew w.heap.size qs := hlk
      have kg : Blk U.drew g 73 #[.int .i64 x, .slice (some ⟨M, 0, none⟩) n c'] := kg
      have km : Blk U.drew gm 44 #[.int .i64 z.m.num, .int .i64 z.m.sdr, .int .i64 z.m.tick, .string z.m.text, .int .i64 z.m.edits, .bool z.m.gone, .int .i64 z.m.reply, .slice z.la z.ln z.lc] := km
      have hbel : Below w.heap.size w U.drew := hbel.drew
      have zU := hbel.size
      have e1 : (0 : Int) ≤ (k : Int) := by omega
      have e2 : (k : Int) < (n : Int) := by omega
      go_region_held3 (fun w' => w'.cell? ⟨g, 1, none⟩ = some (.slice (some ⟨M, 0, none⟩) n c') ∧ w'.cell? ⟨gm, 7, none⟩ = some (.slice z.la z.ln z.lc))
        (first | exact ⟨kg.cell 1, km.cell 7⟩ | exact ⟨kg1.cell 1, km1.cell 7⟩ | exact ⟨kgs.cell 1, kms.cell 7⟩)
        ((first
          | (go_at_call 41; refine (cloneI_any _ _ _ _ _ hlik hzn).mono ?_; rintro e w5 ⟨La, Lc, rfl, hol, hb5⟩; have kg1 := kg.below hb5 kg.lt; have km1 := km.below hb5 km.lt; have hown1 := own_below hown hb5 (Nat.le_refl _); have c1' : w5.cell? ⟨M, k * 8 + 7, none⟩ = some (.slice z.la z.ln z.lc) := (by rw [hown1.cellAt (k * 8 + 7) (by omega), flat_get rmC_len _ k z (at_next HQ.out.1 HZ.out) 7 (by decide)]; rfl); have c2' : w5.frozen? ⟨M, k * 8 + 7, none⟩ = false := hown1.frozenAt _; have ngM : some g ≠ some M := blk_apart kg1 hown1 (by decide); have nmM : some gm ≠ some M := (fun e => by injection e with e; omega); have kgs := kg1.far (p := ⟨M, k * 8 + 7, none⟩) (fun e => ngM (by rw [e])) (.slice La z.ln Lc); have kms := km1.far (p := ⟨M, k * 8 + 7, none⟩) (fun e => nmM (by rw [e])) (.slice La z.ln Lc); have hlkS := (hlk.snoc (r := ⟨z.m, La, z.ln, Lc⟩) hb5 hol zU); have hbel1 := hbel.trans (hb5.mono zU))))
      have st := hown1.stored (k * 8 + 7) (.slice La z.ln Lc)
      rw [flat_put rmC_len (qs ++ rs.drop k) k z ⟨z.m, La, z.ln, Lc⟩ 7 _ (at_next HQ.out.1 HZ.out) (by decide) rfl, put_next HQ.out.1 HZ.out] at st
      have hlk2 := lc_grown hlkS st.2 (fun s hs => own_types2 (hlkS.1 s hs) hown1 (by decide))
      have hM : w.heap.size ≤ M := (hown1.lt M rfl).1
      have hbel2 := hbel1.setCell (p := ⟨M, k * 8 + 7, none⟩) hM (.slice La z.ln Lc)
      clear hlik hown hlk kg km hbel hown1 kg1 km1 hlkS hbel1 hb5 hol c1' c2' kms
      go_wp2
      go_roundw
      case rel => exact ⟨k + 1, qs ++ [⟨z.m, La, z.ln, Lc⟩], by omega, by go_num, Lib.hid ⟨by simp [HQ.out.1], by rw [take_get (mgs_at HZ.out), ← HQ.out.2]; simp [mgs]⟩, st.1, hlk2, kgs, hbel2⟩
      case measure => simp [intOf]; omega
    · have hlt' : decide ((k : Int) < (n : Int)) = false := decide_eq_false (by omega)
      have hd : rs.drop k = [] := List.drop_eq_nil_of_le (by have := HL.out; omega)
      rw [hd, List.append_nil] at hown
      have HO := Lib.hid hown
      have HE := Lib.hid (show mgs qs = mgs rs by rw [HQ.out.2, List.take_of_length_le (by rw [mgs_len]; have := HL.out; omega)])
      clear hown hd
      go_wp2
      go_ret
      exact ⟨g, A', c', qs, rfl, ⟨z1, kg, HO.out, hlk⟩, HE.out, hbel⟩
end Go.Proofs.YtgomffcdoglbfaaDoor
