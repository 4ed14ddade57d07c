import Derived.Test.YtblkonfphaalhaaChecked
import Derived.WalkKit
import Derived.ProofKit
import Derived.OpenShut
import Derived.ShutString
import Derived.ChangeOld
import Derived.Below
import Derived.Lib.Hide
import Derived.Test.YtblkonfphaalhaaChainW
namespace Go.Proofs.Ytblkonfphaalhaa
open Go.ChangeShapes Go.WideShapes Go.ChangeAt Go.RowKit
open Go.ChangeMaps (open_string shut_string)
set_option linter.unusedVariables false
set_option maxHeartbeats 1600000 in
theorem chain_yes (A : Option Addr) (n c : Nat) (b : ByteArray) (xs : List ByteArray) (w : World) (h : Row strv w w.heap.size A n xs) (hs : ∀ s ∈ xs, s.size ≤ maxLen) (hm : n ≤ maxLen) (hbs : b.size ≤ maxLen) (hb1 : b.size ≤ 1048576) (hok : b.size = 32 ∧ n ≤ 300 ∧ ChAt xs n) :
    Calls Try.prog 13 #[.string b, .slice A n c] w fun e w' => e = .returned (.bool true) ∧ Below w.heap.size w w' := by
  have HK := Lib.hid hok
  clear hok
  have hlen : (chTo b xs n).1.length ≤ 300 := by have h1 := h.1; rw [chTo_len b xs n (by omega)]; exact HK.out.2.1
  have HR := Lib.hid hlen
  clear hlen
  generalize hz : (chTo b xs n).1 = zs at *
  have HZ := Lib.hid hz
  clear hz
  have hsz := (szStringS_any A n c xs w h hs hm)
  clear hs hm
  go_enter Try.func13, Try.ntmps13
  go_wp2_with fail
  go_at_call 39; refine hsz.mono ?_; rintro e w' ⟨r, rfl, rfl, hr1, hr2, hr0⟩
  clear hsz
  by_cases hr : r < 0
  · go_wp2
    go_ret
    exact ⟨rfl, Below.refl _ _⟩
  have hn : n ≤ 1048576 := by omega
  clear hr2
  have hb := Below.refl w.heap.size w
  go_wp2_with fail
  go_at_call 41; refine (toStringS_any _ _ _ _ _ h hn).mono ?_; rintro e w1 ⟨g1, rfl, ho1, hbn⟩
  have hb := hb.trans (hbn.mono hb.size)
  clear hbn
  go_wp2_with fail
  go_at_call 40; refine (spec_ChainOf_yes _ _ _ _ xs _ (Row.of_own ho1) HK.out).mono ?_; rintro e w2 ⟨Aw, mw, cw, rfl, how, hbn⟩
  rw [HZ.out] at how
  have hmw : mw = zs.length := by simpa using how.1.symm
  subst hmw
  clear ho1
  have hb := hb.trans (hbn.mono hb.size)
  clear hbn
  go_wp2_with fail
  go_at_call 41; refine (toStringS_any _ _ _ _ _ (h.to hb) hn).mono ?_; rintro e w3 ⟨g3, rfl, hx, hbn⟩
  have b3 := hb.size
  have nwx := own_ne how hx
  have how := own_below how hbn (Nat.le_refl _)
  have hb := hb.trans (hbn.mono hb.size)
  clear hbn
  have b3' := hb.size
  go_wp2_with fail
  go_at_call 42; refine (impl_ChainOf_yes _ _ _ _ xs _ (Row.of_own hx) HK.out).mono ?_; rintro e w4 ⟨Ag, mg, cg, rfl, hg, hbn⟩
  rw [HZ.out] at hg
  have hmg : mg = zs.length := by simpa using hg.1.symm
  subst hmg
  have nwg := own_ne how hg
  have ngx := own_ne2 hx hg
  have how := own_below how hbn (Nat.le_refl _)
  have hx := own_below hx hbn (Nat.le_refl _)
  have hb := hb.trans (hbn.mono hb.size)
  clear hbn
  go_wp2_with fail
  go_at_call 43; refine (eqStringS_same _ _ _ _ _ _ _ _ _ (Row.of_own_any hg) (Row.of_own_any how) (by have := HR.out; omega)).mono ?_; rintro e wq ⟨rfl, hq⟩
  have how := own_drew how hq
  have hx := own_drew hx hq
  have hg := own_drew hg hq
  have hb := hb.trans ((drew_below hq).mono hb.size)
  clear hq
  go_wp2_with fail
  go_at_call 41; refine (toStringS_any _ _ _ _ _ (h.to hb) hn).mono ?_; rintro e w5 ⟨g5, rfl, ht, hbn⟩
  have how := own_below how hbn (Nat.le_refl _)
  have hx := own_below hx hbn (Nat.le_refl _)
  have hg := own_below hg hbn (Nat.le_refl _)
  have hb := hb.trans (hbn.mono hb.size)
  clear hbn
  go_wp2_with fail
  go_at_call 43; refine (eqStringS_same _ _ _ _ _ _ _ _ _ (Row.of_own_any hx) (Row.of_own_any ht) (by omega)).mono ?_; rintro e wq ⟨rfl, hq⟩
  have how := own_drew how hq
  have hx := own_drew hx hq
  have hg := own_drew hg hq
  have hb := hb.trans ((drew_below hq).mono hb.size)
  clear hq
  clear ht
  have b5 := hb.size
  go_wp2_with fail
  go_at_call 44; refine (markS_any _ _ _ 1 _ _ _ hx (by omega) (by omega) (by omega)).mono ?_; rintro e wm ⟨rfl, hm, hk, hbk, hms⟩
  have how := hk _ _ _ _ _ _ how nwx
  have hg := hk _ _ _ _ _ _ hg ngx
  have hb := hbk _ _ hb (by omega) b5
  clear hm hk hbk hms hx
  go_wp2_with fail
  go_at_call 43; refine (eqStringS_same _ _ _ _ _ _ _ _ _ (Row.of_own_any hg) (Row.of_own_any how) (by have := HR.out; omega)).mono ?_; rintro e wq ⟨rfl, hq⟩
  have how := own_drew how hq
  have hg := own_drew hg hq
  have hb := hb.trans ((drew_below hq).mono hb.size)
  clear hq
  have b6 := hb.size
  go_wp2_with fail
  go_at_call 44; refine (markS_any _ _ _ 1 _ _ _ hg (by have := HR.out; omega) (by omega) (by omega)).mono ?_; rintro e wm ⟨rfl, hm, hk, hbk, hms⟩
  have how := hk _ _ _ _ _ _ how nwg
  have hb := hbk _ _ hb (by omega) b6
  have hg := hm
  clear hm hk hbk hms
  go_wp2_with fail
  go_at_call 45; refine (heldStringS_any _ _ _ 1 _ (Row.of_own_any hg) (by have := HR.out; omega) (by omega) (by omega)).mono ?_; rintro e wh ⟨rfl, hbn⟩
  have how := own_below how hbn (Nat.le_refl _)
  have hg := own_below hg hbn (Nat.le_refl _)
  have hb := hb.trans (hbn.mono hb.size)
  clear hbn
  go_wp2_with fail
  go_at_call 41; refine (toStringS_any _ _ _ _ _ (h.to hb) hn).mono ?_; rintro e w7 ⟨g7, rfl, hu, hbn⟩
  have how := own_below how hbn (Nat.le_refl _)
  have hg := own_below hg hbn (Nat.le_refl _)
  have hb := hb.trans (hbn.mono hb.size)
  clear hbn
  go_wp2_with fail
  go_at_call 42; refine (impl_ChainOf_yes _ _ _ _ xs _ (Row.of_own hu) HK.out).mono ?_; rintro e w8 ⟨Ah, mh, ch, rfl, hh, hbn⟩
  rw [HZ.out] at hh
  have hmh : mh = zs.length := by simpa using hh.1.symm
  subst hmh
  clear hu
  have how := own_below how hbn (Nat.le_refl _)
  have hg := own_below hg hbn (Nat.le_refl _)
  have hb := hb.trans (hbn.mono hb.size)
  clear hbn
  go_wp2_with fail
  go_at_call 43; refine (eqStringS_same _ _ _ _ _ _ _ _ _ (Row.of_own_any hh) (Row.of_own_any how) (by have := HR.out; omega)).mono ?_; rintro e wq ⟨rfl, hq⟩
  have hg := own_drew hg hq
  have hb := hb.trans ((drew_below hq).mono hb.size)
  clear hq
  go_wp2_with fail
  go_at_call 45; refine (heldStringS_any _ _ _ 1 _ (Row.of_own_any hg) (by have := HR.out; omega) (by omega) (by omega)).mono ?_; rintro e wh ⟨rfl, hbn⟩
  have hb := hb.trans (hbn.mono hb.size)
  clear hbn
  go_wp2
  go_ret
  exact ⟨rfl, hb⟩
set_option maxHeartbeats 1600000 in
theorem chain_no (A : Option Addr) (n c : Nat) (b : ByteArray) (xs : List ByteArray) (w : World) (h : Row strv w w.heap.size A n xs) (hs : ∀ s ∈ xs, s.size ≤ maxLen) (hm : n ≤ maxLen) (hbs : b.size ≤ maxLen) (hb1 : b.size ≤ 1048576) (hok : ¬ (b.size = 32 ∧ n ≤ 300 ∧ ChAt xs n)) :
    Calls Try.prog 13 #[.string b, .slice A n c] w fun e w' => e = .returned (.bool true) ∧ Below w.heap.size w w' := by
  have HK := Lib.hid hok
  clear hok
  have hsz := (szStringS_any A n c xs w h hs hm)
  clear hs hm
  go_enter Try.func13, Try.ntmps13
  go_wp2_with fail
  go_at_call 39; refine hsz.mono ?_; rintro e w' ⟨r, rfl, rfl, hr1, hr2, hr0⟩
  clear hsz
  by_cases hr : r < 0
  · go_wp2
    go_ret
    exact ⟨rfl, Below.refl _ _⟩
  have hn : n ≤ 1048576 := by omega
  clear hr2
  have hb := Below.refl w.heap.size w
  go_wp2_with fail
  go_at_call 41; refine (toStringS_any _ _ _ _ _ h hn).mono ?_; rintro e w1 ⟨g1, rfl, ho1, hbn⟩
  have hb := hb.trans (hbn.mono hb.size)
  clear hbn
  go_wp2_with fail
  go_at_call 40; refine (spec_ChainOf_no _ _ _ _ xs _ (Row.of_own ho1) hbs HK.out).mono ?_; rintro e w2 ⟨rfl, hbn⟩
  clear ho1
  have hb := hb.trans (hbn.mono hb.size)
  clear hbn
  go_wp2_with fail
  go_at_call 41; refine (toStringS_any _ _ _ _ _ (h.to hb) hn).mono ?_; rintro e w3 ⟨g3, rfl, hx, hbn⟩
  have b3 := hb.size
  have hb := hb.trans (hbn.mono hb.size)
  clear hbn
  go_wp2_with fail
  go_at_call 42; refine (impl_ChainOf_no _ _ _ _ xs _ (Row.of_own hx) hbs HK.out).mono ?_; rintro e w4 ⟨rfl, hbn⟩
  have hx := own_below hx hbn (Nat.le_refl _)
  have hb := hb.trans (hbn.mono hb.size)
  clear hbn
  go_wp2_with fail
  go_at_call 43; refine (eqStringS_same none none 0 0 0 0 0 [] _ Row.none_ Row.none_ (by omega)).mono ?_; rintro e wq ⟨rfl, hq⟩
  have hx := own_drew hx hq
  have hb := hb.trans ((drew_below hq).mono hb.size)
  clear hq
  go_wp2_with fail
  go_at_call 41; refine (toStringS_any _ _ _ _ _ (h.to hb) hn).mono ?_; rintro e w5 ⟨g5, rfl, ht, hbn⟩
  have hx := own_below hx hbn (Nat.le_refl _)
  have hb := hb.trans (hbn.mono hb.size)
  clear hbn
  go_wp2_with fail
  go_at_call 43; refine (eqStringS_same _ _ _ _ _ _ _ _ _ (Row.of_own_any hx) (Row.of_own_any ht) (by omega)).mono ?_; rintro e wq ⟨rfl, hq⟩
  have hx := own_drew hx hq
  have hb := hb.trans ((drew_below hq).mono hb.size)
  clear hq
  clear ht
  have b5 := hb.size
  go_wp2_with fail
  go_at_call 44; refine (markS_any _ _ _ 1 _ _ _ hx (by omega) (by omega) (by omega)).mono ?_; rintro e wm ⟨rfl, hm, hk, hbk, hms⟩
  have hb := hbk _ _ hb (by omega) b5
  clear hm hk hbk hms hx
  go_wp2_with fail
  go_at_call 43; refine (eqStringS_same none none 0 0 0 0 0 [] _ Row.none_ Row.none_ (by omega)).mono ?_; rintro e wq ⟨rfl, hq⟩
  have hb := hb.trans ((drew_below hq).mono hb.size)
  clear hq
  go_wp2_with fail
  go_at_call 44; refine (markStringS_nil 1 _).mono ?_; rintro e wm ⟨rfl, rfl⟩
  go_wp2_with fail
  go_at_call 45; refine (heldStringS_any none 0 0 1 _ Row.none_ (by omega) (by omega) (by omega)).mono ?_; rintro e wh ⟨rfl, hbn⟩
  have hb := hb.trans (hbn.mono hb.size)
  clear hbn
  go_wp2_with fail
  go_at_call 41; refine (toStringS_any _ _ _ _ _ (h.to hb) hn).mono ?_; rintro e w7 ⟨g7, rfl, hu, hbn⟩
  have hb := hb.trans (hbn.mono hb.size)
  clear hbn
  go_wp2_with fail
  go_at_call 42; refine (impl_ChainOf_no _ _ _ _ xs _ (Row.of_own hu) hbs HK.out).mono ?_; rintro e w8 ⟨rfl, hbn⟩
  clear hu
  have hb := hb.trans (hbn.mono hb.size)
  clear hbn
  go_wp2_with fail
  go_at_call 43; refine (eqStringS_same none none 0 0 0 0 0 [] _ Row.none_ Row.none_ (by omega)).mono ?_; rintro e wq ⟨rfl, hq⟩
  have hb := hb.trans ((drew_below hq).mono hb.size)
  clear hq
  go_wp2_with fail
  go_at_call 45; refine (heldStringS_any none 0 0 1 _ Row.none_ (by omega) (by omega) (by omega)).mono ?_; rintro e wh ⟨rfl, hbn⟩
  have hb := hb.trans (hbn.mono hb.size)
  clear hbn
  go_wp2
  go_ret
  exact ⟨rfl, hb⟩
theorem chain_all (b : ByteArray) (A : Option Addr) (n c : Nat) (z : List ByteArray) (w : World) (wb : b.size ≤ maxLen) (w0 : IsRowS w A n c z) :
    Calls Try.prog 13 #[.string b, .slice A n c] w fun e w' => e = .returned (.bool true) ∧ Below w.heap.size w w' := by
  by_cases hb1 : b.size ≤ 1048576
  · by_cases hok : b.size = 32 ∧ n ≤ 300 ∧ ChAt (z.take n) n
    · exact chain_yes A n c b _ w (row_of_isRowS w0) (sizes_of_isRowS w0) (len_of_isRowS w0) wb hb1 hok
    · exact chain_no A n c b _ w (row_of_isRowS w0) (sizes_of_isRowS w0) (len_of_isRowS w0) wb hb1 hok
  · have h2 : 1048576 < b.size := by omega
    clear hb1
    go_enter Try.func13, Try.ntmps13
    go_wp2
    go_ret
    exact ⟨rfl, Below.refl _ _⟩
end Go.Proofs.Ytblkonfphaalhaa
