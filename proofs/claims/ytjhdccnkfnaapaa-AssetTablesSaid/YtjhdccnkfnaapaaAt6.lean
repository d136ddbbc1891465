/-
  Layer 12: tables of assets: the document's Priced, Table (laid by gen_at.py out of layer 14's texts).
-/
import Derived.Test.YtjhdccnkfnaapaaAt5
namespace Go.Proofs.Ytjhdccnkfnaapaa
open Go.ChangeShapes Go.WideShapes Go.ChangeAt Go.RowKit
set_option linter.unusedVariables false
set_option linter.unusedSimpArgs false

def priceL (l : List Ax) (k : Nat) (p : Int) (h : k < l.length) : List Ax := l.set k ⟨l[k].id, p, l[k].hc⟩
def PrRel (m : List Ax) (kk : Nat) (W1 : World) (out done i : Value) (wr : World) : Prop :=
  ∃ (k : Nat) (A' : Option Addr) (c' : Nat), k ≤ m.length ∧ i = .int .i64 k ∧ done = .bool (decide (kk < k)) ∧ out = .slice A' k c' ∧ wr.ownsRow W1.heap.size 24 3 (.slice A' k c') k (rc Ax.cells (m.take k)) ∧ Below W1.heap.size W1 wr
set_option maxHeartbeats 8000000 in
set_option maxRecDepth 100000 in
theorem rpriced_any (A : Option Addr) (cap : Nat) (l : List Ax) (id p : Int) (w : World) (hl : l.length ≤ 900000) (hs : Sl w A (rc Ax.cells l)) :
    Calls Try.prog 10 #[.slice A l.length cap, .int .i64 id, .int .i64 p] w fun e w' => MRes w.heap.size w' e (priceR l id p) ∧ Below w.heap.size w w' := by
  have HFD := Lib.hid (rfindm_any A cap l id w (by omega) hs)
  rcases mfind_cases l id with ⟨hh, hat, _⟩ | ⟨kk, hkk, hh, hat, hf, hid, hbefore⟩
  · have HR : Hid (priceR l id p = (11, [])) := Lib.hid (by rw [priceR, if_pos hh])
    have HH := Lib.hid hh
    clear hh hat
    go_enter Try.func10, Try.ntmps10
    go_wp2_with fail
    refine HFD.out.mono ?_
    rw [HH.out]
    rintro e w1 ⟨rfl, hb1⟩
    generalize findM l id = fm
    unfold Ax.val
    have hB1 := since_alloc hb1 (.cells fm.cells.toArray 24)
    have hcs := @cell_set
    go_wp2_with fail
    go_ret2
    rw [HR.out]
    exact ⟨MRes.nil _ _ _, hB1⟩
  · have HH := Lib.hid hh
    by_cases hp : okP p
    rotate_left
    · have HR : Hid (priceR l id p = (2, [])) := Lib.hid (by rw [priceR, if_neg (by rw [hh]; decide), if_pos hp])
      have hp2 : p < 0 ∨ (¬ p < 0 ∧ 2147483647 < p) := by unfold okP at hp; omega
      clear hh hat hf hid hbefore hp
      rcases hp2 with hp | ⟨hp, hp2⟩
      all_goals
        go_enter Try.func10, Try.ntmps10
        go_wp2_with fail
        refine HFD.out.mono ?_
        rw [HH.out]
        rintro e w1 ⟨rfl, hb1⟩
        generalize findM l id = fm
        unfold Ax.val
        have hB1 := since_alloc hb1 (.cells fm.cells.toArray 24)
        have hcs := @cell_set
        go_wp2_with fail
        go_ret2
        rw [HR.out]
        exact ⟨MRes.nil _ _ _, hB1⟩
    · obtain ⟨m, hm⟩ : ∃ m, l.set kk ⟨l[kk].id, p, l[kk].hc⟩ = m := ⟨_, rfl⟩
      have HR : Hid (priceR l id p = (0, m)) := Lib.hid (by rw [priceR, if_neg (by rw [hh]; decide), if_neg (by simpa using hp), hat, hf, ← hm]; rfl)
      have hml : m.length = l.length := by rw [← hm]; simp
      have HSN : Hid (∀ k (hk : k < l.length), m.take (k + 1) = m.take k ++ [if kk = k then ⟨l[k].id, p, l[k].hc⟩ else l[k]]) := Lib.hid fun k hk => by
        rw [take_snoc m k (by omega)]
        congr 2
        subst hm
        rw [List.getElem_set]
        by_cases e : kk = k
        · subst e; rfl
        · rw [if_neg e, if_neg e]
      have HID : Hid (l[kk].id = id ∧ ∀ j, (hj : j < kk) → (l[j]'(Nat.lt_trans hj hkk)).id ≠ id) := Lib.hid ⟨(idM_iff _ _).1 hid, fun j hj => by have := hbefore j hj; intro e; rw [(idM_iff _ _).2 e] at this; cases this⟩
      have hp1 : ¬ p < 0 := by unfold okP at hp; omega
      have hp2 : ¬ 2147483647 < p := by unfold okP at hp; omega
      have HML := Lib.hid hml
      have hml9 : m.length ≤ 900000 := by omega
      clear hh hat hf hid hbefore hp hm hml
      go_enter Try.func10, Try.ntmps10
      go_wp2_with fail
      refine HFD.out.mono ?_
      rw [HH.out]
      rintro e w1 ⟨rfl, hb1⟩
      generalize findM l id = fm
      unfold Ax.val
      have hB1 := since_alloc hb1 (.cells fm.cells.toArray 24)
      have hs1 := (hs.below hb1).alloc (.cells fm.cells.toArray 24)
      have hcs := @cell_set
      clear hb1 hs
      go_upto_region 4 with fail
      unfold Ax.cells at hB1 hs1
      generalize hWW : w1.alloc (.cells #[.int .i64 fm.id, .int .i64 fm.price, .int .i64 fm.hc] 24) = W1 at *
      clear hWW
      go_wp2_with fail
      go_loopw [10, 11, 12] (fun out done i wr => PrRel m kk W1 out done i wr) (fun _ _ i _ => l.length - (intOf i).toNat)
      case atStart => exact ⟨0, none, 0, by omega, rfl, rfl, rfl, own_nil _ _ _, Below.refl _ _⟩
      case round =>
        obtain ⟨k, A', c', hk, rfl, rfl, rfl, hout, hB⟩ := hrel
        have hB2 : Below w.heap.size w wr := since_step hB1 hB
        have hsz : W1.heap.size ≤ wr.heap.size := hB.size
        have hk' : k ≤ l.length := by rw [← HML.out]; exact hk
        by_cases hlt : k < l.length
        · obtain ⟨b, o, rfl, hbw, hg⟩ := (hs1.below hB).ax hlt
          have hlk : (k : Int) < (l.length : Int) := by omega
          have hmk : k + 1 ≤ m.length := by rw [HML.out]; omega
          have hS := HSN.out k hlt
          have hcase : (k < kk ∧ l[k].id ≠ id) ∨ (k = kk ∧ l[k].id = id) ∨ (kk < k) := by
            rcases Nat.lt_trichotomy k kk with h | h | h
            · exact .inl ⟨h, HID.out.2 k h⟩
            · subst h; exact .inr (.inl ⟨rfl, HID.out.1⟩)
            · exact .inr (.inr h)
          clear hs1 hbw HSN
          generalize l[k] = v at hg hS hcase
          obtain ⟨vid, vr, vp⟩ := v
          obtain ⟨g0, g1, g2⟩ := hg
          simp only at g0 g1 g2 hcase hS
          rcases hcase with ⟨h1, h2⟩ | ⟨rfl, rfl⟩ | h1
          · have HE : Hid (m.take (k + 1) = m.take k ++ [⟨vid, vr, vp⟩]) := Lib.hid (by rw [hS, if_neg (by omega)])
            have hd1 : decide (kk < k) = false := by simp; omega
            have hd2 : decide (kk < k + 1) = false := by simp; omega
            have h2b : (vid == id) = false := by simpa using h2
            have HD2 := Lib.hid hd2
            clear hS h2 hd2
            rw [hd1]
            clear hd1
            generalize m.take k = q at hout HE
            go_wp2_with (first
              | (at_builtin; refine wpList_app rfl (.tmp 48) (.tmp 50) rfl EAx rfl rfl ((hout.alloc _).alloc _) (m := 1) (news := (⟨vid, vr, vp⟩ : Ax).cells) rfl (Sl.new1 wr _ _ _) (Ax.one _) (by unfold maxLen; omega) (by omega) (by simp only [World.size_alloc]; omega) ?_; intro A2 c2 w3 hown2 hg2 hb2)
              | fail)
            go_roundw
            case rel =>
              refine ⟨k + 1, A2, c2, hmk, by go_num, by rw [HD2.out], rfl, ?_, ?_⟩
              · rw [HE.out, rc_append]
                simpa [rc] using hown2
              · exact ((hB.alloc hsz _).alloc (by simp only [World.size_alloc]; omega) _).trans hb2
            case measure => simp [intOf]; omega
          · have HE : Hid (m.take (k + 1) = m.take k ++ [⟨vid, p, vp⟩]) := Lib.hid (by rw [hS, if_pos rfl])
            have hd1 : decide (k < k) = false := by simp
            have HD2 : Hid (decide (k < k + 1) = true) := Lib.hid (by simp)
            clear hS
            rw [hd1]
            clear hd1
            generalize m.take k = q at hout HE
            go_wp2_with (first
              | (at_builtin; refine wpList_app rfl (.tmp 48) (.tmp 50) rfl EAx rfl rfl ((hout.alloc _).alloc _) (m := 1) (news := (⟨vid, p, vp⟩ : Ax).cells) rfl (Sl.new1 wr _ _ _) (Ax.one _) (by unfold maxLen; omega) (by omega) (by simp only [World.size_alloc]; omega) ?_; intro A2 c2 w3 hown2 hg2 hb2)
              | fail)
            go_roundw
            case rel =>
              refine ⟨k + 1, A2, c2, hmk, by go_num, by rw [HD2.out], rfl, ?_, ?_⟩
              · rw [HE.out, rc_append]
                simpa [rc] using hown2
              · exact ((hB.alloc hsz _).alloc (by simp only [World.size_alloc]; omega) _).trans hb2
            case measure => simp [intOf]; omega
          · have HE : Hid (m.take (k + 1) = m.take k ++ [⟨vid, vr, vp⟩]) := Lib.hid (by rw [hS, if_neg (by omega)])
            have hd1 : decide (kk < k) = true := by simp; omega
            have hd2 : decide (kk < k + 1) = true := by simp; omega
            have HD2 := Lib.hid hd2
            clear hS hd2
            rw [hd1]
            clear hd1
            generalize m.take k = q at hout HE
            cases h2b : (vid == id)
            all_goals
              go_wp2_with (first
                | (at_builtin; refine wpList_app rfl (.tmp 48) (.tmp 50) rfl EAx rfl rfl ((hout.alloc _).alloc _) (m := 1) (news := (⟨vid, vr, vp⟩ : Ax).cells) rfl (Sl.new1 wr _ _ _) (Ax.one _) (by unfold maxLen; omega) (by omega) (by simp only [World.size_alloc]; omega) ?_; intro A2 c2 w3 hown2 hg2 hb2)
                | fail)
              go_roundw
              case rel =>
                refine ⟨k + 1, A2, c2, hmk, by go_num, by rw [HD2.out], rfl, ?_, ?_⟩
                · rw [HE.out, rc_append]
                  simpa [rc] using hown2
                · exact ((hB.alloc hsz _).alloc (by simp only [World.size_alloc]; omega) _).trans hb2
              case measure => simp [intOf]; omega
        · have hkl : k = m.length := by rw [HML.out]; omega
          subst hkl
          rw [List.take_length] at hout
          have hown5 := own_base hout hB1.size
          have hge : ¬ ((m.length : Int) < (l.length : Int)) := by omega
          clear hs1
          go_wp2_with fail
          go_ret2
          rw [HR.out]
          exact ⟨⟨A', c', rfl, hown5⟩, hB2⟩

def TabRel (n : Nat) (w : World) (out i : Value) (wr : World) : Prop :=
  ∃ (k : Nat) (R : List Ax) (A' : Option Addr) (c' : Nat), k ≤ n ∧ k ≤ 8 ∧ i = .int .i64 k ∧ out = .slice A' R.length c' ∧ wr.ownsRow w.heap.size 24 3 (.slice A' R.length c') R.length (rc Ax.cells R) ∧ Sorted R ∧ R.length ≤ k ∧ Below w.heap.size w wr
def TabRes (w w' : World) (e : Ending) : Prop :=
  ∃ (R : List Ax) (A' : Option Addr) (c' : Nat), e = .returned (.slice A' R.length c') ∧ w'.ownsRow w.heap.size 24 3 (.slice A' R.length c') R.length (rc Ax.cells R) ∧ Sorted R ∧ R.length ≤ 8
set_option maxHeartbeats 4000000 in
set_option maxRecDepth 100000 in
theorem rtable_any (A : Option Addr) (cap : Nat) (l : List Ax) (w : World) (hs : Sl w A (rc Ax.cells l)) :
    Calls Try.prog 6 #[.slice A l.length cap] w fun e w' => TabRes w w' e ∧ Below w.heap.size w w' := by
  go_enter Try.func6, Try.ntmps6
  go_wp2_with fail
  go_loopw [3, 4] (fun out i wr => TabRel l.length w out i wr) (fun _ i _ => l.length - (intOf i).toNat)
  case atStart => exact ⟨0, [], none, 0, by omega, by omega, rfl, rfl, own_nil _ _ _, List.Pairwise.nil, by simp, Below.refl _ _⟩
  case round =>
    obtain ⟨k, R, A', c', hk, hk8, rfl, rfl, hown, hsd, hRk, hB⟩ := hrel
    by_cases hgo : k < l.length ∧ k < 8
    · obtain ⟨hlt, hlt8⟩ := hgo
      obtain ⟨b, o, rfl, hbw, hg⟩ := hs.ax hlt
      have hg1 : l[k].at wr b (o + k * 3) := Ax.at_keep (w := w) hg fun i => hB.cell (p := ⟨b, i, none⟩) hbw
      have hlk : (k : Int) < (l.length : Int) := by omega
      have hlk8 : (k : Int) < 8 := by omega
      have HPT := Lib.hid (rputm_any w.heap.size A' c' R l[k] wr (by omega) hown hsd)
      have HSD := Lib.hid hsd
      have hcase : (putMR R l[k] = (0, putR ahM R l[k])) ∨ ∃ n, n ≠ 0 ∧ putMR R l[k] = (n, []) := by
        unfold putMR
        split
        · exact .inr ⟨2, by decide, rfl⟩
        · split
          · exact .inr ⟨12, by decide, rfl⟩
          · exact .inl rfl
      clear hg hs hbw hsd
      generalize l[k] = v at *
      rcases hcase with hR | ⟨n, hn, hR⟩
      all_goals
        rw [hR] at HPT
        have HR := Lib.hid hR
        clear hR
        obtain ⟨g0, g1, g2⟩ := _root_.id hg1
        unfold Ax.val at HPT
      · go_wp2_with fail
        refine HPT.out.mono ?_
        rintro e w1 ⟨⟨A1, c1, rfl, hown1⟩, hb1⟩
        have hB2 := since_step hB hb1
        have hown2 := own_base hown1 hB.size
        clear hown hown1 hb1 g0 g1 g2
        go_wp2_with fail
        go_roundw
        case rel => exact ⟨k + 1, putR ahM R v, A1, c1, by omega, by omega, by go_num, rfl, hown2, pairwise_putR ordM v R HSD.out, Nat.le_trans (length_putR _ _) (by omega), hB2⟩
        case measure => simp [intOf]; omega
      · have hnb : (n == 0) = false := by simpa using hn
        go_wp2_with fail
        refine HPT.out.mono ?_
        rintro e w1 ⟨⟨A1, c1, rfl, hown1⟩, hb1⟩
        have hB2 := since_step hB hb1
        have hown2 := own_below hown hb1
        clear hown hown1 hb1 g0 g1 g2
        go_wp2_with fail
        go_roundw
        case rel => exact ⟨k + 1, R, A', c', by omega, by omega, by go_num, rfl, hown2, HSD.out, by omega, hB2⟩
        case measure => simp [intOf]; omega
    · have hend : ¬ ((k : Int) < (l.length : Int)) ∨ ((k : Int) < (l.length : Int) ∧ ¬ ((k : Int) < 8)) := by omega
      have HF := Lib.hid (show Sorted R ∧ R.length ≤ 8 from ⟨hsd, by omega⟩)
      clear hgo hsd
      rcases hend with h1 | ⟨h1, h2⟩
      all_goals
        go_wp2_with fail
        go_ret
        exact ⟨⟨R, A', c', rfl, hown, HF.out.1, HF.out.2⟩, hB⟩
end Go.Proofs.Ytjhdccnkfnaapaa
