/-
  The walks of layer 3, eighth part: Takes, the code's and the document's.
-/
import Derived.Test.YtckgifhidomhaaaShare7
import Derived.Test.YtckgifhidomhaaaShare5
namespace Go.Proofs.Ytckgifhidomhaaa
open Go.ChangeShapes Go.WideShapes Go.ChangeAt Go.RowKit
set_option linter.unusedVariables false
set_option linter.unusedSimpArgs false

def mn (a x : Int) : Int := if x < a then x else a
/-- what is left behind some, each of which takes what it has room for -/
def tkR (t : Int) (l : List Int) : Int := l.foldl (fun a x => a - mn a x) t
def tkV : Int → List Int → List Int
  | _, [] => []
  | t, x :: l => mn t x :: tkV (t - mn t x) l
theorem tkR_take (t : Int) (l : List Int) (k : Nat) (h : k < l.length) : tkR t (l.take (k + 1)) = tkR t (l.take k) - mn (tkR t (l.take k)) l[k] := by
  unfold tkR; rw [take_snoc l k h, List.foldl_append]; rfl
theorem tkV_app (l : List Int) : ∀ (t x : Int), tkV t (l ++ [x]) = tkV t l ++ [mn (tkR t l) x] := by
  induction l with
  | nil => intro t x; rfl
  | cons y l ih => intro t x; simp only [List.cons_append, tkV, ih]; rfl
theorem tkV_take (t : Int) (l : List Int) (k : Nat) (h : k < l.length) : tkV t (l.take (k + 1)) = tkV t (l.take k) ++ [mn (tkR t (l.take k)) l[k]] := by
  rw [take_snoc l k h, tkV_app]
theorem tkV_length (l : List Int) : ∀ t, (tkV t l).length = l.length := by
  induction l with
  | nil => intro t; rfl
  | cons y l ih => intro t; simp [tkV, ih]
theorem tkR_rng (l : List Int) (hl : ∀ x ∈ l, 0 ≤ x) : ∀ t, 0 ≤ t → 0 ≤ tkR t l ∧ tkR t l ≤ t := by
  induction l with
  | nil => intro t h; exact ⟨h, Int.le_refl _⟩
  | cons y l ih =>
    intro t h
    have hy := hl y (by simp)
    have e : tkR t (y :: l) = tkR (t - mn t y) l := rfl
    rw [e]
    have h1 : 0 ≤ mn t y ∧ mn t y ≤ t := by unfold mn; split <;> omega
    have := ih (fun x hx => hl x (by simp [hx])) (t - mn t y) (by omega)
    omega
def takesE (t : Int) (l : List Int) : Int := if mnL t l < 0 then 2 else 0
def takesV (t : Int) (l : List Int) : List Int := if mnL t l < 0 then [] else tkV t l
def takesR (t : Int) (l : List Int) : Int := if mnL t l < 0 then 0 else tkR t l
def tupR (w' : World) (e : Ending) (v : List Int) (R E : Int) : Prop := ∃ A c, e = .returned (.tuple #[.slice A v.length c, .int .i64 R, .int .i64 E]) ∧ (v.length ≤ c ∧ c ≤ maxLen) ∧ Sl w' A (ints .i64 v)

set_option maxRecDepth 100000 in
set_option maxHeartbeats 4000000 in
theorem takes_any (t : Int) (A : Option Addr) (cap : Nat) (l : List Int) (w : World) (hl : l.length ≤ 64) (h64 : In64 t) (hs : Sl w A (ints .i64 l)) :
    Calls Try.prog 17 #[.int .i64 t, .slice A l.length cap] w fun e w' => tupR w' e (takesV t l) (takesR t l) (takesE t l) ∧ Below w.heap.size w w' := by
  have HB := Lib.hid (fun W (hb : Below w.heap.size w W) => below_any t A cap l W (by omega) (hs.below hb))
  by_cases hbad : mnL t l < 0
  · rw [show takesE t l = 2 from if_pos hbad, show takesV t l = [] from if_pos hbad, show takesR t l = 0 from if_pos hbad]
    have HD := Lib.hid (decide_eq_true hbad)
    clear hbad
    go_enter Try.func17, Try.ntmps17
    go_wp2_with fail
    refine (HB.out _ (Below.refl _ _)).mono ?_
    rintro e w1 ⟨rfl, hb1⟩
    rw [HD.out]
    go_wp2_with fail
    go_ret3
    exact ⟨⟨none, 0, rfl, by decide, Sl.nil⟩, hb1⟩
  · rw [show takesE t l = 0 from if_neg hbad, show takesV t l = tkV t l from if_neg hbad, show takesR t l = tkR t l from if_neg hbad]
    have HD := Lib.hid (decide_eq_false hbad)
    obtain ⟨ht, hnn⟩ := mnL_nn.1 hbad
    have HNN := Lib.hid hnn
    clear hbad hnn
    unfold In64 at h64
    go_enter Try.func17, Try.ntmps17
    go_wp2_with fail
    refine (HB.out _ (Below.refl _ _)).mono ?_
    rintro e w1 ⟨rfl, hb1⟩
    rw [HD.out]
    rcases Nat.eq_zero_or_pos l.length with hn0 | hn0
    · obtain rfl : l = [] := List.eq_nil_of_length_eq_zero hn0
      go_wp2_with (first
        | (at_make; refine wpList_zeros rfl (.tmp 14) (.tmp 14) rfl 0 rfl rfl rfl rfl (by omega) (Nat.le_refl _) ?_; intro w2 hown2 hb2)
        | fail)
      go_loopw [0, 18] (fun v i wr => i = .int .i64 0 ∧ v = .int .i64 t ∧ Below w.heap.size w wr) (fun _ i _ => 0)
      case atStart => exact ⟨rfl, rfl, since_step hb1 hb2⟩
      case round =>
        obtain ⟨rfl, rfl, hB⟩ := hrel
        go_wp2
        go_ret3
        exact ⟨⟨_, 0, rfl, ⟨Nat.le_refl 0, by decide⟩, Sl.nil⟩, hB⟩
    · go_wp2_with (first
        | (at_make; refine wpList_zeros rfl (.tmp 14) (.tmp 14) rfl l.length rfl rfl rfl rfl (by omega) (Nat.le_refl _) ?_; intro w2 hown2 hb2)
        | fail)
      have R2 := Rw.own hown2 hn0
      have hB2 := since_step hb1 hb2
      have hg := hb1.size
      generalize w1.heap.size = g at *
      clear hown2 hb2 hb1
      go_loopw [0, 18] (fun v i wr => ∃ (k : Nat) (xs : List Value), k ≤ l.length ∧ i = .int .i64 k ∧ v = .int .i64 (tkR t (l.take k)) ∧ Rw wr g xs ∧ xs.length = l.length ∧ xs.take k = ints .i64 (tkV t (l.take k)) ∧ Below w.heap.size w wr) (fun _ i _ => l.length - (intOf i).toNat)
      case atStart => exact ⟨0, _, by omega, rfl, rfl, R2, by simp [ints], by simp [ints, tkV], hB2⟩
      case round =>
        clear R2 hB2
        obtain ⟨k, xs, hk, rfl, rfl, RX, hxl, hxt, hB⟩ := hrel
        by_cases hlt : k < l.length
        · obtain ⟨b, o, rfl, hz⟩ := (hs.below hB).int hlt
          have hbr := World.block_lt_of_cell? _ _ hz
          have hTR := tkR_take t l k hlt
          have hTV := tkV_take t l k hlt
          have hrg := tkR_rng (l.take k) (fun x hx => HNN.out x (List.mem_of_mem_take hx)) t ht
          have hxk := HNN.out _ (List.getElem_mem hlt)
          have HLE := fun B W (h : Sl W B (ints .i64 [l[k]])) => fleast_any (tkR t (l.take k)) B 1 [l[k]] W (by simp) h
          rw [show mnL (tkR t (l.take k)) [l[k]] = mn (tkR t (l.take k)) l[k] from rfl] at HLE
          have HLE := Lib.hid HLE
          have hmr : 0 ≤ mn (tkR t (l.take k)) l[k] ∧ mn (tkR t (l.take k)) l[k] ≤ tkR t (l.take k) := by unfold mn; split <;> omega
          have HTR := Lib.hid hTR
          have HTV := Lib.hid hTV
          have HXT := Lib.hid hxt
          have HXL := Lib.hid hxl
          clear hTR hTV hxt
          generalize mn (tkR t (l.take k)) l[k] = m at *
          generalize tkR t (l.take k) = a at *
          generalize l[k] = x at *
          go_wp2_with fail
          refine (HLE.out _ _ (Sl.new_ _ _ _)).mono ?_
          rintro e w3 ⟨rfl, hb3⟩
          have RX3 := (RX.alloc _).below hb3
          have hB3 := since_step (since_alloc hB _) hb3
          have c1 := (RX3.set (show k < xs.length by omega) (.int .i64 m)).cell (List.getElem?_set_self (show k < xs.length by omega))
          have c0 := RX3.cell (List.getElem?_eq_getElem (show k < xs.length by omega))
          have f1 := RX3.2.2 k
          have l1 := RX3.1
          clear hb3 RX hB hz hbr
          go_wp2
          go_roundw
          case rel =>
            refine ⟨k + 1, xs.set k (.int .i64 m), by omega, by go_num, by rw [HTR.out], RX3.set (by omega) _, by simp [hxl], ?_, ?_⟩
            · rw [take_set _ _ _ (by omega), HXT.out, HTV.out, ints_app]; rfl
            · refine Below.setCell hB3 ?_ _; simp; omega
          case measure => simp [intOf]; omega
        · obtain rfl : k = l.length := by omega
          have hx2 : xs = ints .i64 (tkV t l) := by
            rw [List.take_of_length_le (by omega), List.take_length] at hxt
            exact hxt
          rw [List.take_length]
          go_wp2
          go_ret3
          have hvl := tkV_length l t
          refine ⟨⟨some ⟨g, 0, none⟩, l.length, by rw [hvl]; rfl, by rw [hvl]; exact ⟨Nat.le_refl _, by unfold maxLen; omega⟩, ?_⟩, hB⟩
          rw [← hx2]
          exact RX.2.1

set_option maxRecDepth 100000 in
set_option maxHeartbeats 4000000 in
theorem rtakes_any (t : Int) (A : Option Addr) (cap : Nat) (l : List Int) (w : World) (hl : l.length ≤ 64) (hx : All64 l) (h64 : In64 t) (hs : Sl w A (ints .i64 l)) :
    Calls Try.prog 18 #[.int .i64 t, .slice A l.length cap] w fun e w' => tupR w' e (takesV t l) (takesR t l) (takesE t l) ∧ Below w.heap.size w w' := by
  have HB := Lib.hid (fun W (hb : Below w.heap.size w W) => why_any t A cap l W (by omega) hx (hs.below hb))
  by_cases hbad : mnL t l < 0
  · rw [show takesE t l = 2 from if_pos hbad, show takesV t l = [] from if_pos hbad, show takesR t l = 0 from if_pos hbad]
    have HD := Lib.hid (show whyE t l = 2 from if_pos hbad)
    clear hbad
    go_enter Try.func18, Try.ntmps18
    go_wp2_with fail
    refine (HB.out _ (Below.refl _ _)).mono ?_
    rintro e w1 ⟨rfl, hb1⟩
    rw [HD.out]
    go_wp2_with fail
    go_ret3
    exact ⟨⟨none, 0, rfl, by decide, Sl.nil⟩, hb1⟩
  · rw [show takesE t l = 0 from if_neg hbad, show takesV t l = tkV t l from if_neg hbad, show takesR t l = tkR t l from if_neg hbad]
    have hne : whyE t l = 0 ∨ whyE t l = 7 := by
      by_cases h : In64 l.sum
      · exact Or.inl ((if_neg hbad).trans (if_pos h))
      · exact Or.inr ((if_neg hbad).trans (if_neg h))
    have hn2 : ¬ whyE t l = 2 := by omega
    obtain ⟨ht, hnn⟩ := mnL_nn.1 hbad
    have HNN := Lib.hid hnn
    clear hbad hnn hne
    generalize whyE t l = y at *
    unfold In64 at h64
    go_enter Try.func18, Try.ntmps18
    go_wp2_with fail
    refine (HB.out _ (Below.refl _ _)).mono ?_
    rintro e w1 ⟨rfl, hb1⟩
    go_wp2_with fail
    go_loopw [0, 7, 8] (fun v s i wr => ∃ (k : Nat) (A7 : Option Addr) (c7 : Nat), k ≤ l.length ∧ i = .int .i64 k ∧ v = .int .i64 (tkR t (l.take k)) ∧ s = .slice A7 k c7 ∧
      wr.ownsRow w.heap.size 2 1 (.slice A7 k c7) k (ints .i64 (tkV t (l.take k))) ∧ Below w.heap.size w wr) (fun _ _ i _ => l.length - (intOf i).toNat)
    case atStart => exact ⟨0, none, 0, by omega, rfl, rfl, rfl, own_nil _ _ _, hb1⟩
    case round =>
      obtain ⟨k, A7, c7, hk, rfl, rfl, rfl, hown, hB⟩ := hrel
      by_cases hlt : k < l.length
      · obtain ⟨b, o, rfl, hz⟩ := (hs.below hB).int hlt
        have hbr := World.block_lt_of_cell? _ _ hz
        have hTR := tkR_take t l k hlt
        have hTV := tkV_take t l k hlt
        have hrg := tkR_rng (l.take k) (fun x hx => HNN.out x (List.mem_of_mem_take hx)) t ht
        have hxk := HNN.out _ (List.getElem_mem hlt)
        have hmr : 0 ≤ mn (tkR t (l.take k)) l[k] ∧ mn (tkR t (l.take k)) l[k] ≤ tkR t (l.take k) := by unfold mn; split <;> omega
        have hme : mn (tkR t (l.take k)) l[k] = if tkR t (l.take k) < l[k] then tkR t (l.take k) else l[k] := by unfold mn; split <;> split <;> omega
        have HTR := Lib.hid hTR
        have HTV := Lib.hid hTV
        clear hTR hTV
        generalize mn (tkR t (l.take k)) l[k] = m at *
        generalize tkR t (l.take k) = a at *
        generalize tkV t (l.take k) = vs at *
        generalize l[k] = x at *
        have HME := Lib.hid hme
        clear hme
        by_cases hlx : a < x
        · obtain rfl : m = a := by rw [HME.out, if_pos hlx]
          clear HME
          go_wp2_with (first
            | (at_builtin; refine wpList_app rfl (.tmp 31) (.tmp 33) rfl EI rfl rfl (hown.alloc _) (m := 1) (news := [.int .i64 m]) rfl (Sl.new_ _ _ _) (by intro u hu; simp at hu; rw [hu]; rfl) (by unfold maxLen; omega) (by omega) (by have := hB.size; simp; omega) ?_; intro A8 c8 w8 hown8 hg8 hb8)
            | fail)
          have hB8 := (since_alloc hB _).trans hb8
          go_roundw
          case rel =>
            refine ⟨_, _, _, ⟨k + 1, by omega, rfl, rfl, A8, c8, rfl, ?_, hB8⟩, intE (by rw [HTR.out]; omega), rfl, intE (by omega)⟩
            rw [HTV.out, ints_app]; exact hown8
          case measure => simp [intOf]; omega
        · obtain rfl : m = x := by rw [HME.out, if_neg hlx]
          clear HME
          go_wp2_with (first
            | (at_builtin; refine wpList_app rfl (.tmp 31) (.tmp 33) rfl EI rfl rfl (hown.alloc _) (m := 1) (news := [.int .i64 m]) rfl (Sl.new_ _ _ _) (by intro u hu; simp at hu; rw [hu]; rfl) (by unfold maxLen; omega) (by omega) (by have := hB.size; simp; omega) ?_; intro A8 c8 w8 hown8 hg8 hb8)
            | fail)
          have hB8 := (since_alloc hB _).trans hb8
          go_roundw
          case rel =>
            refine ⟨_, _, _, ⟨k + 1, by omega, rfl, rfl, A8, c8, rfl, ?_, hB8⟩, intE (by rw [HTR.out]), rfl, intE (by omega)⟩
            rw [HTV.out, ints_app]; exact hown8
          case measure => simp [intOf]; omega
      · obtain rfl : k = l.length := by omega
        rw [List.take_length] at hown ⊢
        have hvl := tkV_length l t
        have hcap := own_cap' hown
        go_wp2
        go_ret3
        exact ⟨⟨A7, c7, by rw [hvl]; rfl, by rw [hvl]; exact hcap, Sl.of_own hown⟩, hB⟩
end Go.Proofs.Ytckgifhidomhaaa
