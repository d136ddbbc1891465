import Derived.Test.YtmjndpkfhdoljaaGreatCm30
import Derived.Test.YtmjndpkfhdoljaaGreatCm43
import Derived.Test.YtmjndpkfhdoljaaGreatCm12
import Derived.Test.YtmjndpkfhdoljaaGreatCm15
import Derived.Test.YtmjndpkfhdoljaaGreatCm31
set_option maxHeartbeats 16000000
set_option maxRecDepth 100000
set_option linter.unusedVariables false
set_option linter.unusedSimpArgs false
section
namespace Go.Proofs.YtmjndpkfhdoljaaGreat.Hq
open Go.ChangeShapes Go.WideShapes Go.ChangeAt Go.RowKit

theorem chgHR_form {how : List Lt → Int × List Lt} {cs : List Hc} {a c : Int} (h : isH cs = false) : chgHR how cs a c = (3, []) := if_pos h
theorem chgHR_err {how : List Lt → Int × List Lt} {cs : List Hc} {a c n : Int} {L : List Lt} (h : isH cs = true) (h2 : how (lotsH cs a c) = (n, L)) (h3 : n ≠ 0) : chgHR how cs a c = (n, []) := by
  unfold chgHR; rw [if_neg (by simp [h]), h2, if_pos h3]
theorem chgHR_ok {how : List Lt → Int × List Lt} {cs : List Hc} {a c : Int} {L : List Lt} (h : isH cs = true) (h2 : how (lotsH cs a c) = (0, L)) : chgHR how cs a c = (0, withH cs a c L) := by
  unfold chgHR; rw [if_neg (by simp [h]), h2, if_neg (by simp)]
theorem rhwith_any (A : Option Addr) (cap : Nat) (l : List Hd) (cs : List Hc) (a c : Int) (LA : Option Addr) (LC : Nat) (L : List Lt) (w : World) (hl : l.length ≤ 900000) (hcap : CapH A l.length cap) (hs : Sl w A (rc Hd.cells l)) (ht : HdTab w l cs) (hso : SoH cs) (hLs : Sl w LA (rc Lt.cells L)) :
    Calls Tryz.prog 32 #[.slice A l.length cap, .agg #[.int .i64 a, .int .i64 c], .slice LA L.length LC] w fun e w' => HRow w' e (withH cs a c L) ∧ Below w.heap.size w w' := by
  cases L with
  | nil => exact rhwith_nil A cap l cs a c LA LC w hl hcap hs ht hso
  | cons x r => exact rhwith_some A cap l cs a c LA LC (x :: r) w hl hcap hs ht hso hLs (by simp)
theorem isLs_le {L : List Lt} (h : isLs L = true) : L.length ≤ 900000 := by have := ((isLs_iff L).1 h).2.1; omega
theorem rhput_any (A : Option Addr) (cap : Nat) (l : List Hd) (cs : List Hc) (a c xa xt xq : Int) (w : World) (hl : l.length ≤ 900000) (hcl : ∀ g ∈ cs, g.L.length ≤ 900000) (hx : In64 xq) (h6 : ∀ g ∈ cs, ∀ y ∈ g.L, In64 y.qty) (hcap : CapH A l.length cap) (hs : Sl w A (rc Hd.cells l)) (ht : HdTab w l cs) :
    Calls Tryz.prog 10 #[.slice A l.length cap, .agg #[.int .i64 a, .int .i64 c], .agg #[.int .i64 xa, .int .i64 xt, .int .i64 xq]] w fun e w' => HRes w' e (chgHR (fun m => putLR m ⟨xa, xt, xq⟩) cs a c) ∧ Below w.heap.size w w' := by
  have hB0 := since_alloc (since_alloc (Below.refl _ w) (.cells #[.int .i64 a, .int .i64 c] 41)) (.cells #[.int .i64 xa, .int .i64 xt, .int .i64 xq] 33)
  have hK1 := (Bk.new w #[.int .i64 a, .int .i64 c] 41).alloc (.cells #[.int .i64 xa, .int .i64 xt, .int .i64 xq] 33)
  have hK2 := Bk.new (w.alloc (.cells #[.int .i64 a, .int .i64 c] 41)) #[.int .i64 xa, .int .i64 xt, .int .i64 xq] 33
  rw [World.size_alloc] at hK2
  have HIS := Lib.hid (rhisQ_any A cap l cs _ hl hcl ((hs.alloc (.cells #[.int .i64 a, .int .i64 c] 41)).alloc (.cells #[.int .i64 xa, .int .i64 xt, .int .i64 xq] 33)) (ht.below hB0))
  have HSL : Hid (∀ V, Below w.heap.size w V → Sl V A (rc Hd.cells l)) := Lib.hid fun V hV => hs.below hV
  have HTB : Hid (∀ V, Below w.heap.size w V → HdTab V l cs) := Lib.hid fun V hV => ht.below hV
  have HLO := Lib.hid (fun V h1 h2 => rhlotsQ_any A cap l cs a c V hl h1 h2)
  have hlen := lotsH_len hcl a c
  have hl6 := lots_in6 h6 a c
  have HHO := Lib.hid (fun A1 c1 V h1 => rput_any A1 c1 (lotsH cs a c) ⟨xa, xt, xq⟩ V hlen hx hl6 h1)
  obtain ⟨rn, RL, hR⟩ : ∃ rn RL, putLR (lotsH cs a c) ⟨xa, xt, xq⟩ = (rn, RL) := ⟨_, _, rfl⟩
  rw [hR] at HHO
  unfold LRes Lt.val at HHO
  simp only at HHO
  clear hs ht
  cases hi : isH cs with
  | false =>
    have HR := Lib.hid (chgHR_form (how := fun m => putLR m ⟨xa, xt, xq⟩) (a := a) (c := c) hi)
    rw [hi] at HIS
    clear hi hR
    go_enter Tryz.func10, Tryz.ntmps10
    go_wp2_with fail
    refine HIS.out.mono ?_
    rintro e w1 ⟨rfl, hb⟩
    have hB1 := since_step hB0 hb
    go_wp2_with fail
    go_ret2
    rw [HR.out]
    exact ⟨HRes.nil _ _, hB1⟩
  | true =>
    rw [hi] at HIS
    by_cases hn : rn = 0
    rotate_left
    · have HR := Lib.hid (chgHR_err (how := fun m => putLR m ⟨xa, xt, xq⟩) hi hR hn)
      have hnb : (rn != 0) = true := by simpa using hn
      have hnb2 : (rn == 0) = false := by simpa using hn
      clear hi hR hn
      go_enter Tryz.func10, Tryz.ntmps10
      go_wp2_with fail
      refine HIS.out.mono ?_
      rintro e w1 ⟨rfl, hb⟩
      have hB1 := since_step hB0 hb
      have HK1 : Hid (∀ V, Below w1.heap.size w1 V → Bk V w.heap.size #[.int .i64 a, .int .i64 c]) := Lib.hid fun V hV => (hK1.below hb).below hV
      have HK2 : Hid (∀ V, Below w1.heap.size w1 V → Bk V (w.heap.size + 1) #[.int .i64 xa, .int .i64 xt, .int .i64 xq]) := Lib.hid fun V hV => (hK2.below hb).below hV
      generalize lotsH cs a c = L0 at *
      clear hb hK1 hK2
      go_wp2_with fail
      refine wp_region_held_drew (S := (fun V => Below w.heap.size w V ∧ Below w1.heap.size w1 V)) (by kernel_rfl) (by exact ⟨hB1.drew, (Below.refl _ _).drew⟩) (fun hHeld => ?_)
      refine tkI 0 14 rfl (by intro w hSw; have ck := (HK1.out _ (hSw).2).2; have k0 := ck 0; have k1 := ck 1; simp at k0 k1; clear ck; have cq := (HK2.out _ (hSw).2).2; have k2 := cq 0; have k3 := cq 1; have k4 := cq 2; simp at k2 k3 k4; clear cq; go_simp <;> with_reducible rfl) hHeld ?_; simp only [pqZ]
      refine tkI 1 15 rfl (by intro w hSw; have ck := (HK1.out _ (hSw).2).2; have k0 := ck 0; have k1 := ck 1; simp at k0 k1; clear ck; have cq := (HK2.out _ (hSw).2).2; have k2 := cq 0; have k3 := cq 1; have k4 := cq 2; simp at k2 k3 k4; clear cq; go_simp <;> with_reducible rfl) hHeld ?_; simp only [pqZ]
      refine tkI 3 17 rfl (by intro w hSw; have ck := (HK1.out _ (hSw).2).2; have k0 := ck 0; have k1 := ck 1; simp at k0 k1; clear ck; have cq := (HK2.out _ (hSw).2).2; have k2 := cq 0; have k3 := cq 1; have k4 := cq 2; simp at k2 k3 k4; clear cq; go_simp <;> with_reducible rfl) hHeld ?_; simp only [pqZ]
      refine rdZ 2 16 rfl (by kernel_rfl) (fun K hK => ?_)
      go_simp
      refine (HLO.out _ (HSL.out _ hHeld.1) (HTB.out _ hHeld.1)).mono ?_
      rintro e u1 ⟨⟨A1, c1, rfl, ho1⟩, hk1⟩
      have hKeep := And.intro (since_step hHeld.1 hk1) (since_step hHeld.2 hk1)
      have hs1 := ho1
      clear ho1
      go_wp2_with fail
      refine hK.out _ _ (by (try dsimp only); exact hKeep) (fun hHeld => ?_); clear hK K hKeep; try simp only [pqZ]
      refine rdZ 4 18 rfl (by kernel_rfl) (fun K hK => ?_)
      go_simp
      refine (HHO.out A1 c1 _ hs1).mono ?_
      rintro e u2 ⟨⟨A2, c2, rfl, ho2⟩, hk2⟩
      have hKeep := And.intro (since_step hHeld.1 hk2) (since_step hHeld.2 hk2)
      go_wp2_with fail
      refine hK.out _ _ (by (try dsimp only); exact hKeep) (fun hHeld => ?_); clear hK K hKeep; try simp only [pqZ]
      refine tkI 5 13 rfl (by intro w hSw; have ck := (HK1.out _ (hSw).2).2; have k0 := ck 0; have k1 := ck 1; simp at k0 k1; clear ck; have cq := (HK2.out _ (hSw).2).2; have k2 := cq 0; have k3 := cq 1; have k4 := cq 2; simp at k2 k3 k4; clear cq; go_simp <;> with_reducible rfl) hHeld ?_; simp only [pqZ]
      refine tkI 6 19 rfl (by intro w hSw; have ck := (HK1.out _ (hSw).2).2; have k0 := ck 0; have k1 := ck 1; simp at k0 k1; clear ck; have cq := (HK2.out _ (hSw).2).2; have k2 := cq 0; have k3 := cq 1; have k4 := cq 2; simp at k2 k3 k4; clear cq; go_simp <;> with_reducible rfl) hHeld ?_; simp only [pqZ]
      refine tkI 7 20 rfl (by intro w hSw; have ck := (HK1.out _ (hSw).2).2; have k0 := ck 0; have k1 := ck 1; simp at k0 k1; clear ck; have cq := (HK2.out _ (hSw).2).2; have k2 := cq 0; have k3 := cq 1; have k4 := cq 2; simp at k2 k3 k4; clear cq; go_simp <;> with_reducible rfl) hHeld ?_; simp only [pqZ]
      refine tkI 8 8 rfl (by intro w hSw; have ck := (HK1.out _ (hSw).2).2; have k0 := ck 0; have k1 := ck 1; simp at k0 k1; clear ck; have cq := (HK2.out _ (hSw).2).2; have k2 := cq 0; have k3 := cq 1; have k4 := cq 2; simp at k2 k3 k4; clear cq; go_simp <;> with_reducible rfl) hHeld ?_; simp only [pqZ]
      refine tkI 9 9 rfl (by intro w hSw; have ck := (HK1.out _ (hSw).2).2; have k0 := ck 0; have k1 := ck 1; simp at k0 k1; clear ck; have cq := (HK2.out _ (hSw).2).2; have k2 := cq 0; have k3 := cq 1; have k4 := cq 2; simp at k2 k3 k4; clear cq; go_simp <;> with_reducible rfl) hHeld ?_; simp only [pqZ]
      refine wpAnyH_done (by kernel_rfl) ?_ _
      have hBz := hHeld.1
      go_wp2_with fail
      go_ret2
      rw [HR.out]
      exact ⟨HRes.nil _ _, hBz⟩

    · subst hn
      have hRi : isLs RL = true := (put_is hR).1
      have hRl := isLs_le hRi
      have hso := isH_sorted hi
      have HR := Lib.hid (chgHR_ok (how := fun m => putLR m ⟨xa, xt, xq⟩) hi hR)
      have HWI := Lib.hid (fun A2 c2 V h1 h2 h3 => rhwith_any A cap l cs a c A2 c2 RL V hl hcap h1 h2 hso h3)
      clear hi hR
      go_enter Tryz.func10, Tryz.ntmps10
      go_wp2_with fail
      refine HIS.out.mono ?_
      rintro e w1 ⟨rfl, hb⟩
      have hB1 := since_step hB0 hb
      have HK1 : Hid (∀ V, Below w1.heap.size w1 V → Bk V w.heap.size #[.int .i64 a, .int .i64 c]) := Lib.hid fun V hV => (hK1.below hb).below hV
      have HK2 : Hid (∀ V, Below w1.heap.size w1 V → Bk V (w.heap.size + 1) #[.int .i64 xa, .int .i64 xt, .int .i64 xq]) := Lib.hid fun V hV => (hK2.below hb).below hV
      generalize lotsH cs a c = L0 at *
      clear hb hK1 hK2
      go_wp2_with fail
      refine wp_region_held_drew (S := (fun V => Below w.heap.size w V ∧ Below w1.heap.size w1 V)) (by kernel_rfl) (by exact ⟨hB1.drew, (Below.refl _ _).drew⟩) (fun hHeld => ?_)
      refine tkI 0 14 rfl (by intro w hSw; have ck := (HK1.out _ (hSw).2).2; have k0 := ck 0; have k1 := ck 1; simp at k0 k1; clear ck; have cq := (HK2.out _ (hSw).2).2; have k2 := cq 0; have k3 := cq 1; have k4 := cq 2; simp at k2 k3 k4; clear cq; go_simp <;> with_reducible rfl) hHeld ?_; simp only [pqZ]
      refine tkI 1 15 rfl (by intro w hSw; have ck := (HK1.out _ (hSw).2).2; have k0 := ck 0; have k1 := ck 1; simp at k0 k1; clear ck; have cq := (HK2.out _ (hSw).2).2; have k2 := cq 0; have k3 := cq 1; have k4 := cq 2; simp at k2 k3 k4; clear cq; go_simp <;> with_reducible rfl) hHeld ?_; simp only [pqZ]
      refine tkI 3 17 rfl (by intro w hSw; have ck := (HK1.out _ (hSw).2).2; have k0 := ck 0; have k1 := ck 1; simp at k0 k1; clear ck; have cq := (HK2.out _ (hSw).2).2; have k2 := cq 0; have k3 := cq 1; have k4 := cq 2; simp at k2 k3 k4; clear cq; go_simp <;> with_reducible rfl) hHeld ?_; simp only [pqZ]
      refine rdZ 2 16 rfl (by kernel_rfl) (fun K hK => ?_)
      go_simp
      refine (HLO.out _ (HSL.out _ hHeld.1) (HTB.out _ hHeld.1)).mono ?_
      rintro e u1 ⟨⟨A1, c1, rfl, ho1⟩, hk1⟩
      have hKeep := And.intro (since_step hHeld.1 hk1) (since_step hHeld.2 hk1)
      have hs1 := ho1
      clear ho1
      go_wp2_with fail
      refine hK.out _ _ (by (try dsimp only); exact hKeep) (fun hHeld => ?_); clear hK K hKeep; try simp only [pqZ]
      refine rdZ 4 18 rfl (by kernel_rfl) (fun K hK => ?_)
      go_simp
      refine (HHO.out A1 c1 _ hs1).mono ?_
      rintro e u2 ⟨⟨A2, c2, rfl, ho2⟩, hk2⟩
      have hKeep := And.intro (since_step hHeld.1 hk2) (since_step hHeld.2 hk2)
      go_wp2_with fail
      refine hK.out _ _ (by (try dsimp only); exact hKeep) (fun hHeld => ?_); clear hK K hKeep; try simp only [pqZ]
      refine tkI 5 13 rfl (by intro w hSw; have ck := (HK1.out _ (hSw).2).2; have k0 := ck 0; have k1 := ck 1; simp at k0 k1; clear ck; have cq := (HK2.out _ (hSw).2).2; have k2 := cq 0; have k3 := cq 1; have k4 := cq 2; simp at k2 k3 k4; clear cq; go_simp <;> with_reducible rfl) hHeld ?_; simp only [pqZ]
      refine tkI 6 19 rfl (by intro w hSw; have ck := (HK1.out _ (hSw).2).2; have k0 := ck 0; have k1 := ck 1; simp at k0 k1; clear ck; have cq := (HK2.out _ (hSw).2).2; have k2 := cq 0; have k3 := cq 1; have k4 := cq 2; simp at k2 k3 k4; clear cq; go_simp <;> with_reducible rfl) hHeld ?_; simp only [pqZ]
      refine tkI 7 20 rfl (by intro w hSw; have ck := (HK1.out _ (hSw).2).2; have k0 := ck 0; have k1 := ck 1; simp at k0 k1; clear ck; have cq := (HK2.out _ (hSw).2).2; have k2 := cq 0; have k3 := cq 1; have k4 := cq 2; simp at k2 k3 k4; clear cq; go_simp <;> with_reducible rfl) hHeld ?_; simp only [pqZ]
      refine tkI 8 8 rfl (by intro w hSw; have ck := (HK1.out _ (hSw).2).2; have k0 := ck 0; have k1 := ck 1; simp at k0 k1; clear ck; have cq := (HK2.out _ (hSw).2).2; have k2 := cq 0; have k3 := cq 1; have k4 := cq 2; simp at k2 k3 k4; clear cq; go_simp <;> with_reducible rfl) hHeld ?_; simp only [pqZ]
      refine tkI 9 9 rfl (by intro w hSw; have ck := (HK1.out _ (hSw).2).2; have k0 := ck 0; have k1 := ck 1; simp at k0 k1; clear ck; have cq := (HK2.out _ (hSw).2).2; have k2 := cq 0; have k3 := cq 1; have k4 := cq 2; simp at k2 k3 k4; clear cq; go_simp <;> with_reducible rfl) hHeld ?_; simp only [pqZ]
      refine wpAnyH_done (by kernel_rfl) ?_ _
      have hBz := hHeld.1
      have ck := (HK1.out _ hHeld.2).2
      have k0 := ck 0
      have k1 := ck 1
      simp at k0 k1
      clear ck
      have hs2 := Sl.of_own ho2
      have HW := Lib.hid (HWI.out A2 c2 _ (HSL.out _ hBz) (HTB.out _ hBz) hs2)
      go_wp2_with fail
      refine HW.out.mono ?_
      rintro e u3 ⟨⟨l3, A3, c3, rfl, hs3, ht3, hc3⟩, hk3⟩
      have hBz := since_step hBz hk3
      go_wp2_with fail
      go_ret2
      rw [HR.out]
      exact ⟨⟨l3, A3, c3, rfl, hs3, ht3, hc3⟩, hBz⟩
end Go.Proofs.YtmjndpkfhdoljaaGreat.Hq
end
namespace Go.Proofs.YtmjndpkfhdoljaaGreat
open Go.ChangeShapes Go.WideShapes Go.ChangeAt Go.RowKit
section
def PRes (w' : World) (e : Ending) (R : Int × List Fw) : Prop := ∃ A' c', e = .returned (.tuple #[.slice A' R.2.length c', .int .i64 R.1]) ∧ Sl w' A' (rc Fw.cells R.2)
theorem PRes.nil (w' : World) (n : Int) : PRes w' (.returned (.tuple #[.slice none 0 0, .int .i64 n])) (n, []) := ⟨none, 0, rfl, Sl.nil⟩
def Fw.in_ (x : Fw) : Prop := In64 x.ac ∧ In64 x.cl ∧ In64 x.amt
theorem sumU_in {l : List Fw} (h : ∀ x ∈ l, Fw.in_ x) (a c : Int) : All64 ((l.filter (unF a c)).map Fw.amt) := by
  intro z hz
  obtain ⟨x, hx, rfl⟩ := List.mem_map.1 hz
  exact (h x ((List.mem_filter.1 hx).1)).2.2
theorem sumU_128 {l : List Fw} (h : ∀ x ∈ l, Fw.in_ x) (hl : l.length ≤ 900000) (a c : Int) : In128 (sumU l a c) := by
  refine sum64_128 ?_ (sumU_in h a c)
  rw [List.length_map]
  have := List.length_filter_le (unF a c) l
  omega
end
end Go.Proofs.YtmjndpkfhdoljaaGreat
