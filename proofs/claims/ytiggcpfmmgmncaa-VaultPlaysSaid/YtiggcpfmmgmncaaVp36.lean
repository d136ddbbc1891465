import Derived.StillTailTactics
import Derived.Test.YtiggcpfmmgmncaaVp33
set_option maxHeartbeats 16000000
set_option maxRecDepth 100000
set_option linter.unusedVariables false
set_option linter.unusedSimpArgs false
namespace Go.Proofs.Ytiggcpfmmgmncaa
open Go.ChangeShapes Go.WideShapes Go.ChangeAt Go.RowKit
section
def blkV (b g h s : Nat) (v : Value) : List Nat := h :: blk8 b g s v
section
variable {B v h s b c k : Nat} {A SA : Option Addr} {R : List (RowS Nat)} {x : Vv}
theorem VaA.box_v {w : World} {b2 : Nat} (hv : VaA B w v h s b A c R SA k x) (hb : ∃ cs T z, w.heap[b2]? = some (.cells cs T z) ∧ T ≠ 99) : v ≠ b2 := fun e => by
  obtain ⟨cs, T, z, h1, h2⟩ := hb
  rw [← e, hv.vb] at h1
  injection h1 with h1
  injection h1 with _ h1
  exact h2 h1.symm
theorem off_blk8 {w : World} {g kc n : Nat} {K : Option Addr} {d : Dv} {B2 b2 : Nat} {cs : Array Value} {T : TypeId} {z : Nat × Nat} {y : Sc} (hd : DrA B w b g K kc d) (hs : ScA B2 w s b2 A c R y) (hn : w.heap[n]? = some (.cells cs T z)) (h1 : T ≠ 71) (h2 : T ≠ 142) (h3 : T ≠ 66) (h4 : T ≠ 36) : n ∉ blk8 b g s (y.row A c) := fun hm => by
  have key : ∀ {m : Nat} {cs2 : Array Value} {T2 : TypeId} {z2 : Nat × Nat}, n = m → w.heap[m]? = some (.cells cs2 T2 z2) → T = T2 := fun {m cs2 T2 z2} e hm => by
    rw [← e, hn] at hm
    injection hm with hm
    injection hm with _ hm
  unfold blk8 at hm
  rcases List.mem_cons.1 hm with e | hm
  · exact h1 (key e hd.blk)
  rcases List.mem_cons.1 hm with e | hm
  · exact h2 (key e hd.row)
  rcases List.mem_cons.1 hm with e | hm
  · exact h3 (key e hs.blk)
  · exact own_type hs.own hn (fun e => h4 e.symm) (Option.mem_def.1 (Option.mem_toList.1 hm))
theorem VaA.app {w w' : World} {g kc c' : Nat} {K A' : Option Addr} {d : Dv} {R' : List (RowS Nat)} {y : Sc} (hv : VaA B w v h s b A c R SA k x) (hd : DrA B w b g K kc d) (hc : ChgL (blk8 b g s (x.sc.row A c)) w w') (hs : ScA B w' s b A' c' R' y) : VaA B w' v h s b A' c' R' SA k { x with sc := y } := by
  refine ⟨?_, ?_, hs, ?_, hv.ge, hv.small⟩
  · rw [hc.block v hv.got.2.1 (off_blk8 hd hv.sc hv.vb (by decide) (by decide) (by decide) (by decide))]; exact hv.vb
  · rw [hc.block h hv.got.2.2.2.2.2.2.2.2.2 (off_blk8 hd hv.sc hv.hb (by decide) (by decide) (by decide) (by decide))]; exact hv.hb
  · refine hc.own hv.st (fun y hy e => ?_)
    rcases hv.st.2 with ⟨hv1, _⟩ | ⟨n, cap, cur, hv1, _, hh, _⟩
    · rw [hv1] at e; simp [Value.ownBlock] at e
    · rw [hv1] at e
      simp [Value.ownBlock] at e
      subst e
      exact off_blk8 hd hv.sc hh (by decide) (by decide) (by decide) (by decide) hy
theorem VaA.mind {w : World} (hv : VaA B w v h s b A c R SA k x) (q : Bool) : VaA B (w.setCell ⟨h, 6, none⟩ (.bool q)) v h s b A c R SA k { x with dead := q } := by
  have e0 := set_blk (i := 6) (.bool q) hv.hb
  have hvh : v ≠ h := hv.box_v ⟨_, _, _, hv.hb, by decide⟩
  refine ⟨?_, ?_, ScA.box hv.sc hv.hb (by decide) (by decide) (by decide) (ChgL.set (l := [h]) 6 _ (by simp)), own_box hv.st hv.hb (by decide) (ChgL.set (l := [h]) 6 _ (by simp)), hv.ge, hv.small⟩
  · rw [set_far _ (show v ≠ (⟨h, 6, none⟩ : Addr).block from hvh)]; exact hv.vb
  · simpa [shC] using e0
theorem DrA.mind {w : World} {g kc i : Nat} {K : Option Addr} {d : Dv} {u : Value} (hd : DrA B w b g K kc d) (hv : VaA B w v h s b A c R SA k x) : DrA B (w.setCell ⟨h, i, none⟩ u) b g K kc d :=
  hd.box hv.hb (by decide) (by decide) (by decide) (ChgL.set (l := [h]) i _ (by simp))
end
def Vv.app (x : Vv) (d : Dv) (l : List Nat) : (Vv × Dv) × Int :=
  if x.dead = true ∨ d.on = false then ((x, d), 9)
  else (({ x with sc := (x.sc.app d l).1.1, dead := (x.sc.app d l).2 == 9 }, (x.sc.app d l).1.2), (x.sc.app d l).2)
theorem vguard_dead {B v h s b c k g kc : Nat} {A SA K : Option Addr} {R : List (RowS Nat)} {x : Vv} {d : Dv} (F : Nat) (caps : Array Value) (w : World) (hv : VaA B w v h s b A c R SA k x) (hd : DrA B w b g K kc d) (hx : x.dead = true ∨ d.on = false) :
    Calls Try.prog 71 #[.pointer (some ⟨v, 0, none⟩), .func (.func F) #[] caps] w fun e w' => e = .returned (.int .i64 9) ∧ w' = w := by
  have HFT := Lib.hid (vfit_eq w hv)
  have HLV := Lib.hid (dlive_eq w hd)
  obtain ⟨pv, pvs, p0, p1, p2, p3, p4, p5, p6, phs⟩ := hv.got
  clear hv hd
  cases hx2 : x.dead with
  | true =>
    rw [hx2] at p6
    clear hx hx2
    go_enter Try.func71, Try.ntmps71
    go_wp2_with fail
    refine HFT.out.mono ?_
    rintro e w1 ⟨rfl, rfl⟩
    go_wp2_with fail
    go_ret
    exact ⟨rfl, rfl⟩
  | false =>
    have hon : d.on = false := hx.resolve_left (by rw [hx2]; decide)
    rw [hx2] at p6
    rw [hon] at HLV
    clear hx hx2 hon
    go_enter Try.func71, Try.ntmps71
    go_wp2_with fail
    refine HFT.out.mono ?_
    rintro e w1 ⟨rfl, rfl⟩
    go_wp2_with fail
    refine HLV.out.mono ?_
    rintro e w2 ⟨rfl, rfl⟩
    go_wp2_with fail
    go_ret
    exact ⟨rfl, rfl⟩
theorem vguard_go {B v h s b c k g kc : Nat} {A SA K : Option Addr} {R : List (RowS Nat)} {x : Vv} {d : Dv} (F : Nat) (caps : Array Value) (w : World) (hv : VaA B w v h s b A c R SA k x) (hd : DrA B w b g K kc d) (hx : x.dead = false) (hon : d.on = true) (hF : Ent Try.prog F) (Q : Int → World → Prop)
    (hcall : Calls Try.prog F caps w fun e w' => ∃ (z : Int) (s2 k2 : Nat) (A2 SA2 : Option Addr) (c2 : Nat) (R2 : List (RowS Nat)) (y : Vv), e = .returned (.int .i64 z) ∧ VaA B w' v h s2 b A2 c2 R2 SA2 k2 y ∧ Q z w') :
    Calls Try.prog 71 #[.pointer (some ⟨v, 0, none⟩), .func (.func F) #[] caps] w fun e w' => ∃ z w1, e = .returned (.int .i64 z) ∧ Q z w1 ∧ w' = w1.setCell ⟨h, 6, none⟩ (.bool (z == 9)) := by
  have HFT := Lib.hid (vfit_eq w hv)
  have HLV := Lib.hid (dlive_eq w hd)
  obtain ⟨pv, pvs, p0, p1, p2, p3, p4, p5, p6, phs⟩ := hv.got
  rw [hx] at p6
  rw [hon] at HLV
  have HCALL := Lib.hid hcall
  clear hv hd hx hon hcall
  go_enter Try.func71, Try.ntmps71
  go_wp2_with fail
  refine HFT.out.mono ?_
  rintro e w1 ⟨rfl, rfl⟩
  go_wp2_with fail
  refine HLV.out.mono ?_
  rintro e w2 ⟨rfl, rfl⟩
  go_wp2_with fail
  rw [hF, Oper.upon_enter]
  refine HCALL.out.mono ?_
  rintro e w3 ⟨z, s2, k2, A2, SA2, c2, R2, y, rfl, hv3, hq⟩
  obtain ⟨pv, pvs, p0, p1, p2, p3, p4, p5, p6, phs⟩ := hv3.got
  have z6 := (box_cells hv3.hb 6).2.1
  have HQ := Lib.hid hq
  clear hv3 hq
  go_wp2_with fail
  go_ret
  exact ⟨z, w3, rfl, HQ.out, rfl⟩
theorem vapp1_any {B v h s b c k g kc : Nat} {A SA K : Option Addr} {R : List (RowS Nat)} {x : Vv} {d : Dv} {m1 m2 : Nat} (rA : Option Addr) (rc_ : Nat) (l : List Nat) (w : World) (hv : VaA B w v h s b A c R SA k x) (hd : DrA B w b g K kc d) (hB : B ≤ w.heap.size) (h1 : w.cell? ⟨m1, 0, none⟩ = some (.pointer (some ⟨v, 0, none⟩))) (h2 : w.cell? ⟨m2, 0, none⟩ = some (.slice rA l.length rc_)) (h3 : m1 < w.heap.size ∧ m2 < w.heap.size) (hlc : l.length ≤ rc_) (hcm : rc_ ≤ maxLen) (hl : l.length ≤ 100000) (hrs : SlF w b g rA (by8 l)) (ho : Oct l) (ht : x.sc.t ≤ d.S.length) (hLn : x.sc.L.length ≤ 900000) :
    Calls Try.prog 72 #[.pointer (some ⟨m1, 0, none⟩), .pointer (some ⟨m2, 0, none⟩)] w fun e w' => e = .returned (.int .i64 (x.sc.app d l).2) ∧ ∃ A' c' R', ScA B w' s b A' c' R' (x.sc.app d l).1.1 ∧ DrA B w' b g K kc (x.sc.app d l).1.2 ∧ ChgL (blk8 b g s (x.sc.row A c)) w w' ∧ (((x.sc.app d l).1.1.row A' c').ownBlock = (x.sc.row A c).ownBlock ∨ ∃ k, w.heap.size ≤ k ∧ ((x.sc.app d l).1.1.row A' c').ownBlock = some k) := by
  have hb0 : Below w.heap.size w w.drew := (Below.refl _ _).drew
  have HAPP := Lib.hid (sapp_any rA rc_ l w.drew (hd.below hb0) (hv.sc.below hb0) hB hlc hcm hl (hrs.below hb0) ho ht hLn)
  obtain ⟨pv, pvs, p0, p1, p2, p3, p4, p5, p6, phs⟩ := hv.got
  obtain ⟨m1s, m2s⟩ := h3
  clear hv hd hB hlc hcm hl hrs ho ht hLn
  go_enter Try.func72, Try.ntmps72
  go_wp2_with fail
  go_still_tail 8, (by kernel_rfl)
  change wpList _ _ _ _ _ w.drew
  go_wp2_with fail
  refine HAPP.out.mono ?_
  rintro e w2 ⟨rfl, A', c', R', hs2, hd2, hc2, hr2⟩
  have HS2 := Lib.hid hs2
  have HD2 := Lib.hid hd2
  have HC2 : Hid (ChgL (blk8 b g s (x.sc.row A c)) w w2) := Lib.hid ((ChgL.of_below (l := blk8 b g s (x.sc.row A c)) hb0).trans hc2 (fun y hy => .inl hy))
  have HR2 := Lib.hid hr2
  clear hs2 hd2 hc2 hr2 hb0
  go_wp2_with fail
  go_ret
  exact ⟨rfl, A', c', R', HS2.out, HD2.out, HC2.out, HR2.out⟩
theorem ent_vapp1 : Ent Try.prog 72 := Ent.of (by kernel_rfl)
theorem blkV_grow {b g h s : Nat} {v v' : Value} {w : World} (hr : v'.ownBlock = v.ownBlock ∨ ∃ k, w.heap.size ≤ k ∧ v'.ownBlock = some k) : ∀ y ∈ blkV b g h s v', y ∈ blkV b g h s v ∨ w.heap.size ≤ y := fun y hy => by
  unfold blkV at *
  rcases List.mem_cons.1 hy with e | hy
  · exact .inl (by rw [e]; exact List.mem_cons_self ..)
  · rcases blk8_grow hr y hy with h1 | h1
    · exact .inl (List.mem_cons_of_mem _ h1)
    · exact .inr h1
theorem vapp_any {B v h s b c k g kc : Nat} {A SA K : Option Addr} {R : List (RowS Nat)} {x : Vv} {d : Dv} (rA : Option Addr) (rc_ : Nat) (l : List Nat) (w : World) (hv : VaA B w v h s b A c R SA k x) (hd : DrA B w b g K kc d) (hB : B ≤ w.heap.size) (hlc : l.length ≤ rc_) (hcm : rc_ ≤ maxLen) (hl : l.length ≤ 100000) (hrs : SlF w b g rA (by8 l)) (ho : Oct l) (ht : x.sc.t ≤ d.S.length) (hLn : x.sc.L.length ≤ 900000) :
    Calls Try.prog 38 #[.pointer (some ⟨v, 0, none⟩), .slice rA l.length rc_] w fun e w' => e = .returned (.int .i64 (x.app d l).2) ∧ ∃ s2 A' c' R' SA' k', VaA B w' v h s2 b A' c' R' SA' k' (x.app d l).1.1 ∧ DrA B w' b g K kc (x.app d l).1.2 ∧ ChgL (blkV b g h s (x.sc.row A c)) w w' ∧ (∀ y ∈ blkV b g h s2 ((x.app d l).1.1.sc.row A' c'), y ∈ blkV b g h s (x.sc.row A c) ∨ w.heap.size ≤ y) := by
  have hb0 : Below w.heap.size w ((w.alloc (.cells #[.pointer (some ⟨v, 0, none⟩)] 83)).alloc (.cells #[.slice rA l.length rc_] 36)) := since_alloc (since_alloc (Below.refl _ _) _) _
  have HB0 := Lib.hid hb0
  have hv0 := hv.below hb0
  have hd0 := hd.below hb0
  unfold Vv.app
  by_cases hx : x.dead = true ∨ d.on = false
  · rw [if_pos hx]
    have HG := Lib.hid (vguard_dead 72 #[.pointer (some ⟨w.heap.size, 0, none⟩), .pointer (some ⟨w.heap.size + 1, 0, none⟩)] _ hv0 hd0 hx)
    have HV0 := Lib.hid hv0
    have HD0 := Lib.hid hd0
    clear hv hd hB hlc hcm hl hrs ho ht hLn hb0 hv0 hd0 hx
    go_enter Try.func38, Try.ntmps38
    go_wp2_with fail
    refine HG.out.mono ?_
    rintro e w2 ⟨rfl, rfl⟩
    go_wp2_with fail
    go_ret
    exact ⟨rfl, s, A, c, R, SA, k, HV0.out, HD0.out, ChgL.of_below HB0.out, fun y hy => .inl hy⟩
  · rw [if_neg hx]
    have hx1 : x.dead = false := by cases h : x.dead <;> simp_all
    have hx2 : d.on = true := by cases h : d.on <;> simp_all
    have hc := vapp1_any (m1 := w.heap.size) (m2 := w.heap.size + 1) rA rc_ l ((w.alloc (.cells #[.pointer (some ⟨v, 0, none⟩)] 83)).alloc (.cells #[.slice rA l.length rc_] 36)) hv0 hd0 (Nat.le_trans hB hb0.size) ?q1 ?q2 ?q3 hlc hcm hl (hrs.below hb0) ho ht hLn
    case q1 => rw [((since_alloc (Below.refl _ _) _ : Below (w.alloc (.cells #[.pointer (some ⟨v, 0, none⟩)] 83)).heap.size _ ((w.alloc (.cells #[.pointer (some ⟨v, 0, none⟩)] 83)).alloc (.cells #[.slice rA l.length rc_] 36)))).cell (p := ⟨w.heap.size, 0, none⟩) (by simp)]; exact World.cell?_alloc_new _ _ _ 0
    case q2 =>
      have := World.cell?_alloc_new (w.alloc (.cells #[.pointer (some ⟨v, 0, none⟩)] 83)) #[.slice rA l.length rc_] 36 0
      rw [World.size_alloc] at this
      exact this
    case q3 => simp only [World.size_alloc]; omega
    have HG := Lib.hid (vguard_go 72 #[.pointer (some ⟨w.heap.size, 0, none⟩), .pointer (some ⟨w.heap.size + 1, 0, none⟩)] _ hv0 hd0 hx1 hx2 ent_vapp1 (fun z w' => z = (x.sc.app d l).2 ∧ ∃ A' c' R', VaA B w' v h s b A' c' R' SA k { x with sc := (x.sc.app d l).1.1 } ∧ DrA B w' b g K kc (x.sc.app d l).1.2 ∧ ChgL (blk8 b g s (x.sc.row A c)) w w' ∧ (((x.sc.app d l).1.1.row A' c').ownBlock = (x.sc.row A c).ownBlock ∨ ∃ k, w.heap.size ≤ k ∧ ((x.sc.app d l).1.1.row A' c').ownBlock = some k)) (hc.mono (by
      rintro e w2 ⟨rfl, A', c', R', hs2, hd2, hc2, hr2⟩
      have hv2 := hv0.app hd0 hc2 hs2
      exact ⟨_, s, k, A', SA, c', R', _, rfl, hv2, rfl, A', c', R', hv2, hd2, (ChgL.of_below (l := blk8 b g s (x.sc.row A c)) hb0).trans hc2 (fun y hy => .inl hy), hr2.imp id (fun ⟨k, h1, h2⟩ => ⟨k, Nat.le_trans hb0.size h1, h2⟩)⟩)))
    have HLB := Lib.hid hB
    clear hv hd hB hlc hcm hl hrs ho ht hLn hb0 hv0 hd0 hx hc hx1 hx2
    go_enter Try.func38, Try.ntmps38
    go_wp2_with fail
    refine HG.out.mono ?_
    rintro e w2 ⟨z, w1, rfl, ⟨rfl, A', c', R', hv2, hd2, hc2, hr2⟩, rfl⟩
    have hv3 := VaA.mind hv2 ((x.sc.app d l).2 == 9)
    have HV3 := Lib.hid hv3
    have HD3 := Lib.hid (DrA.mind (i := 6) (u := .bool ((x.sc.app d l).2 == 9)) hd2 hv2)
    have HC3 : Hid (ChgL (blkV b g h s (x.sc.row A c)) w (w1.setCell ⟨h, 6, none⟩ (.bool ((x.sc.app d l).2 == 9)))) := Lib.hid ((ChgL.trans (l := blkV b g h s (x.sc.row A c)) (m := blkV b g h s (x.sc.row A c)) ⟨hc2.os, hc2.tape, hc2.output, hc2.size, fun n hn hm => hc2.block n hn (fun h => hm (List.mem_cons_of_mem _ h))⟩ (ChgL.set (l := blkV b g h s (x.sc.row A c)) 6 _ (List.mem_cons_self ..)) (fun y hy => .inl hy)))
    have HR3 := Lib.hid (blkV_grow (b := b) (g := g) (h := h) (s := s) hr2)
    clear hv2 hd2 hc2 hr2 hv3 HG
    go_wp2_with fail
    go_ret
    exact ⟨rfl, s, A', c', R', SA, k, HV3.out, HD3.out, HC3.out, HR3.out⟩
end
end Go.Proofs.Ytiggcpfmmgmncaa
