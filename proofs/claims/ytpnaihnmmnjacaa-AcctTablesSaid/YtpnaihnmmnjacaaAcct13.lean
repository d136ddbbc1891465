/-
  Layer 15, thirteenth part: the document's Set; Of, Owner of both sides (laid by gen_acct13.py).
-/
import Derived.Test.YtpnaihnmmnjacaaAcct12
namespace Go.Proofs.Ytpnaihnmmnjacaa
open Go.ChangeShapes Go.WideShapes Go.ChangeAt Go.RowKit
set_option linter.unusedVariables false
set_option linter.unusedSimpArgs false

/-- a closure that tells of a row's own elements -/
def Ac.TellsOn (l : List Ac) (F : Nat) (caps : Array Value) (p : Ac → Bool) (B : Nat) (w : World) : Prop :=
  ∀ g ∈ l, ∀ W, Below B w W → Calls Try.prog F (#[g.val] ++ caps) W fun e w' => e = .returned (.bool (p g)) ∧ Below W.heap.size W w'
theorem Ac.TellsOn.below {l : List Ac} {F : Nat} {caps : Array Value} {p : Ac → Bool} {B : Nat} {w w1 : World} (h : Ac.TellsOn l F caps p B w) (hb : Below B w w1) {C : Nat} (hC : B ≤ C) : Ac.TellsOn l F caps p C w1 :=
  fun g hg W hW => h g hg W (hb.trans (hW.mono hC))
set_option maxHeartbeats 1000000 in
set_option maxRecDepth 100000 in
theorem index_acOn (A : Option Addr) (cap : Nat) (l : List Ac) (F : Nat) (caps : Array Value) (p : Ac → Bool) (w : World) (hl : l.length ≤ 1000000) (hs : Sl w A (rc Ac.cells l)) (hF : Ent Try.prog F) (hp : Ac.TellsOn l F caps p w.heap.size w) :
    Calls Try.prog 142 #[.slice A l.length cap, .func (.func F) #[] caps] w fun e w' => e = .returned (.int .i64 (atL p l)) ∧ Below w.heap.size w w' := by
  go_enter Try.func142, Try.ntmps142
  go_wp2
  go_loopw [8] (fun i wr => ∃ k : Nat, k ≤ l.length ∧ i = .int .i64 k ∧ (∀ j, (hj : j < l.length) → j < k → p l[j] = false) ∧ Below w.heap.size w wr) (fun i _ => l.length - (intOf i).toNat)
  case atStart => exact ⟨0, by omega, rfl, fun j hj h => absurd h (by omega), Below.refl _ _⟩
  case round =>
    obtain ⟨k, hk, rfl, hno, hB⟩ := hrel
    by_cases hlt2 : k < l.length
    · obtain ⟨b, o, rfl, hbw, hg⟩ := hs.ac hlt2
      have hg1 : l[k].at wr b (o + k * 4) := Ac.at_keep (w := w) hg fun i => hB.cell (p := ⟨b, i, none⟩) hbw
      obtain ⟨g0, g1, g2, g3⟩ := hg1
      have hbr : b < wr.heap.size := Nat.lt_of_lt_of_le hbw hB.size
      have step := hp l[k] (List.getElem_mem hlt2) wr hB
      cases hq : p l[k] with
      | true =>
        have HQ := Lib.hid hq
        go_wp2_with fail
        rw [hF, Oper.upon_enter]
        refine step.mono ?_
        rintro e w1 ⟨rfl, hb1⟩
        have hB1 := since_step hB hb1
        clear hb1
        rw [HQ.out]
        go_wp2
        go_ret
        exact ⟨retI (atL_some hlt2 (fun j hj => hno j (by omega) hj) HQ.out).symm, hB1⟩
      | false =>
        have HQ := Lib.hid hq
        go_wp2_with fail
        rw [hF, Oper.upon_enter]
        refine step.mono ?_
        rintro e w1 ⟨rfl, hb1⟩
        have hB1 := since_step hB hb1
        clear hb1
        rw [HQ.out]
        go_wp2
        go_roundw
        case rel =>
          refine ⟨k + 1, by omega, by go_num, fun j hj hjk => ?_, hB1⟩
          rcases Nat.lt_or_ge j k with h | h
          · exact hno j hj h
          · obtain rfl : j = k := by omega
            exact HQ.out
        case measure => simp [intOf]; omega
    · go_wp2
      go_ret
      exact ⟨retI (atL_none fun j hj => hno j hj (by omega)).symm, hB⟩

set_option maxHeartbeats 1000000 in
set_option maxRecDepth 100000 in
theorem find_acOn (A : Option Addr) (cap : Nat) (l : List Ac) (F : Nat) (caps : Array Value) (p : Ac → Bool) (w : World) (hl : l.length ≤ 1000000) (hs : Sl w A (rc Ac.cells l)) (hF : Ent Try.prog F) (hp : Ac.TellsOn l F caps p w.heap.size w) :
    Calls Try.prog 92 #[.slice A l.length cap, .func (.func F) #[] caps] w fun e w' =>
      e = .returned (.tuple #[(pickL p Ac.zero l).val, .bool (l.find? p).isSome]) ∧ Below w.heap.size w w' := by
  have hB0 := since_alloc (Below.refl w.heap.size w) (.cells #[.int .i64 0, .int .i64 0, .int .i64 0, .slice none 0 0] 24)
  have hidx := index_acOn A cap l F caps p (w.alloc (.cells #[.int .i64 0, .int .i64 0, .int .i64 0, .slice none 0 0] 24)) hl (hs.alloc _) hF (hp.below hB0 (by simp))
  have Bz := Bk.new w #[.int .i64 0, .int .i64 0, .int .i64 0, .slice none 0 0] 24
  rcases atL_cases p l with ⟨h0, hno⟩ | ⟨k, hk, h0, hpk, hno⟩
  · rw [h0] at hidx
    have HF1 := Lib.hid (find_none hno)
    clear hno h0
    go_enter Try.func92, Try.ntmps92
    go_wp2_with fail
    refine hidx.mono ?_
    rintro e w1 ⟨rfl, hb1⟩
    have hB1 := since_step hB0 hb1
    have Bz := Bz.below hb1
    obtain ⟨lb, cb⟩ := _root_.id Bz
    have q0 := cb 0
    have q1 := cb 1
    have q2 := cb 2
    have q3 := cb 3
    simp at q0 q1 q2 q3
    clear cb
    have hfz : ∀ i, w1.frozen? ⟨w.heap.size, i, none⟩ = false := fun i => by rw [(hb1.frozen (p := ⟨w.heap.size, i, none⟩) (by simp))]; simp
    have hcs := @cell_set
    clear hb1 Bz hidx
    go_wp2_with fail
    refine bodyPost_ret (v := .tuple #[Ac.zero.val, .bool false]) ?_ rfl ⟨?_, ?_⟩
    · have hca : ∀ (V : World) (o : Obj) (i : Nat), w.heap.size < V.heap.size → (V.alloc o).cell? ⟨w.heap.size, i, none⟩ = V.cell? ⟨w.heap.size, i, none⟩ := fun V o i h => World.cell?_alloc_lt V o ⟨w.heap.size, i, none⟩ h
      simp [results, Try.results92, go_sem, q0, q1, q2, q3, hfz, Ac.zero, Ac.val, hca, lb]
    · rw [pickL, HF1.out]; rfl
    · repeat' (first | with_reducible exact hB1 | with_reducible refine Below.setCell ?_ ?_ _ | with_reducible refine Below.alloc ?_ ?_ _)
      all_goals first | (simp; done) | (simp; omega)
  · rw [h0] at hidx
    have HF1 := Lib.hid (find_some hk hno hpk)
    clear hno h0 hpk
    go_enter Try.func92, Try.ntmps92
    go_wp2_with fail
    refine hidx.mono ?_
    rintro e w1 ⟨rfl, hb1⟩
    have hB1 := since_step hB0 hb1
    have Bz := Bz.below hb1
    obtain ⟨lb, cb⟩ := _root_.id Bz
    have q0 := cb 0
    have q1 := cb 1
    have q2 := cb 2
    have q3 := cb 3
    simp at q0 q1 q2 q3
    clear cb
    have hfz : ∀ i, w1.frozen? ⟨w.heap.size, i, none⟩ = false := fun i => by rw [(hb1.frozen (p := ⟨w.heap.size, i, none⟩) (by simp))]; simp
    have hcs := @cell_set
    obtain ⟨b, o, rfl, hbw, hgat⟩ := ((hs.alloc (.cells #[.int .i64 0, .int .i64 0, .int .i64 0, .slice none 0 0] 24)).below hb1).ac hk
    clear hb1 Bz hidx hs
    generalize l[k] = g at *
    obtain ⟨g0, g1, g2, g3⟩ := hgat
    go_wp2_with fail
    refine bodyPost_ret (v := .tuple #[g.val, .bool true]) ?_ rfl ⟨?_, ?_⟩
    · simp [results, Try.results92, go_sem, q0, q1, q2, q3, hfz, Ac.val]
    · rw [pickL, HF1.out]; rfl
    · repeat' (first | with_reducible exact hB1 | with_reducible refine Below.setCell ?_ ?_ _ | with_reducible refine Below.alloc ?_ ?_ _)
      all_goals first | (simp; done) | (simp; omega)

theorem take_map_snoc {α β : Type} (f : α → β) (l : List α) (k : Nat) (h : k < l.length) : (l.map f).take (k + 1) = (l.map f).take k ++ [f l[k]] := by
  rw [take_snoc (l.map f) k (by simpa using h), List.getElem_map]
set_option maxHeartbeats 8000000 in
set_option maxRecDepth 100000 in
theorem rsetT_any (A : Option Addr) (cap : Nat) (l : List Ac) (cs : List Cn) (c : Cn) (A2 : Option Addr) (cap2 : Nat) (w : World) (hl : l.length ≤ 900000) (hc2 : c.L.length ≤ 900000) (hs : Sl w A (rc Ac.cells l)) (ht : Tab w l cs) (hx : Sl w A2 (rc Nt.cells c.L)) :
    Calls Try.prog 31 #[.slice A l.length cap, .agg #[.int .i64 c.id, .int .i64 c.mem, .int .i64 c.kind, .slice A2 c.L.length cap2]] w fun e w' => TRes w' e (setCR cs c) ∧ Below w.heap.size w w' := by
  have hB0 := since_alloc (Below.refl _ w) (.cells #[.int .i64 c.id, .int .i64 c.mem, .int .i64 c.kind, .slice A2 c.L.length cap2] 24)
  have hV0 := Aq.new w ⟨c.id, c.mem, c.kind, A2, c.L.length, cap2⟩
  have hs0 := hs.alloc (.cells #[.int .i64 c.id, .int .i64 c.mem, .int .i64 c.kind, .slice A2 c.L.length cap2] 24)
  have hx0 := hx.alloc (.cells #[.int .i64 c.id, .int .i64 c.mem, .int .i64 c.kind, .slice A2 c.L.length cap2] 24)
  have hh := ht.has c.id
  have HIS := Lib.hid (fun V h => ris_any c.id c.mem c.kind A2 cap2 c.L V (by omega) h)
  have HFD := Lib.hid (fun V h => rfindq_any A cap l c.id V (by omega) h)
  unfold Ac.cells at hV0
  simp only at hV0
  by_cases hok : okC c.id c.mem c.kind c.L
  rotate_left
  · have HE : Hid (isE c.id c.mem c.kind c.L = false) := Lib.hid (is_bad hok)
    have HR : Hid (setCR cs c = (2, [])) := Lib.hid (by rw [setCR, if_pos hok])
    clear hok hh
    go_enter Try.func31, Try.ntmps31
    go_wp2_with fail
    refine (HIS.out _ hx0).mono ?_
    rw [HE.out]
    rintro e w1 ⟨rfl, hb⟩
    have hB1 := since_step hB0 hb
    go_wp2_with fail
    go_ret2
    rw [HR.out]
    exact ⟨TRes.nil _ _, hB1⟩
  have HI : Hid (isE c.id c.mem c.kind c.L = true) := Lib.hid (is_ok hok)
  obtain ⟨fm, hfm⟩ : ∃ fm, findQ l c.id = fm := ⟨_, rfl⟩
  obtain ⟨hq, hhq⟩ : ∃ q, hasQ l c.id = q := ⟨_, rfl⟩
  rw [hfm, hhq] at HFD
  rw [hhq] at hh
  unfold Ac.val at HFD
  clear hfm hhq
  obtain ⟨m, hm⟩ : ∃ m, l.map (fun y => if idQ c.id y = true then (⟨c.id, c.mem, c.kind, A2, c.L.length, cap2⟩ : Ac) else y) = m := ⟨_, rfl⟩
  have HSN : Hid (∀ k (hk : k < l.length), m.take (k + 1) = m.take k ++ [if idQ c.id l[k] = true then (⟨c.id, c.mem, c.kind, A2, c.L.length, cap2⟩ : Ac) else l[k]]) := Lib.hid fun k hk => by rw [← hm]; exact take_map_snoc _ l k hk
  have HML : Hid (m.length = l.length) := Lib.hid (by rw [← hm]; simp)
  have HTM : Hid (∀ V, Below w.heap.size w V → Tab V m (cs.map fun y => if (y.id == c.id) = true then c else y)) := Lib.hid fun V hV => by
    rw [← hm]
    exact Tab.map (g := ⟨c.id, c.mem, c.kind, A2, c.L.length, cap2⟩) (c := c) ⟨rfl, rfl, rfl, rfl, hx.below hV⟩ (ht.below hV)
  clear hm
  cases hq with
  | false =>
    have HR : Hid (setCR cs c = (11, [])) := Lib.hid (by rw [setCR, if_neg (fun h => h hok), if_neg (by rw [hh]; decide)])
    clear hok hh
    obtain ⟨q0, q1, q2, q3⟩ := hV0.got
    simp only at q0 q1 q2 q3
    go_enter Try.func31, Try.ntmps31
    go_upto_region 1 with fail
    generalize hWW : w.alloc (.cells #[.int .i64 c.id, .int .i64 c.mem, .int .i64 c.kind, .slice A2 c.L.length cap2] 24) = w0 at *
    clear hWW
    go_wp2_with fail
    refine (HIS.out _ hx0).mono ?_
    rw [HI.out]
    rintro e w1 ⟨rfl, hb⟩
    have hB1 := since_step hB0 hb
    have hV1 := hV0.below hb
    have hs1 := hs0.below hb
    clear q0 q1 q2 q3
    obtain ⟨q0, q1, q2, q3⟩ := hV1.got
    simp only at q0 q1 q2 q3
    have lq := hV1.lt
    go_wp2_with fail
    refine (HFD.out _ hs1).mono ?_
    rintro e w2 ⟨rfl, hb2⟩
    have hB2 := since_alloc (since_step hB1 hb2) (.cells #[.int .i64 fm.id, .int .i64 fm.mem, .int .i64 fm.kind, .slice fm.cl fm.clL fm.clC] 24)
    go_wp2_with fail
    go_ret2
    rw [HR.out]
    exact ⟨TRes.nil _ _, hB2⟩
  | true =>
    have HR : Hid (setCR cs c = (0, cs.map fun y => if (y.id == c.id) = true then c else y)) := Lib.hid (by rw [setCR, if_neg (fun h => h hok), if_pos hh])
    clear hok hh
    obtain ⟨q0, q1, q2, q3⟩ := hV0.got
    simp only at q0 q1 q2 q3
    go_enter Try.func31, Try.ntmps31
    go_upto_region 1 with fail
    generalize hWW : w.alloc (.cells #[.int .i64 c.id, .int .i64 c.mem, .int .i64 c.kind, .slice A2 c.L.length cap2] 24) = w0 at *
    clear hWW
    go_wp2_with fail
    refine (HIS.out _ hx0).mono ?_
    rw [HI.out]
    rintro e w1 ⟨rfl, hb⟩
    have hB1 := since_step hB0 hb
    have hV1 := hV0.below hb
    have hs1 := hs0.below hb
    clear q0 q1 q2 q3
    obtain ⟨q0, q1, q2, q3⟩ := hV1.got
    simp only at q0 q1 q2 q3
    have lq := hV1.lt
    go_wp2_with fail
    refine (HFD.out _ hs1).mono ?_
    rintro e w2 ⟨rfl, hb2⟩
    have hA2 := (Below.refl w2.heap.size w2).alloc (Nat.le_refl _) (.cells #[.int .i64 fm.id, .int .i64 fm.mem, .int .i64 fm.kind, .slice fm.cl fm.clL fm.clC] 24)
    have hB2 := since_step (since_step hB1 hb2) hA2
    have hV2 := (hV1.below hb2).below hA2
    have hs2 := (hs1.below hb2).below hA2
    clear q0 q1 q2 q3 lq hb hb2 hA2 hV1 hs1 hV0 hs0 hx0
    go_upto_region 6 with fail
    generalize hWW : w2.alloc (.cells #[.int .i64 fm.id, .int .i64 fm.mem, .int .i64 fm.kind, .slice fm.cl fm.clL fm.clC] 24) = W at *
    clear hWW hs ht hx
    go_wp2_with fail
    go_loopw [8, 9] (fun out i wr => ∃ (k : Nat) (A' : Option Addr) (c' : Nat), k ≤ l.length ∧ i = .int .i64 k ∧ out = .slice A' k c' ∧ wr.ownsRow W.heap.size 24 4 (.slice A' k c') k (rc Ac.cells (m.take k)) ∧ Below W.heap.size W wr) (fun _ i _ => l.length - (intOf i).toNat)
    case atStart => exact ⟨0, none, 0, by omega, rfl, rfl, own_nil _ _ _, Below.refl _ _⟩
    case round =>
      obtain ⟨k, A', c', hk, rfl, rfl, hown, hB⟩ := hrel
      have hBw := hB2.trans (hB.mono hB2.size)
      by_cases hlt : k < l.length
      · obtain ⟨b, o, rfl, hbw, hg⟩ := (hs2.below hB).ac hlt
        have HV : Hid (∀ V, Below wr.heap.size wr V → Aq V w.heap.size ⟨c.id, c.mem, c.kind, A2, c.L.length, cap2⟩) := Lib.hid fun V hV => (hV2.below hB).below hV
        have HG : Hid (∀ V, Below wr.heap.size wr V → l[k].at V b (o + k * 4)) := Lib.hid fun V hV => Ac.at_keep (w := wr) hg fun i => hV.cell (p := ⟨b, i, none⟩) hbw
        have hlk : (k : Int) < (l.length : Int) := by omega
        have hge : (0 : Int) ≤ (k : Int) := by omega
        have hS := HSN.out k hlt
        obtain ⟨v, hv⟩ : ∃ v, l[k] = v := ⟨_, rfl⟩
        rw [hv] at hS HG
        clear hv hg hV2 hs2 hbw HTM HSN
        obtain ⟨vid, vm, vk, vc, vcL, vcC⟩ := v
        unfold Ac.at at HG
        try simp only at HG
        by_cases he : vid = c.id
        · subst he
          have HE : Hid (m.take (k + 1) = m.take k ++ [⟨c.id, c.mem, c.kind, A2, c.L.length, cap2⟩]) := Lib.hid (by rw [hS, if_pos (by simp [idQ])])
          clear hS
          generalize m.take k = q at *
          go_wp2_with fail
          refine wp_region_held_drew (S := (fun V => Below wr.heap.size wr V)) (by kernel_rfl) (by exact (Below.refl _ _).drew) (fun hHeld => ?_)
          refine wpAnyH_take (i := 0) (oi := { dst := some 28, op := _, type := _, pos := _, after := _, guard := _ }) (v := ?_) rfl (by kernel_rfl) (by kernel_rfl) (by kernel_rfl) (fun _ _ _ h => h) (Or.inl ⟨by rfl, ?_⟩) hHeld ?_
          rotate_left
          · (intro w hSw; obtain ⟨q0, q1, q2, q3⟩ := (HV.out _ hSw).got; simp only at q0 q1 q2 q3; obtain ⟨g0, g1, g2, g3⟩ := HG.out _ hSw; go_simp <;> with_reducible rfl)
          try simp only [Act.put, List.setIfInBounds_toArray, List.set_cons_zero, List.set_cons_succ]
          refine wpAnyH_take (i := 1) (oi := { dst := some 29, op := _, type := _, pos := _, after := _, guard := _ }) (v := ?_) rfl (by kernel_rfl) (by kernel_rfl) (by kernel_rfl) (fun _ _ _ h => h) (Or.inl ⟨by rfl, ?_⟩) hHeld ?_
          rotate_left
          · (intro w hSw; obtain ⟨q0, q1, q2, q3⟩ := (HV.out _ hSw).got; simp only at q0 q1 q2 q3; obtain ⟨g0, g1, g2, g3⟩ := HG.out _ hSw; go_simp <;> with_reducible rfl)
          try simp only [Act.put, List.setIfInBounds_toArray, List.set_cons_zero, List.set_cons_succ]
          refine wpAnyH_take (i := 2) (oi := { dst := some 30, op := _, type := _, pos := _, after := _, guard := _ }) (v := ?_) rfl (by kernel_rfl) (by kernel_rfl) (by kernel_rfl) (fun _ _ _ h => h) (Or.inl ⟨by rfl, ?_⟩) hHeld ?_
          rotate_left
          · (intro w hSw; obtain ⟨q0, q1, q2, q3⟩ := (HV.out _ hSw).got; simp only at q0 q1 q2 q3; obtain ⟨g0, g1, g2, g3⟩ := HG.out _ hSw; go_simp <;> with_reducible rfl)
          try simp only [Act.put, List.setIfInBounds_toArray, List.set_cons_zero, List.set_cons_succ]
          refine wpAnyH_take (i := 3) (oi := { dst := some 31, op := _, type := _, pos := _, after := _, guard := _ }) (v := ?_) rfl (by kernel_rfl) (by kernel_rfl) (by kernel_rfl) (fun _ _ _ h => h) (Or.inl ⟨by rfl, ?_⟩) hHeld ?_
          rotate_left
          · (intro w hSw; obtain ⟨q0, q1, q2, q3⟩ := (HV.out _ hSw).got; simp only at q0 q1 q2 q3; obtain ⟨g0, g1, g2, g3⟩ := HG.out _ hSw; go_simp <;> with_reducible rfl)
          try simp only [Act.put, List.setIfInBounds_toArray, List.set_cons_zero, List.set_cons_succ]
          refine wpAnyH_take (i := 4) (oi := { dst := some 32, op := _, type := _, pos := _, after := _, guard := _ }) (v := ?_) rfl (by kernel_rfl) (by kernel_rfl) (by kernel_rfl) (fun _ _ _ h => h) (Or.inl ⟨by rfl, ?_⟩) hHeld ?_
          rotate_left
          · (intro w hSw; obtain ⟨q0, q1, q2, q3⟩ := (HV.out _ hSw).got; simp only at q0 q1 q2 q3; obtain ⟨g0, g1, g2, g3⟩ := HG.out _ hSw; go_simp <;> with_reducible rfl)
          try simp only [Act.put, List.setIfInBounds_toArray, List.set_cons_zero, List.set_cons_succ]
          refine wpAnyH_take (i := 5) (oi := { dst := some 33, op := _, type := _, pos := _, after := _, guard := _ }) (v := ?_) rfl (by kernel_rfl) (by kernel_rfl) (by kernel_rfl) (fun _ _ _ h => h) (Or.inl ⟨by rfl, ?_⟩) hHeld ?_
          rotate_left
          · (intro w hSw; obtain ⟨q0, q1, q2, q3⟩ := (HV.out _ hSw).got; simp only at q0 q1 q2 q3; obtain ⟨g0, g1, g2, g3⟩ := HG.out _ hSw; go_simp <;> with_reducible rfl)
          try simp only [Act.put, List.setIfInBounds_toArray, List.set_cons_zero, List.set_cons_succ]
          refine wpAnyH_take (i := 6) (oi := { dst := some 34, op := _, type := _, pos := _, after := _, guard := _ }) (v := ?_) rfl (by kernel_rfl) (by kernel_rfl) (by kernel_rfl) (fun _ _ _ h => h) (Or.inl ⟨by rfl, ?_⟩) hHeld ?_
          rotate_left
          · (intro w hSw; obtain ⟨q0, q1, q2, q3⟩ := (HV.out _ hSw).got; simp only at q0 q1 q2 q3; obtain ⟨g0, g1, g2, g3⟩ := HG.out _ hSw; go_simp <;> with_reducible rfl)
          try simp only [Act.put, List.setIfInBounds_toArray, List.set_cons_zero, List.set_cons_succ]
          refine wpAnyH_take (i := 7) (oi := { dst := some 35, op := _, type := _, pos := _, after := _, guard := _ }) (v := ?_) rfl (by kernel_rfl) (by kernel_rfl) (by kernel_rfl) (fun _ _ _ h => h) (Or.inl ⟨by rfl, ?_⟩) hHeld ?_
          rotate_left
          · (intro w hSw; obtain ⟨q0, q1, q2, q3⟩ := (HV.out _ hSw).got; simp only at q0 q1 q2 q3; obtain ⟨g0, g1, g2, g3⟩ := HG.out _ hSw; go_simp <;> with_reducible rfl)
          try simp only [Act.put, List.setIfInBounds_toArray, List.set_cons_zero, List.set_cons_succ]
          refine wpAnyH_done (by kernel_rfl) ?_ _
          generalize wr.drew = VV at *
          have hB3 := hB.trans (hHeld.mono hB.size)
          have hown := own_below hown hHeld
          have hsz := hB3.size
          obtain ⟨q0, q1, q2, q3⟩ := (HV.out _ hHeld).got
          simp only at q0 q1 q2 q3
          obtain ⟨g0, g1, g2, g3⟩ := HG.out _ hHeld
          go_wp2_with (first
            | (at_builtin; refine wpList_app rfl (.tmp 36) (.tmp 38) rfl EAc rfl rfl (hown.alloc _) (m := 1) (news := (⟨c.id, c.mem, c.kind, A2, c.L.length, cap2⟩ : Ac).cells) rfl (Sl.new_ _ _ _) (Ac.one _) (by unfold maxLen; omega) (by omega) (by simp only [World.size_alloc]; omega) ?_; intro A3 c3 w3 hown3 hg3 hb3)
            | fail)
          go_roundw
          case rel =>
            refine ⟨k + 1, A3, c3, by omega, by go_num, rfl, ?_, (hB3.alloc hsz _).trans hb3⟩
            rw [HE.out, rc_append]; simpa [rc] using hown3
          case measure => simp [intOf]; omega
        · have HE : Hid (m.take (k + 1) = m.take k ++ [⟨vid, vm, vk, vc, vcL, vcC⟩]) := Lib.hid (by rw [hS, if_neg (by simp [idQ, he])])
          have heb : (vid == c.id) = false := by simpa using he
          clear hS he
          generalize m.take k = q at *
          go_wp2_with fail
          refine wp_region_held_drew (S := (fun V => Below wr.heap.size wr V)) (by kernel_rfl) (by exact (Below.refl _ _).drew) (fun hHeld => ?_)
          refine wpAnyH_take (i := 0) (oi := { dst := some 28, op := _, type := _, pos := _, after := _, guard := _ }) (v := ?_) rfl (by kernel_rfl) (by kernel_rfl) (by kernel_rfl) (fun _ _ _ h => h) (Or.inl ⟨by rfl, ?_⟩) hHeld ?_
          rotate_left
          · (intro w hSw; obtain ⟨q0, q1, q2, q3⟩ := (HV.out _ hSw).got; simp only at q0 q1 q2 q3; obtain ⟨g0, g1, g2, g3⟩ := HG.out _ hSw; go_simp <;> with_reducible rfl)
          try simp only [Act.put, List.setIfInBounds_toArray, List.set_cons_zero, List.set_cons_succ]
          refine wpAnyH_take (i := 1) (oi := { dst := some 29, op := _, type := _, pos := _, after := _, guard := _ }) (v := ?_) rfl (by kernel_rfl) (by kernel_rfl) (by kernel_rfl) (fun _ _ _ h => h) (Or.inl ⟨by rfl, ?_⟩) hHeld ?_
          rotate_left
          · (intro w hSw; obtain ⟨q0, q1, q2, q3⟩ := (HV.out _ hSw).got; simp only at q0 q1 q2 q3; obtain ⟨g0, g1, g2, g3⟩ := HG.out _ hSw; go_simp <;> with_reducible rfl)
          try simp only [Act.put, List.setIfInBounds_toArray, List.set_cons_zero, List.set_cons_succ]
          refine wpAnyH_take (i := 2) (oi := { dst := some 30, op := _, type := _, pos := _, after := _, guard := _ }) (v := ?_) rfl (by kernel_rfl) (by kernel_rfl) (by kernel_rfl) (fun _ _ _ h => h) (Or.inl ⟨by rfl, ?_⟩) hHeld ?_
          rotate_left
          · (intro w hSw; obtain ⟨q0, q1, q2, q3⟩ := (HV.out _ hSw).got; simp only at q0 q1 q2 q3; obtain ⟨g0, g1, g2, g3⟩ := HG.out _ hSw; go_simp <;> with_reducible rfl)
          try simp only [Act.put, List.setIfInBounds_toArray, List.set_cons_zero, List.set_cons_succ]
          refine wpAnyH_take (i := 3) (oi := { dst := some 31, op := _, type := _, pos := _, after := _, guard := _ }) (v := ?_) rfl (by kernel_rfl) (by kernel_rfl) (by kernel_rfl) (fun _ _ _ h => h) (Or.inl ⟨by rfl, ?_⟩) hHeld ?_
          rotate_left
          · (intro w hSw; obtain ⟨q0, q1, q2, q3⟩ := (HV.out _ hSw).got; simp only at q0 q1 q2 q3; obtain ⟨g0, g1, g2, g3⟩ := HG.out _ hSw; go_simp <;> with_reducible rfl)
          try simp only [Act.put, List.setIfInBounds_toArray, List.set_cons_zero, List.set_cons_succ]
          refine wpAnyH_take (i := 4) (oi := { dst := some 32, op := _, type := _, pos := _, after := _, guard := _ }) (v := ?_) rfl (by kernel_rfl) (by kernel_rfl) (by kernel_rfl) (fun _ _ _ h => h) (Or.inl ⟨by rfl, ?_⟩) hHeld ?_
          rotate_left
          · (intro w hSw; obtain ⟨q0, q1, q2, q3⟩ := (HV.out _ hSw).got; simp only at q0 q1 q2 q3; obtain ⟨g0, g1, g2, g3⟩ := HG.out _ hSw; go_simp <;> with_reducible rfl)
          try simp only [Act.put, List.setIfInBounds_toArray, List.set_cons_zero, List.set_cons_succ]
          refine wpAnyH_take (i := 5) (oi := { dst := some 33, op := _, type := _, pos := _, after := _, guard := _ }) (v := ?_) rfl (by kernel_rfl) (by kernel_rfl) (by kernel_rfl) (fun _ _ _ h => h) (Or.inl ⟨by rfl, ?_⟩) hHeld ?_
          rotate_left
          · (intro w hSw; obtain ⟨q0, q1, q2, q3⟩ := (HV.out _ hSw).got; simp only at q0 q1 q2 q3; obtain ⟨g0, g1, g2, g3⟩ := HG.out _ hSw; go_simp <;> with_reducible rfl)
          try simp only [Act.put, List.setIfInBounds_toArray, List.set_cons_zero, List.set_cons_succ]
          refine wpAnyH_take (i := 6) (oi := { dst := some 34, op := _, type := _, pos := _, after := _, guard := _ }) (v := ?_) rfl (by kernel_rfl) (by kernel_rfl) (by kernel_rfl) (fun _ _ _ h => h) (Or.inl ⟨by rfl, ?_⟩) hHeld ?_
          rotate_left
          · (intro w hSw; obtain ⟨q0, q1, q2, q3⟩ := (HV.out _ hSw).got; simp only at q0 q1 q2 q3; obtain ⟨g0, g1, g2, g3⟩ := HG.out _ hSw; go_simp <;> with_reducible rfl)
          try simp only [Act.put, List.setIfInBounds_toArray, List.set_cons_zero, List.set_cons_succ]
          refine wpAnyH_take (i := 7) (oi := { dst := some 35, op := _, type := _, pos := _, after := _, guard := _ }) (v := ?_) rfl (by kernel_rfl) (by kernel_rfl) (by kernel_rfl) (fun _ _ _ h => h) (Or.inl ⟨by rfl, ?_⟩) hHeld ?_
          rotate_left
          · (intro w hSw; obtain ⟨q0, q1, q2, q3⟩ := (HV.out _ hSw).got; simp only at q0 q1 q2 q3; obtain ⟨g0, g1, g2, g3⟩ := HG.out _ hSw; go_simp <;> with_reducible rfl)
          try simp only [Act.put, List.setIfInBounds_toArray, List.set_cons_zero, List.set_cons_succ]
          refine wpAnyH_done (by kernel_rfl) ?_ _
          generalize wr.drew = VV at *
          have hB3 := hB.trans (hHeld.mono hB.size)
          have hown := own_below hown hHeld
          have hsz := hB3.size
          obtain ⟨q0, q1, q2, q3⟩ := (HV.out _ hHeld).got
          simp only at q0 q1 q2 q3
          obtain ⟨g0, g1, g2, g3⟩ := HG.out _ hHeld
          go_wp2_with (first
            | (at_builtin; refine wpList_app rfl (.tmp 40) (.tmp 45) rfl EAc rfl rfl (hown.alloc _) (m := 1) (news := (⟨vid, vm, vk, vc, vcL, vcC⟩ : Ac).cells) rfl (Sl.new_ _ _ _) (Ac.one _) (by unfold maxLen; omega) (by omega) (by simp only [World.size_alloc]; omega) ?_; intro A3 c3 w3 hown3 hg3 hb3)
            | fail)
          go_roundw
          case rel =>
            refine ⟨k + 1, A3, c3, by omega, by go_num, rfl, ?_, (hB3.alloc hsz _).trans hb3⟩
            rw [HE.out, rc_append]; simpa [rc] using hown3
          case measure => simp [intOf]; omega
      · have hkl : k = m.length := by rw [HML.out]; omega
        subst hkl
        rw [List.take_length] at hown
        have hge : ¬ ((m.length : Int) < (l.length : Int)) := by rw [HML.out]; omega
        have hT := HTM.out _ hBw
        clear hV2 hs2 HTM HSN
        go_wp2_with fail
        go_ret2
        rw [HR.out]
        exact ⟨⟨m, A', c', rfl, Sl.of_own hown, hT⟩, hBw⟩

def SRes (w' : World) (e : Ending) (cs : List Cn) : Prop := ∃ (l : List Ac) (A' : Option Addr) (c' : Nat), e = .returned (.slice A' l.length c') ∧ Sl w' A' (rc Ac.cells l) ∧ Tab w' l cs
def ofC15 (cs : List Cn) (m : Int) : List Cn := cs.filter fun c => c.mem == m
theorem ofC15_snoc (cs : List Cn) (m : Int) (k : Nat) (h : k < cs.length) : ofC15 (cs.take (k + 1)) m = ofC15 (cs.take k) m ++ (if (cs[k].mem == m) = true then [cs[k]] else []) := by
  unfold ofC15
  rw [take_snoc cs k h, List.filter_append]
  congr 1
  by_cases he : (cs[k].mem == m) = true <;> simp [List.filter_cons, he]

set_option maxHeartbeats 8000000 in
set_option maxRecDepth 100000 in
theorem aof_any (A : Option Addr) (cap : Nat) (l : List Ac) (cs : List Cn) (mb : Int) (w : World) (hl : l.length ≤ 900000) (hcl : ∀ c ∈ cs, c.L.length ≤ 900000) (hs : Sl w A (rc Ac.cells l)) (ht : Tab w l cs) :
    Calls Try.prog 35 #[.slice A l.length cap, .int .i64 mb] w fun e w' => SRes w' e (ofC15 cs mb) ∧ Below w.heap.size w w' := by
  have HLC := Lib.hid ht.1
  go_enter Try.func35, Try.ntmps35
  go_wp2_with fail
  go_loopw [5, 10] (fun out i wr => ∃ (k : Nat) (m : List Ac) (A' : Option Addr) (c' : Nat), k ≤ cs.length ∧ i = .int .i64 k ∧ m.length ≤ k ∧ out = .slice A' m.length c' ∧ wr.ownsRow w.heap.size 24 4 (.slice A' m.length c') m.length (rc Ac.cells m) ∧ OTab w.heap.size wr m (ofC15 (cs.take k) mb) ∧ Below w.heap.size w wr) (fun _ i _ => l.length - (intOf i).toNat)
  case atStart => exact ⟨0, [], none, 0, by omega, rfl, by simp, rfl, own_nil _ _ _, ⟨rfl, fun i h => by simp at h⟩, Below.refl _ _⟩
  case round =>
    obtain ⟨k, m, A', c', hk, rfl, hmk, rfl, hown, hot, hB⟩ := hrel
    by_cases hlt : k < l.length
    · have hltc : k < cs.length := by have := HLC.out; omega
      obtain ⟨b, o, rfl, hbw, hg⟩ := (hs.below hB).ac hlt
      have hi := ht.2 k hlt hltc
      have hcl2 := hcl _ (List.getElem_mem hltc)
      have HT := ofC15_snoc cs mb k hltc
      have hlk : (k : Int) < (l.length : Int) := by omega
      have hge0 : (0 : Int) ≤ (k : Int) := by omega
      have hsz := hB.size
      obtain ⟨c, hc⟩ : ∃ c, (cs[k]'hltc) = c := ⟨_, rfl⟩
      rw [hc] at hi HT hcl2
      have hge := hi.eq
      rw [hge] at hg
      clear hge hc hs ht hcl
      obtain ⟨g0, g1, g2, g3⟩ := hg
      simp only at g0 g1 g2 g3
      have hsl0 := hi.sl
      have hsl := hi.sl.below hB
      clear hi
      generalize l[k].cl = cl at *
      generalize l[k].clC = cc at *
      have hm9 : m.length ≤ 900000 := by omega
      by_cases he : (c.mem == mb) = true
      · rw [if_pos he] at HT
        have HT := Lib.hid HT
        obtain rfl : c.mem = mb := by simpa using he
        clear he
        have hA := since_alloc hB (.cells #[.int .i64 c.id, .int .i64 c.mem, .int .i64 c.kind, .slice cl c.L.length cc] 24)
        have HD := Lib.hid (dupA_any c.id c.mem c.kind cl cc c.L _ hcl2 (hsl.alloc (.cells #[.int .i64 c.id, .int .i64 c.mem, .int .i64 c.kind, .slice cl c.L.length cc] 24)))
        have hown1 := hown.alloc (.cells #[.int .i64 c.id, .int .i64 c.mem, .int .i64 c.kind, .slice cl c.L.length cc] 24)
        have hot1 := hot.below ((Below.refl wr.heap.size wr).alloc (Nat.le_refl _) (.cells #[.int .i64 c.id, .int .i64 c.mem, .int .i64 c.kind, .slice cl c.L.length cc] 24))
        clear hown hot hsl
        go_wp2_with fail
        refine HD.out.mono ?_
        rintro e w1 ⟨⟨A1, c1, rfl, ownL⟩, hb1⟩
        have hB1 := since_step hA hb1
        have hown2 := own_below hown1 hb1
        have hot2 := hot1.below hb1
        have hsz1 := hB1.size
        have ownL := own_base ownL hA.size
        clear hown1 hot1 hb1
        go_wp2_with (first
          | (at_builtin; refine wpList_app rfl (.tmp 18) (.tmp 21) rfl EAc rfl rfl (hown2.alloc _) (m := 1) (news := (⟨c.id, c.mem, c.kind, A1, c.L.length, c1⟩ : Ac).cells) rfl (Sl.new_ _ _ _) (Ac.one _) (by unfold maxLen; omega) (by omega) (by simp only [World.size_alloc]; omega) ?_; intro A2 c2 w3 hown3 hg3 hb3)
          | fail)
        have hot3 := ((hot2.app (g := ⟨c.id, c.mem, c.kind, A1, c.L.length, c1⟩) (c := c) ⟨rfl, rfl, rfl, rfl, ownL⟩).below ((Below.refl w1.heap.size w1).alloc (Nat.le_refl _) (.cells (⟨c.id, c.mem, c.kind, A1, c.L.length, c1⟩ : Ac).cells.toArray 24))).kept (hown2.alloc _) hg3
        go_roundw
        case rel =>
          refine ⟨k + 1, m ++ [⟨c.id, c.mem, c.kind, A1, c.L.length, c1⟩], A2, c2, by omega, by go_num, by simp; omega, by simp, ?_, ?_, (hB1.alloc hsz1 _).trans hb3⟩
          · rw [rc_append]; simpa [rc] using hown3
          · rw [HT.out]; exact hot3
        case measure => simp [intOf]; omega
      · rw [if_neg he, List.append_nil] at HT
        have HT := Lib.hid HT
        have he' : (c.mem == mb) = false := by simpa using he
        clear he
        have hA := since_alloc hB (.cells #[.int .i64 c.id, .int .i64 c.mem, .int .i64 c.kind, .slice cl c.L.length cc] 24)
        have hown1 := hown.alloc (.cells #[.int .i64 c.id, .int .i64 c.mem, .int .i64 c.kind, .slice cl c.L.length cc] 24)
        have hot1 := hot.below ((Below.refl wr.heap.size wr).alloc (Nat.le_refl _) (.cells #[.int .i64 c.id, .int .i64 c.mem, .int .i64 c.kind, .slice cl c.L.length cc] 24))
        go_wp2_with fail
        go_roundw
        case rel => exact ⟨k + 1, m, A', c', by omega, by go_num, by omega, rfl, hown1, by rw [HT.out]; exact hot1, hA⟩
        case measure => simp [intOf]; omega
    · have hkl : k = cs.length := by have := HLC.out; omega
      subst hkl
      rw [List.take_length] at hot
      have hge : ¬ ((cs.length : Int) < (l.length : Int)) := by have := HLC.out; omega
      clear hs ht hcl
      go_wp2_with fail
      go_ret
      exact ⟨⟨m, A', c', rfl, Sl.of_own hown, hot.tab⟩, hB⟩

set_option maxHeartbeats 8000000 in
set_option maxRecDepth 100000 in
theorem rof_any (A : Option Addr) (cap : Nat) (l : List Ac) (cs : List Cn) (mb : Int) (w : World) (hl : l.length ≤ 900000) (hcl : ∀ c ∈ cs, c.L.length ≤ 900000) (hs : Sl w A (rc Ac.cells l)) (ht : Tab w l cs) :
    Calls Try.prog 36 #[.slice A l.length cap, .int .i64 mb] w fun e w' => SRes w' e (ofC15 cs mb) ∧ Below w.heap.size w w' := by
  have HLC := Lib.hid ht.1
  go_enter Try.func36, Try.ntmps36
  go_wp2_with fail
  go_loopw [5, 6] (fun out i wr => ∃ (k : Nat) (m : List Ac) (A' : Option Addr) (c' : Nat), k ≤ cs.length ∧ i = .int .i64 k ∧ m.length ≤ k ∧ out = .slice A' m.length c' ∧ wr.ownsRow w.heap.size 24 4 (.slice A' m.length c') m.length (rc Ac.cells m) ∧ Tab w m (ofC15 (cs.take k) mb) ∧ Below w.heap.size w wr) (fun _ i _ => l.length - (intOf i).toNat)
  case atStart => exact ⟨0, [], none, 0, by omega, rfl, by simp, rfl, own_nil _ _ _, Tab.nil w, Below.refl _ _⟩
  case round =>
    obtain ⟨k, m, A', c', hk, rfl, hmk, rfl, hown, hot, hB⟩ := hrel
    by_cases hlt : k < l.length
    · have hltc : k < cs.length := by have := HLC.out; omega
      obtain ⟨b, o, rfl, hbw, hg⟩ := (hs.below hB).ac hlt
      have hi := ht.2 k hlt hltc
      have hcl2 := hcl _ (List.getElem_mem hltc)
      have HT := ofC15_snoc cs mb k hltc
      have hlk : (k : Int) < (l.length : Int) := by omega
      have hge0 : (0 : Int) ≤ (k : Int) := by omega
      have hsz := hB.size
      obtain ⟨c, hc⟩ : ∃ c, (cs[k]'hltc) = c := ⟨_, rfl⟩
      rw [hc] at hi HT hcl2
      have hge := hi.eq
      rw [hge] at hg
      clear hge hc hs ht hcl
      obtain ⟨g0, g1, g2, g3⟩ := hg
      simp only at g0 g1 g2 g3
      have hsl0 := hi.sl
      have hsl := hi.sl.below hB
      clear hi
      generalize l[k].cl = cl at *
      generalize l[k].clC = cc at *
      have hm9 : m.length ≤ 900000 := by omega
      by_cases he : (c.mem == mb) = true
      · rw [if_pos he] at HT
        have HT := Lib.hid HT
        obtain rfl : c.mem = mb := by simpa using he
        clear he
        go_wp2_with (first
          | (at_builtin; refine wpList_app rfl (.tmp 20) (.tmp 25) rfl EAc rfl rfl (hown.alloc _) (m := 1) (news := (⟨c.id, c.mem, c.kind, cl, c.L.length, cc⟩ : Ac).cells) rfl (Sl.new_ _ _ _) (Ac.one _) (by unfold maxLen; omega) (by omega) (by simp only [World.size_alloc]; omega) ?_; intro A2 c2 w3 hown3 hg3 hb3)
          | fail)
        go_roundw
        case rel =>
          refine ⟨k + 1, m ++ [⟨c.id, c.mem, c.kind, cl, c.L.length, cc⟩], A2, c2, by omega, by go_num, by simp; omega, by simp, ?_, ?_, (hB.alloc hsz _).trans hb3⟩
          · rw [rc_append]; simpa [rc] using hown3
          · rw [HT.out]; exact hot.app ⟨rfl, rfl, rfl, rfl, hsl0⟩
        case measure => simp [intOf]; omega
      · rw [if_neg he, List.append_nil] at HT
        have HT := Lib.hid HT
        have he' : (c.mem == mb) = false := by simpa using he
        clear he
        go_wp2_with fail
        go_roundw
        case rel => exact ⟨k + 1, m, A', c', by omega, by go_num, by omega, rfl, hown, by rw [HT.out]; exact hot, hB⟩
        case measure => simp [intOf]; omega
    · have hkl : k = cs.length := by have := HLC.out; omega
      subst hkl
      rw [List.take_length] at hot
      have hge : ¬ ((cs.length : Int) < (l.length : Int)) := by have := HLC.out; omega
      clear hs ht hcl
      go_wp2_with fail
      go_ret
      exact ⟨⟨m, A', c', rfl, Sl.of_own hown, hot.below hB⟩, hB⟩

def ownC (cs : List Cn) (u : Un) : Int := ((cs.find? fun c => hasU c.id c.kind c.L u).map Cn.mem).getD 0
theorem ownC_some {cs : List Cn} {u : Un} {k : Nat} (hk : k < cs.length) (h : ∀ j, (hj : j < k) → hasU (cs[j]'(by omega)).id (cs[j]'(by omega)).kind (cs[j]'(by omega)).L u = false) (he : hasU cs[k].id cs[k].kind cs[k].L u = true) : ownC cs u = cs[k].mem := by
  unfold ownC
  rw [find_some (p := fun c : Cn => hasU c.id c.kind c.L u) hk h he]
  rfl
theorem ownC_none {cs : List Cn} {u : Un} (h : ∀ j, (hj : j < cs.length) → hasU cs[j].id cs[j].kind cs[j].L u = false) : ownC cs u = 0 := by
  unfold ownC
  rw [find_none (p := fun c : Cn => hasU c.id c.kind c.L u) h]
  rfl

set_option maxHeartbeats 8000000 in
set_option maxRecDepth 100000 in
theorem rowner_any (A : Option Addr) (cap : Nat) (l : List Ac) (cs : List Cn) (u : Un) (w : World) (hl : l.length ≤ 900000) (hcl : ∀ c ∈ cs, c.L.length ≤ 900000) (hs : Sl w A (rc Ac.cells l)) (ht : Tab w l cs) :
    Calls Try.prog 38 #[.slice A l.length cap, u.val] w fun e w' => e = .returned (.int .i64 (ownC cs u)) ∧ Below w.heap.size w w' := by
  have HLC := Lib.hid ht.1
  have hB0 := since_alloc (Below.refl _ w) (.cells u.cells.toArray 26)
  have hU0 := Un.Bx.new w u
  have hs0 := hs.alloc (.cells u.cells.toArray 26)
  have ht0 := ht.below ((Below.refl _ _).alloc (Nat.le_refl _) (.cells u.cells.toArray 26))
  unfold Un.val
  go_enter Try.func38, Try.ntmps38
  go_upto_region 1 with fail
  unfold Un.cells at hB0 hU0 hs0 ht0
  generalize hWW : w.alloc (.cells #[.int .i64 u.ac, .int .i64 u.cl] 26) = W at *
  clear hWW hs ht
  have hWs := hB0.size
  go_wp2_with fail
  go_loopw [5] (fun i wr => ∃ k : Nat, k ≤ l.length ∧ i = .int .i64 k ∧ (∀ j, (hj : j < cs.length) → j < k → hasU cs[j].id cs[j].kind cs[j].L u = false) ∧ Below W.heap.size W wr) (fun i _ => l.length - (intOf i).toNat)
  case atStart => exact ⟨0, by omega, rfl, fun j hj h => absurd h (by omega), Below.refl _ _⟩
  case round =>
    obtain ⟨k, hk, rfl, hno, hB⟩ := hrel
    have hBw := hB0.trans (hB.mono hWs)
    by_cases hlt : k < l.length
    · have hltc : k < cs.length := by have := HLC.out; omega
      obtain ⟨b, o, rfl, hbw, hg⟩ := (hs0.below hB).ac hlt
      have hi := (ht0.2 k hlt hltc).below hB
      have hcl2 := hcl _ (List.getElem_mem hltc)
      have HE0 : Hid (hasU (cs[k]'hltc).id (cs[k]'hltc).kind (cs[k]'hltc).L u = true → ownC cs u = (cs[k]'hltc).mem) := Lib.hid (fun h => ownC_some hltc (fun j hj => hno j (by omega) hj) h)
      have HN0 : Hid (hasU (cs[k]'hltc).id (cs[k]'hltc).kind (cs[k]'hltc).L u = false → ∀ j, (hj : j < cs.length) → j < k + 1 → hasU cs[j].id cs[j].kind cs[j].L u = false) := Lib.hid (fun h j hj hjk => by
        rcases Nat.lt_or_ge j k with h' | h'
        · exact hno j hj h'
        · obtain rfl : j = k := by omega
          exact h)
      have hlk : (k : Int) < (l.length : Int) := by omega
      have hge : (0 : Int) ≤ (k : Int) := by omega
      have HU : Hid (∀ V, Below wr.heap.size wr V → Un.Bx V w.heap.size u) := Lib.hid fun V hV => (hU0.below hB).below hV
      obtain ⟨c, hc⟩ : ∃ c, (cs[k]'hltc) = c := ⟨_, rfl⟩
      rw [hc] at hi hcl2 HE0 HN0
      have hge2 := hi.eq
      rw [hge2] at hg
      clear hge2 hc hs0 ht0 hcl hno hU0
      have hsl := hi.sl
      clear hi
      generalize l[k].cl = cl at *
      generalize l[k].clC = cc at *
      have HG : Hid (∀ V, Below wr.heap.size wr V → Ac.at ⟨c.id, c.mem, c.kind, cl, c.L.length, cc⟩ V b (o + k * 4)) := Lib.hid fun V hV => Ac.at_keep (w := wr) hg fun i => hV.cell (p := ⟨b, i, none⟩) hbw
      have HHS : Hid (∀ V, Below wr.heap.size wr V → Calls Try.prog 21 #[.agg #[.int .i64 c.id, .int .i64 c.mem, .int .i64 c.kind, .slice cl c.L.length cc], .agg #[.int .i64 u.ac, .int .i64 u.cl]] V fun e w' => e = .returned (.bool (hasU c.id c.kind c.L u)) ∧ Below V.heap.size V w') := Lib.hid fun V hV => rhas_any c.id c.mem c.kind cl cc c.L u V hcl2 (hsl.below hV)
      clear hg hbw hsl
      cases hq : hasU c.id c.kind c.L u with
      | true =>
        have HQ := Lib.hid hq
        have HE := Lib.hid (HE0.out hq)
        clear hq HE0 HN0
        go_wp2_with fail
        refine wp_region_held_drew (S := (fun V => Below wr.heap.size wr V)) (by kernel_rfl) (by exact (Below.refl _ _).drew) (fun hHeld => ?_)
        refine wpAnyH_take (i := 0) (oi := { dst := some 12, op := _, type := _, pos := _, after := _, guard := _ }) (v := ?_) rfl (by kernel_rfl) (by kernel_rfl) (by kernel_rfl) (fun _ _ _ h => h) (Or.inl ⟨by rfl, ?_⟩) hHeld ?_
        rotate_left
        · (intro w hSw; obtain ⟨g0, g1, g2, g3⟩ := HG.out _ hSw; simp only at g0 g1 g2 g3; obtain ⟨u0, u1⟩ := (HU.out _ hSw).got; go_simp <;> with_reducible rfl)
        try simp only [Act.put, List.setIfInBounds_toArray, List.set_cons_zero, List.set_cons_succ]
        refine wpAnyH_take (i := 1) (oi := { dst := some 13, op := _, type := _, pos := _, after := _, guard := _ }) (v := ?_) rfl (by kernel_rfl) (by kernel_rfl) (by kernel_rfl) (fun _ _ _ h => h) (Or.inl ⟨by rfl, ?_⟩) hHeld ?_
        rotate_left
        · (intro w hSw; obtain ⟨g0, g1, g2, g3⟩ := HG.out _ hSw; simp only at g0 g1 g2 g3; obtain ⟨u0, u1⟩ := (HU.out _ hSw).got; go_simp <;> with_reducible rfl)
        try simp only [Act.put, List.setIfInBounds_toArray, List.set_cons_zero, List.set_cons_succ]
        refine wpAnyH_take (i := 2) (oi := { dst := some 14, op := _, type := _, pos := _, after := _, guard := _ }) (v := ?_) rfl (by kernel_rfl) (by kernel_rfl) (by kernel_rfl) (fun _ _ _ h => h) (Or.inl ⟨by rfl, ?_⟩) hHeld ?_
        rotate_left
        · (intro w hSw; obtain ⟨g0, g1, g2, g3⟩ := HG.out _ hSw; simp only at g0 g1 g2 g3; obtain ⟨u0, u1⟩ := (HU.out _ hSw).got; go_simp <;> with_reducible rfl)
        try simp only [Act.put, List.setIfInBounds_toArray, List.set_cons_zero, List.set_cons_succ]
        refine wpAnyH_take (i := 3) (oi := { dst := some 15, op := _, type := _, pos := _, after := _, guard := _ }) (v := ?_) rfl (by kernel_rfl) (by kernel_rfl) (by kernel_rfl) (fun _ _ _ h => h) (Or.inl ⟨by rfl, ?_⟩) hHeld ?_
        rotate_left
        · (intro w hSw; obtain ⟨g0, g1, g2, g3⟩ := HG.out _ hSw; simp only at g0 g1 g2 g3; obtain ⟨u0, u1⟩ := (HU.out _ hSw).got; go_simp <;> with_reducible rfl)
        try simp only [Act.put, List.setIfInBounds_toArray, List.set_cons_zero, List.set_cons_succ]
        refine wpAnyH_take (i := 4) (oi := { dst := some 16, op := _, type := _, pos := _, after := _, guard := _ }) (v := ?_) rfl (by kernel_rfl) (by kernel_rfl) (by kernel_rfl) (fun _ _ _ h => h) (Or.inl ⟨by rfl, ?_⟩) hHeld ?_
        rotate_left
        · (intro w hSw; obtain ⟨g0, g1, g2, g3⟩ := HG.out _ hSw; simp only at g0 g1 g2 g3; obtain ⟨u0, u1⟩ := (HU.out _ hSw).got; go_simp <;> with_reducible rfl)
        try simp only [Act.put, List.setIfInBounds_toArray, List.set_cons_zero, List.set_cons_succ]
        refine wpAnyH_ready (rs := [5]) (by kernel_rfl) (by simp) ?_
        refine AllReadyH.cons (o := { dst := some 17, op := _, type := _, pos := _, after := _, guard := _ }) rfl (fun K hK => ?_) AllReadyH.nil
        go_simp
        refine (HHS.out _ hHeld).mono ?_
        rw [HQ.out]
        rintro e v1 ⟨rfl, hk1⟩
        have hKeep := since_step hHeld hk1
        go_wp2_with fail
        refine hK.out _ _ (by (try dsimp only); exact hKeep) (fun hHeld => ?_)
        clear hK K hKeep
        try simp only [Act.put, List.setIfInBounds_toArray, List.set_cons_zero, List.set_cons_succ]
        refine wpAnyH_done (by kernel_rfl) ?_ _
        have hB2 := hB.trans (hHeld.mono hB.size)
        obtain ⟨g0, g1, g2, g3⟩ := HG.out _ hHeld
        simp only at g0 g1 g2 g3
        have hBf := hBw.trans (hHeld.mono hBw.size)
        go_wp2_with fail
        go_ret
        exact ⟨retI HE.out.symm, hBf⟩
      | false =>
        have HQ := Lib.hid hq
        have HN := Lib.hid (HN0.out hq)
        clear hq HE0 HN0
        go_wp2_with fail
        refine wp_region_held_drew (S := (fun V => Below wr.heap.size wr V)) (by kernel_rfl) (by exact (Below.refl _ _).drew) (fun hHeld => ?_)
        refine wpAnyH_take (i := 0) (oi := { dst := some 12, op := _, type := _, pos := _, after := _, guard := _ }) (v := ?_) rfl (by kernel_rfl) (by kernel_rfl) (by kernel_rfl) (fun _ _ _ h => h) (Or.inl ⟨by rfl, ?_⟩) hHeld ?_
        rotate_left
        · (intro w hSw; obtain ⟨g0, g1, g2, g3⟩ := HG.out _ hSw; simp only at g0 g1 g2 g3; obtain ⟨u0, u1⟩ := (HU.out _ hSw).got; go_simp <;> with_reducible rfl)
        try simp only [Act.put, List.setIfInBounds_toArray, List.set_cons_zero, List.set_cons_succ]
        refine wpAnyH_take (i := 1) (oi := { dst := some 13, op := _, type := _, pos := _, after := _, guard := _ }) (v := ?_) rfl (by kernel_rfl) (by kernel_rfl) (by kernel_rfl) (fun _ _ _ h => h) (Or.inl ⟨by rfl, ?_⟩) hHeld ?_
        rotate_left
        · (intro w hSw; obtain ⟨g0, g1, g2, g3⟩ := HG.out _ hSw; simp only at g0 g1 g2 g3; obtain ⟨u0, u1⟩ := (HU.out _ hSw).got; go_simp <;> with_reducible rfl)
        try simp only [Act.put, List.setIfInBounds_toArray, List.set_cons_zero, List.set_cons_succ]
        refine wpAnyH_take (i := 2) (oi := { dst := some 14, op := _, type := _, pos := _, after := _, guard := _ }) (v := ?_) rfl (by kernel_rfl) (by kernel_rfl) (by kernel_rfl) (fun _ _ _ h => h) (Or.inl ⟨by rfl, ?_⟩) hHeld ?_
        rotate_left
        · (intro w hSw; obtain ⟨g0, g1, g2, g3⟩ := HG.out _ hSw; simp only at g0 g1 g2 g3; obtain ⟨u0, u1⟩ := (HU.out _ hSw).got; go_simp <;> with_reducible rfl)
        try simp only [Act.put, List.setIfInBounds_toArray, List.set_cons_zero, List.set_cons_succ]
        refine wpAnyH_take (i := 3) (oi := { dst := some 15, op := _, type := _, pos := _, after := _, guard := _ }) (v := ?_) rfl (by kernel_rfl) (by kernel_rfl) (by kernel_rfl) (fun _ _ _ h => h) (Or.inl ⟨by rfl, ?_⟩) hHeld ?_
        rotate_left
        · (intro w hSw; obtain ⟨g0, g1, g2, g3⟩ := HG.out _ hSw; simp only at g0 g1 g2 g3; obtain ⟨u0, u1⟩ := (HU.out _ hSw).got; go_simp <;> with_reducible rfl)
        try simp only [Act.put, List.setIfInBounds_toArray, List.set_cons_zero, List.set_cons_succ]
        refine wpAnyH_take (i := 4) (oi := { dst := some 16, op := _, type := _, pos := _, after := _, guard := _ }) (v := ?_) rfl (by kernel_rfl) (by kernel_rfl) (by kernel_rfl) (fun _ _ _ h => h) (Or.inl ⟨by rfl, ?_⟩) hHeld ?_
        rotate_left
        · (intro w hSw; obtain ⟨g0, g1, g2, g3⟩ := HG.out _ hSw; simp only at g0 g1 g2 g3; obtain ⟨u0, u1⟩ := (HU.out _ hSw).got; go_simp <;> with_reducible rfl)
        try simp only [Act.put, List.setIfInBounds_toArray, List.set_cons_zero, List.set_cons_succ]
        refine wpAnyH_ready (rs := [5]) (by kernel_rfl) (by simp) ?_
        refine AllReadyH.cons (o := { dst := some 17, op := _, type := _, pos := _, after := _, guard := _ }) rfl (fun K hK => ?_) AllReadyH.nil
        go_simp
        refine (HHS.out _ hHeld).mono ?_
        rw [HQ.out]
        rintro e v1 ⟨rfl, hk1⟩
        have hKeep := since_step hHeld hk1
        go_wp2_with fail
        refine hK.out _ _ (by (try dsimp only); exact hKeep) (fun hHeld => ?_)
        clear hK K hKeep
        try simp only [Act.put, List.setIfInBounds_toArray, List.set_cons_zero, List.set_cons_succ]
        refine wpAnyH_done (by kernel_rfl) ?_ _
        have hB2 := hB.trans (hHeld.mono hB.size)
        go_wp2_with fail
        go_roundw
        case rel => exact ⟨k + 1, by omega, by go_num, HN.out, hB2⟩
        case measure => simp [intOf]; omega
    · obtain rfl : k = l.length := by omega
      have HE := Lib.hid (ownC_none (cs := cs) (u := u) fun j hj => hno j hj (by have := HLC.out; omega))
      clear hno hs0 ht0 hcl hU0
      go_wp2_with fail
      go_ret
      exact ⟨retI HE.out.symm, hBw⟩

set_option maxHeartbeats 1000000 in
set_option maxRecDepth 100000 in
theorem owner1_any (id mem kind : Int) (A : Option Addr) (cap : Nat) (L : List Nt) (u : Un) (b : Nat) (w : World) (hl : L.length ≤ 900000) (hs : Sl w A (rc Nt.cells L)) (hu : Un.Bx w b u) :
    Calls Try.prog 93 #[.agg #[.int .i64 id, .int .i64 mem, .int .i64 kind, .slice A L.length cap], .pointer (some ⟨b, 0, none⟩)] w fun e w' => e = .returned (.bool (hasU id kind L u)) ∧ Below w.heap.size w w' := by
  have hB0 := since_alloc (Below.refl _ w) (.cells #[.int .i64 id, .int .i64 mem, .int .i64 kind, .slice A L.length cap] 24)
  have HH := hasA_any id mem kind A cap L u _ hl (hs.alloc (.cells #[.int .i64 id, .int .i64 mem, .int .i64 kind, .slice A L.length cap] 24))
  obtain ⟨u0, u1⟩ := hu.got
  have lu := hu.lt
  unfold Un.val at HH
  have HH := Lib.hid HH
  go_enter Try.func93, Try.ntmps93
  go_wp2_with fail
  refine HH.out.mono ?_
  rintro e w1 ⟨rfl, hb⟩
  have hB1 := since_step hB0 hb
  go_wp2_with fail
  go_ret
  exact ⟨rfl, hB1⟩
theorem ent_owner1 : Ent Try.prog 93 := Ent.of (by kernel_rfl)
set_option maxHeartbeats 4000000 in
set_option maxRecDepth 100000 in
theorem aowner_any (A : Option Addr) (cap : Nat) (l : List Ac) (cs : List Cn) (u : Un) (w : World) (hl : l.length ≤ 900000) (hcl : ∀ c ∈ cs, c.L.length ≤ 900000) (hs : Sl w A (rc Ac.cells l)) (ht : Tab w l cs) (hsd : SortedQ l) :
    Calls Try.prog 37 #[.slice A l.length cap, u.val] w fun e w' => e = .returned (.int .i64 (ownC cs u)) ∧ Below w.heap.size w w' := by
  have hB0 := since_alloc (Below.refl _ w) (.cells u.cells.toArray 26)
  have hU0 := Un.Bx.new w u
  have hs0 := hs.alloc (.cells u.cells.toArray 26)
  have ht0 := ht.below ((Below.refl _ _).alloc (Nat.le_refl _) (.cells u.cells.toArray 26))
  have hinj : ∀ i j, (hi : i < l.length) → (hj : j < l.length) → l[i].id = l[j].id → i = j := fun i j hi hj e => by
    rcases Nat.lt_trichotomy i j with h | h | h
    · have := List.pairwise_iff_getElem.1 hsd i j hi hj h
      simp only [ahQ, decide_eq_true_eq] at this; omega
    · exact h
    · have := List.pairwise_iff_getElem.1 hsd j i hj hi h
      simp only [ahQ, decide_eq_true_eq] at this; omega
  obtain ⟨p, hp⟩ : ∃ p : Ac → Bool, ∀ i, (hi : i < l.length) → (hi2 : i < cs.length) → p l[i] = hasU cs[i].id cs[i].kind cs[i].L u := by
    refine ⟨fun g => match cs.find? (fun c => c.id == g.id) with | some c => hasU c.id c.kind c.L u | none => false, fun i hi hi2 => ?_⟩
    have hf : cs.find? (fun c => c.id == l[i].id) = some cs[i] := find_some (p := fun c : Cn => c.id == l[i].id) hi2 (fun j hj => by
      have hj1 : j < l.length := by omega
      have := hinj j i hj1 hi
      have e1 := (ht.2 j hj1 (by omega)).id
      simp only [beq_eq_false_iff_ne, ne_eq]
      intro e
      have := this (by rw [e1]; exact e)
      omega) (by simp only [beq_iff_eq]; exact (ht.2 i hi hi2).id.symm)
    simp only [hf]
  have HT : Hid (Ac.TellsOn l 93 #[.pointer (some ⟨w.heap.size, 0, none⟩)] p (w.alloc (.cells u.cells.toArray 26)).heap.size (w.alloc (.cells u.cells.toArray 26))) := Lib.hid fun g hg V hV => by
    obtain ⟨i, hi, rfl⟩ := List.getElem_of_mem hg
    have hi2 : i < cs.length := by have := ht.1; omega
    have hi3 := (ht0.2 i hi hi2).below hV
    have h := owner1_any cs[i].id cs[i].mem cs[i].kind l[i].cl l[i].clC cs[i].L u w.heap.size V (hcl _ (List.getElem_mem hi2)) hi3.sl (hU0.below hV)
    rw [hp i hi hi2, hi3.eq]
    exact h
  have HO : Hid ((pickL p Ac.zero l).mem = ownC cs u) := Lib.hid (by
    rcases atL_cases p l with ⟨_, hno⟩ | ⟨k, hk, _, hpk, hno⟩
    · rw [pickL, find_none hno]
      rw [ownC_none fun j hj => by rw [← hp j (by have := ht.1; omega) hj]; exact hno j (by have := ht.1; omega)]
      rfl
    · have hk2 : k < cs.length := by have := ht.1; omega
      rw [pickL, find_some hk hno hpk]
      rw [ownC_some hk2 (fun j hj => by rw [← hp j (by omega) (by omega)]; exact hno j hj) (by rw [← hp k hk hk2]; exact hpk)]
      exact (ht.2 k hk hk2).mem)
  have HF := Lib.hid (find_acOn A cap l 93 #[.pointer (some ⟨w.heap.size, 0, none⟩)] p _ (by omega) hs0 ent_owner1 HT.out)
  clear HT hp hinj hs ht hs0 ht0 hU0 hsd hcl
  generalize pickL p Ac.zero l = g at *
  generalize (l.find? p).isSome = q at *
  unfold Ac.val at HF
  unfold Un.val
  unfold Un.cells at *
  go_enter Try.func37, Try.ntmps37
  go_wp2_with fail
  refine HF.out.mono ?_
  rintro e w1 ⟨rfl, hb⟩
  have hB1 := since_alloc (since_step hB0 hb) (.cells #[.int .i64 g.id, .int .i64 g.mem, .int .i64 g.kind, .slice g.cl g.clL g.clC] 24)
  go_wp2_with fail
  go_ret
  exact ⟨retI HO.out, hB1⟩
end Go.Proofs.Ytpnaihnmmnjacaa
