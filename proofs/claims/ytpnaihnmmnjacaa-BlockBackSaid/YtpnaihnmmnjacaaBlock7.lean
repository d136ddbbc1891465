/-
  Layer 22, seventh part: groups: of, Find, Open, Alloc, Back (laid by gen_block7.py).
-/
import Derived.Test.YtpnaihnmmnjacaaGrV
import Derived.Test.YtpnaihnmmnjacaaRowM
import Derived.Test.YtpnaihnmmnjacaaBlock
import Derived.Test.YtpnaihnmmnjacaaFix
namespace Go.Proofs.Ytpnaihnmmnjacaa
open Go.ChangeShapes Go.WideShapes Go.ChangeAt Go.RowKit
set_option linter.unusedVariables false
set_option linter.unusedSimpArgs false

theorem results_tmp3' {fn : Func} {t u v : Tmp} (h : fn.results = #[.tmp t, .tmp u, .tmp v]) (tmps : Array Value) (P : Program) (w : World) :
    (results fn tmps).run P w = .ok (.tuple #[tmps.getD t undef, tmps.getD u undef, tmps.getD v undef]) w := by
  simp [results, h]
def idG (id : Int) (x : Gr) : Bool := x.id == id
def findG (l : List Gr) (id : Int) : Gr := pickL (idG id) Gr.zero l
def hasG (l : List Gr) (id : Int) : Bool := (l.find? (idG id)).isSome
theorem casesG (l : List Gr) (id : Int) : (hasG l id = false ∧ atL (idG id) l = -1 ∧ findG l id = Gr.zero ∧ l.find? (idG id) = none) ∨ ∃ k : Nat, ∃ hk : k < l.length, hasG l id = true ∧ atL (idG id) l = k ∧ findG l id = l[k] ∧ idG id l[k] = true ∧ ∀ j, (hj : j < k) → idG id (l[j]'(by omega)) = false := by
  rcases atL_cases (idG id) l with ⟨h0, hno⟩ | ⟨k, hk, h0, hpk, hno⟩
  · have hf := find_none hno
    exact .inl ⟨by rw [hasG, hf]; rfl, h0, by rw [findG, pickL, hf]; rfl, hf⟩
  · have hf := find_some hk hno hpk
    exact .inr ⟨k, hk, by rw [hasG, hf]; rfl, h0, by rw [findG, pickL, hf]; rfl, hpk, hno⟩

def leftG (g : Gr) (n : Int) : Gr := ⟨g.id, g.ac, g.cl, g.ins, g.pr, n⟩
def numG (g : Gr) (n : Int) : Gr := ⟨n, g.ac, g.cl, g.ins, g.pr, g.left⟩
def setG (l : List Gr) (id n : Int) : List Gr := l.set (atL (idG id) l).toNat (leftG (findG l id) n)
theorem setG_length (l : List Gr) (id n : Int) : (setG l id n).length = l.length := by simp [setG]
def nextG (l : List Gr) : Int := if h : 0 < l.length then IntKind.i64.wrap ((l[l.length - 1]'(by omega)).id + 1) else 1
def openR (l : List Gr) (g : Gr) : Int × Int × List Gr :=
  if g.left = 0 ∨ inQ g.left = false then (2, 0, []) else if 64 ≤ l.length then (25, 0, []) else (0, nextG l, l ++ [numG g (nextG l)])
def allocBad (q x : Int) : Prop := q = 0 ∨ (0 < q ∧ x < 0) ∨ (q < 0 ∧ 0 < x)
def allocHeld (q x : Int) : Prop := (0 < q ∧ x < q) ∨ (q < 0 ∧ q < x)
instance (q x : Int) : Decidable (allocBad q x) := by unfold allocBad; infer_instance
instance (q x : Int) : Decidable (allocHeld q x) := by unfold allocHeld; infer_instance
def allocR (l : List Gr) (id q : Int) : Int × List Gr :=
  if hasG l id = true then (if allocBad q (findG l id).left then (2, []) else if allocHeld q (findG l id).left then (23, []) else (0, setG l id ((findG l id).left - q))) else (11, [])
def backR (l : List Gr) (id q : Int) : Int × List Gr :=
  if hasG l id = true then (if inQ ((findG l id).left + q) = true then (0, setG l id ((findG l id).left + q)) else (7, [])) else (11, [])
/-- a row, and an error's number -/
def GRes (B : Nat) (w' : World) (e : Ending) (R : Int × List Gr) : Prop :=
  ∃ A' c', e = .returned (.tuple #[.slice A' R.2.length c', .int .i64 R.1]) ∧ w'.ownsRow B 102 6 (.slice A' R.2.length c') R.2.length (rc Gr.cells R.2)
theorem GRes.nil (B : Nat) (w' : World) (n : Int) : GRes B w' (.returned (.tuple #[.slice none 0 0, .int .i64 n])) (n, []) := ⟨none, 0, rfl, own_nil _ _ _⟩
/-- a row, a number, an error's number -/
def ORes (B : Nat) (w' : World) (e : Ending) (R : Int × Int × List Gr) : Prop :=
  ∃ A' c', e = .returned (.tuple #[.slice A' R.2.2.length c', .int .i64 R.2.1, .int .i64 R.1]) ∧ w'.ownsRow B 102 6 (.slice A' R.2.2.length c') R.2.2.length (rc Gr.cells R.2.2)
theorem ORes.nil (B : Nat) (w' : World) (n : Int) : ORes B w' (.returned (.tuple #[.slice none 0 0, .int .i64 0, .int .i64 n])) (n, 0, []) := ⟨none, 0, rfl, own_nil _ _ _⟩
theorem Gr.Bx.setId {w : World} {b : Nat} {g : Gr} (h : Gr.Bx w b g) (n : Int) : Gr.Bx (w.setCell ⟨b, 0, none⟩ (.int .i64 n)) b (numG g n) := by
  obtain ⟨h0, h1, h2⟩ := h
  refine ⟨by simpa using h0, ?_, ?_⟩
  · unfold Gr.at at h1 ⊢
    simp only [Nat.zero_add] at h1 ⊢
    simp [cell_set, h1, numG]
  · rw [setCell_eq_setRow w b 0 g.cells.toArray 102 (0, 0) _ h2]
    have := setRow_heap w b _ ((g.cells.toArray).set! 0 (.int .i64 n)) 102 (0, 0) h2
    simpa [numG, Gr.cells] using this

set_option maxHeartbeats 1000000 in
set_option maxRecDepth 100000 in
theorem gof1_any (x : Gr) (id : Int) (b : Nat) (w : World) (h0 : w.cell? ⟨b, 0, none⟩ = some (.int .i64 id)) :
    Calls Try.prog 163 #[x.val, .pointer (some ⟨b, 0, none⟩)] w fun e w' => e = .returned (.bool (idG id x)) ∧ Below w.heap.size w w' := by
  have hB := since_alloc (Below.refl _ w) (.cells x.cells.toArray 102)
  have hlt := World.block_lt_of_cell? _ _ h0
  unfold Gr.val
  go_enter Try.func163, Try.ntmps163
  go_wp2_with fail
  go_ret
  exact ⟨rfl, hB⟩
theorem ent_gof1 : Ent Try.prog 163 := Ent.of (by kernel_rfl)
theorem tells_gof1 (id : Int) (b : Nat) (w : World) (h : w.cell? ⟨b, 0, none⟩ = some (.int .i64 id)) : Gr.Tells 163 #[.pointer (some ⟨b, 0, none⟩)] (idG id) w.heap.size w :=
  fun x W hW => gof1_any x id b W ((hW.cell (p := ⟨b, 0, none⟩) (World.block_lt_of_cell? _ _ h)).trans h)
set_option maxHeartbeats 1000000 in
set_option maxRecDepth 100000 in
theorem gof_any (id : Int) (w : World) :
    Calls Try.prog 131 #[.int .i64 id] w fun e w' => (∃ b, e = .returned (.func (.func 163) #[] #[.pointer (some ⟨b, 0, none⟩)]) ∧ w'.cell? ⟨b, 0, none⟩ = some (.int .i64 id)) ∧ Below w.heap.size w w' := by
  have hB := since_alloc (Below.refl _ w) (.cells #[.int .i64 id] 3)
  go_enter Try.func131, Try.ntmps131
  go_wp2_with fail
  go_ret
  exact ⟨⟨_, rfl, by simp⟩, hB⟩
set_option maxHeartbeats 1000000 in
set_option maxRecDepth 100000 in
theorem gfind_any (A : Option Addr) (cap : Nat) (l : List Gr) (id : Int) (w : World) (hl : l.length ≤ 1000000) (hs : Sl w A (rc Gr.cells l)) :
    Calls Try.prog 75 #[.slice A l.length cap, .int .i64 id] w fun e w' => e = .returned (.tuple #[(findG l id).val, .bool (hasG l id)]) ∧ Below w.heap.size w w' := by
  have hB := since_alloc (Below.refl _ w) (.cells #[.int .i64 0, .int .i64 0, .int .i64 0, .int .i64 0, .int .i64 0, .int .i64 0] 102)
  have Bz := Bk.new w #[.int .i64 0, .int .i64 0, .int .i64 0, .int .i64 0, .int .i64 0, .int .i64 0] 102
  go_enter Try.func75, Try.ntmps75
  go_wp2_with fail
  refine (gof_any id _).mono ?_
  rintro e w1 ⟨⟨b, rfl, hU⟩, hb1⟩
  have hs1 := (hs.alloc _).below hb1
  have hB1 := since_step hB hb1
  have Bz1 := Bz.below hb1
  have hfz : ∀ i, w1.frozen? ⟨w.heap.size, i, none⟩ = false := fun i => by rw [(hb1.frozen (p := ⟨w.heap.size, i, none⟩) (by simp))]; simp
  clear hb1 hs Bz
  go_wp2_with fail
  refine (find_gr A cap l 163 #[.pointer (some ⟨b, 0, none⟩)] (idG id) _ hl hs1 ent_gof1 (tells_gof1 id b _ hU)).mono ?_
  rintro e w2 ⟨rfl, hb2⟩
  have hB2 := since_step hB1 hb2
  have Bz2 := Bz1.below hb2
  have hfz2 : ∀ i, w2.frozen? ⟨w.heap.size, i, none⟩ = false := fun i => by rw [(hb2.frozen (p := ⟨w.heap.size, i, none⟩) Bz1.1)]; exact hfz i
  obtain ⟨lb, cb⟩ := _root_.id Bz2
  have q0 := cb 0
  have q1 := cb 1
  have q2 := cb 2
  have q3 := cb 3
  have q4 := cb 4
  have q5 := cb 5
  simp at q0 q1 q2 q3 q4 q5
  clear cb hb2 hfz Bz1 Bz2
  have hcs := @cell_set
  have e1 : pickL (idG id) Gr.zero l = findG l id := rfl
  have e2 : (l.find? (idG id)).isSome = hasG l id := rfl
  rw [e1, e2]
  clear e1 e2
  generalize hv : findG l id = v
  generalize hq : hasG l id = q
  have HV := Lib.hid hv
  have HQ := Lib.hid hq
  clear hv hq
  unfold Gr.val
  go_wp2_with fail
  refine bodyPost_ret (v := .tuple #[v.val, .bool q]) ?_ rfl ⟨?_, ?_⟩
  · simp [results, Try.results75, go_sem, q0, q1, q2, q3, q4, q5, hfz2, Gr.val]
  · rw [HV.out, HQ.out]
  · repeat' (first | with_reducible exact hB2 | with_reducible refine Below.setCell ?_ ?_ _ | with_reducible refine Below.alloc ?_ ?_ _)
    all_goals first | (simp; done) | (simp; omega)

set_option maxHeartbeats 4000000 in
set_option maxRecDepth 100000 in
theorem gopen_any (A : Option Addr) (cap : Nat) (l : List Gr) (v : Gr) (w : World) (hl : l.length ≤ 900000) (hs : Sl w A (rc Gr.cells l)) :
    Calls Try.prog 69 #[.slice A l.length cap, v.val] w fun e w' => ORes w.heap.size w' e (openR l v) ∧ Below w.heap.size w w' := by
  have hB0 := since_alloc (Below.refl _ w) (.cells v.cells.toArray 102)
  have hV0 := Gr.Bx.new w v
  have hs0 := hs.alloc (.cells v.cells.toArray 102)
  have HWI := Lib.hid (fun W => bwithin22 v.left W)
  obtain ⟨g0, g1, g2, g3, g4, g5⟩ := hV0.got
  by_cases h0 : v.left = 0
  · have HR : Hid (openR l v = (2, 0, [])) := Lib.hid (by rw [openR, if_pos (.inl h0)])
    have h0b : (v.left == 0) = true := by simpa using h0
    clear h0
    unfold Gr.val
    go_enter Try.func69, Try.ntmps69
    go_wp2_with fail
    go_ret3
    rw [HR.out]; exact ⟨ORes.nil _ _ _, hB0⟩
  have h0b : (v.left == 0) = false := by simpa using h0
  cases hq : inQ v.left with
  | false =>
    have HR : Hid (openR l v = (2, 0, [])) := Lib.hid (by rw [openR, if_pos (.inr hq)])
    rw [hq] at HWI
    clear h0 hq
    unfold Gr.val
    go_enter Try.func69, Try.ntmps69
    go_wp2_with fail
    refine (HWI.out _).mono ?_
    rintro e w1 ⟨rfl, rfl⟩
    go_wp2_with fail
    go_ret3
    rw [HR.out]; exact ⟨ORes.nil _ _ _, hB0⟩
  | true =>
    rw [hq] at HWI
    have hno : ¬ (v.left = 0 ∨ inQ v.left = false) := by rintro (h | h); exact h0 h; rw [hq] at h; cases h
    by_cases h64 : 64 ≤ l.length
    · have HR : Hid (openR l v = (25, 0, [])) := Lib.hid (by rw [openR, if_neg hno, if_pos h64])
      have h64i : (64 : Int) ≤ (l.length : Int) := by omega
      clear h0 hq hno
      unfold Gr.val
      go_enter Try.func69, Try.ntmps69
      go_wp2_with fail
      refine (HWI.out _).mono ?_
      rintro e w1 ⟨rfl, rfl⟩
      go_wp2_with fail
      go_ret3
      rw [HR.out]; exact ⟨ORes.nil _ _ _, hB0⟩
    · obtain ⟨nx, hnx⟩ : ∃ n, nextG l = n := ⟨_, rfl⟩
      have HR : Hid (openR l v = (0, nx, l ++ [numG v nx])) := Lib.hid (by rw [openR, if_neg hno, if_neg h64, hnx])
      have h64i : ¬ (64 : Int) ≤ (l.length : Int) := by omega
      have hll : l.length < 64 := by omega
      have hB2 := since_alloc (Below.refl _ w) (.cells (numG v nx).cells.toArray 102)
      have hV2 := Gr.Bx.new w (numG v nx)
      have hs2 := hs.alloc (.cells (numG v nx).cells.toArray 102)
      clear h0 hq hno hs0
      by_cases hz : 0 < l.length
      · obtain ⟨b, o, rfl, hbw, hg⟩ := hs.gr (k := l.length - 1) (by omega)
        have hg0 : (w.alloc (.cells v.cells.toArray 102)).cell? ⟨b, o + (l.length - 1) * 6, none⟩ = some (.int .i64 (l[l.length - 1]'(by omega)).id) := (hB0.cell (p := ⟨b, _, none⟩) hbw).trans hg.1
        have hnw : IntKind.i64.wrap ((l[l.length - 1]'(by omega)).id + 1) = nx := by rw [← hnx, nextG, dif_pos hz]
        have hzi : (0 : Int) < (l.length : Int) := by omega
        have hz1 : IntKind.i64.wrap ((l.length : Int) - 1) = (l.length : Int) - 1 := IntWalk.i64_in _ (by omega)
        have hz2 : (0 : Int) ≤ (l.length : Int) - 1 := by omega
        have hz3 : ((l.length : Int) - 1).toNat = l.length - 1 := by omega
        have hz4 : (l.length : Int) - 1 < (l.length : Int) := by omega
        have hne : b ≠ w.heap.size := by omega
        have hne' : ¬ w.heap.size = b := by omega
        have hgw := hg.1
        clear hs hg hnx
        generalize (l[l.length - 1]'(by omega)).id = li at hg0 hnw hgw
        unfold Gr.val Gr.cells numG at *
        go_enter Try.func69, Try.ntmps69
        go_wp2_with fail
        refine (HWI.out _).mono ?_
        rintro e w1 ⟨rfl, rfl⟩
        go_upto_region 8 with fail
        try simp only at hB2 hV2 hs2
        generalize hWW : w.alloc (.cells #[.int .i64 nx, .int .i64 v.ac, .int .i64 v.cl, .int .i64 v.ins, .int .i64 v.pr, .int .i64 v.left] 102) = W at *
        clear hWW hg0 hgw g0 g1 g2 g3 g4 g5 hV0 hB0
        obtain ⟨x, hx⟩ : ∃ x, (⟨nx, v.ac, v.cl, v.ins, v.pr, v.left⟩ : Gr) = x := ⟨_, rfl⟩
        rw [hx] at hV2
        have HXX := Lib.hid hx
        have HNX : Hid (x.id = nx) := Lib.hid (by rw [← hx])
        have HXB : Hid (∀ V, Below W.heap.size W V → Gr.Bx V w.heap.size x) := Lib.hid fun V hV => hV2.below hV
        have HSB : Hid (∀ V, Below W.heap.size W V → Sl V _ (rc Gr.cells l)) := Lib.hid fun V hV => hs2.below hV
        have hBW := hB2.size
        clear hx hV2 hs2 HWI
        go_wp2_with fail
        refine wp_region_held_drew (S := (fun V => Below W.heap.size W V)) (by kernel_rfl) (by exact (Below.refl _ _).drew) (fun hHeld => ?_)
        refine wpAnyH_take (i := 0) (oi := { dst := some 32, op := _, type := _, pos := _, after := _, guard := _ }) (v := ?_) rfl (by kernel_rfl) (by kernel_rfl) (by kernel_rfl) (fun _ _ _ h => h) (Or.inl ⟨by rfl, ?_⟩) hHeld ?_
        rotate_left
        · (intro w hSw; obtain ⟨g0, g1, g2, g3, g4, g5⟩ := (HXB.out _ hSw).got; go_simp <;> with_reducible rfl)
        try simp only [Act.put, List.setIfInBounds_toArray, List.set_cons_zero, List.set_cons_succ]
        refine wpAnyH_take (i := 2) (oi := { dst := some 34, op := _, type := _, pos := _, after := _, guard := _ }) (v := ?_) rfl (by kernel_rfl) (by kernel_rfl) (by kernel_rfl) (fun _ _ _ h => h) (Or.inl ⟨by rfl, ?_⟩) hHeld ?_
        rotate_left
        · (intro w hSw; obtain ⟨g0, g1, g2, g3, g4, g5⟩ := (HXB.out _ hSw).got; go_simp <;> with_reducible rfl)
        try simp only [Act.put, List.setIfInBounds_toArray, List.set_cons_zero, List.set_cons_succ]
        refine wpAnyH_take (i := 5) (oi := { dst := some 37, op := _, type := _, pos := _, after := _, guard := _ }) (v := ?_) rfl (by kernel_rfl) (by kernel_rfl) (by kernel_rfl) (fun _ _ _ h => h) (Or.inl ⟨by rfl, ?_⟩) hHeld ?_
        rotate_left
        · (intro w hSw; obtain ⟨g0, g1, g2, g3, g4, g5⟩ := (HXB.out _ hSw).got; go_simp <;> with_reducible rfl)
        try simp only [Act.put, List.setIfInBounds_toArray, List.set_cons_zero, List.set_cons_succ]
        refine wpAnyH_take (i := 6) (oi := { dst := some 38, op := _, type := _, pos := _, after := _, guard := _ }) (v := ?_) rfl (by kernel_rfl) (by kernel_rfl) (by kernel_rfl) (fun _ _ _ h => h) (Or.inl ⟨by rfl, ?_⟩) hHeld ?_
        rotate_left
        · (intro w hSw; obtain ⟨g0, g1, g2, g3, g4, g5⟩ := (HXB.out _ hSw).got; go_simp <;> with_reducible rfl)
        try simp only [Act.put, List.setIfInBounds_toArray, List.set_cons_zero, List.set_cons_succ]
        refine wpAnyH_ready (rs := [1, 3]) (by kernel_rfl) (by simp) ?_
        refine AllReadyH.cons (o := { dst := some 33, op := _, type := _, pos := _, after := _, guard := _ }) rfl (fun K hK => ?_) (AllReadyH.cons (o := { dst := some 35, op := _, type := _, pos := _, after := _, guard := _ }) rfl (fun K hK => ?_) AllReadyH.nil)
        · go_simp
          refine (clone_gr _ cap l _ (by omega) (HSB.out _ hHeld)).mono ?_
          rintro e u1 ⟨⟨A1, c1, rfl, hown0⟩, hk1⟩
          have hKeep := since_step hHeld hk1
          have hown1 := own_base hown0 hHeld.size
          go_wp2_with fail
          refine hK.out _ _ (by (try dsimp only); exact hKeep) (fun hHeld => ?_)
          clear hK K hKeep
          try simp only [Act.put, List.setIfInBounds_toArray, List.set_cons_zero, List.set_cons_succ]
          refine wpAnyH_ready (rs := [3]) (by kernel_rfl) (by simp) ?_
          refine AllReadyH.cons (o := { dst := some 35, op := _, type := _, pos := _, after := _, guard := _ }) rfl (fun K hK => ?_) AllReadyH.nil
          have hHd := hHeld
          obtain ⟨g0, g1, g2, g3, g4, g5⟩ := (HXB.out _ hHd).got
          have hA := since_alloc hHeld (.cells x.cells.toArray 102)
          have hKeep := hA
          have HV := Gr.Bx.new u1 x
          have hown1 := hown1.alloc (.cells x.cells.toArray 102)
          skip
          go_simp
          refine hK.out _ _ (by (try dsimp only); exact hKeep) (fun hHeld => ?_)
          clear hK K hKeep
          try simp only [Act.put, List.setIfInBounds_toArray, List.set_cons_zero, List.set_cons_succ]
          refine wpAnyH_ready (rs := [4]) (by kernel_rfl) (by simp) ?_
          refine AllReadyH.cons (o := { dst := some 36, op := _, type := _, pos := _, after := _, guard := _ }) rfl (fun K hK => ?_) AllReadyH.nil
          refine step_app rfl (.tmp 33) (.tmp 35) rfl EGr (n := l.length) (m := 1) (c := c1) (d := 1) (A := A1) (B := some ⟨u1.heap.size, 0, none⟩) (by simp [Act.eval, Act.put]; done) (by simp [Act.eval, Act.put]; done) hown1 (by rw [Gr.len]) HV.sl (Gr.one x) (by unfold maxLen; omega) (by omega) hHeld.size ?_
          intro A2 c2 u2 hown2 hg2 hb2
          have hKeep := since_step (Below.refl W.heap.size W) (hHeld.trans hb2)
          refine hK.out _ _ (by (try dsimp only); exact hKeep) (fun hHeld => ?_)
          clear hK K hKeep
          try simp only [Act.put, List.setIfInBounds_toArray, List.set_cons_zero, List.set_cons_succ]
          refine wpAnyH_take (i := 7) (oi := { dst := some 4, op := _, type := _, pos := _, after := _, guard := _ }) (v := ?_) rfl (by kernel_rfl) (by kernel_rfl) (by kernel_rfl) (fun _ _ _ h => h) (Or.inl ⟨by rfl, ?_⟩) hHeld ?_
          rotate_left
          · (intro w hSw; obtain ⟨g0, g1, g2, g3, g4, g5⟩ := (HXB.out _ hSw).got; go_simp <;> with_reducible rfl)
          try simp only [Act.put, List.setIfInBounds_toArray, List.set_cons_zero, List.set_cons_succ]
          refine wpAnyH_take (i := 8) (oi := { dst := some 5, op := _, type := _, pos := _, after := _, guard := _ }) (v := ?_) rfl (by kernel_rfl) (by kernel_rfl) (by kernel_rfl) (fun _ _ _ h => h) (Or.inl ⟨by rfl, ?_⟩) hHeld ?_
          rotate_left
          · (intro w hSw; obtain ⟨g0, g1, g2, g3, g4, g5⟩ := (HXB.out _ hSw).got; go_simp <;> with_reducible rfl)
          try simp only [Act.put, List.setIfInBounds_toArray, List.set_cons_zero, List.set_cons_succ]
          refine wpAnyH_take (i := 9) (oi := { dst := some 6, op := _, type := _, pos := _, after := _, guard := _ }) (v := ?_) rfl (by kernel_rfl) (by kernel_rfl) (by kernel_rfl) (fun _ _ _ h => h) (Or.inl ⟨by rfl, ?_⟩) hHeld ?_
          rotate_left
          · (intro w hSw; obtain ⟨g0, g1, g2, g3, g4, g5⟩ := (HXB.out _ hSw).got; go_simp <;> with_reducible rfl)
          try simp only [Act.put, List.setIfInBounds_toArray, List.set_cons_zero, List.set_cons_succ]
          refine wpAnyH_done (by kernel_rfl) ?_ _
          have hB3 := hB2.trans (hHeld.mono hBW)
          go_wp2_with fail
          go_ret3
          refine ⟨?_, hB3⟩
          rw [HR.out]
          refine ⟨A2, c2, ?_, ?_⟩
          · rw [List.length_append, HNX.out]; rfl
          · rw [List.length_append, rc_append]
            have := own_base hown2 hBW
            rw [HXX.out]
            simpa [rc] using this
        · have hHd := hHeld
          obtain ⟨g0, g1, g2, g3, g4, g5⟩ := (HXB.out _ hHd).got
          have hA := since_alloc hHeld (.cells x.cells.toArray 102)
          have hKeep := hA
          have HV := Gr.Bx.new W.drew x
          skip
          go_simp
          refine hK.out _ _ (by (try dsimp only); exact hKeep) (fun hHeld => ?_)
          clear hK K hKeep
          try simp only [Act.put, List.setIfInBounds_toArray, List.set_cons_zero, List.set_cons_succ]
          refine wpAnyH_ready (rs := [1]) (by kernel_rfl) (by simp) ?_
          refine AllReadyH.cons (o := { dst := some 33, op := _, type := _, pos := _, after := _, guard := _ }) rfl (fun K hK => ?_) AllReadyH.nil
          go_simp
          refine (clone_gr _ cap l _ (by omega) (HSB.out _ hHeld)).mono ?_
          rintro e u1 ⟨⟨A1, c1, rfl, hown0⟩, hk1⟩
          have hKeep := since_step hHeld hk1
          have hown1 := own_base hown0 hHeld.size
          have hvb1 := HV.lt
          have HV := HV.below hk1
          go_wp2_with fail
          refine hK.out _ _ (by (try dsimp only); exact hKeep) (fun hHeld => ?_)
          clear hK K hKeep
          try simp only [Act.put, List.setIfInBounds_toArray, List.set_cons_zero, List.set_cons_succ]
          refine wpAnyH_ready (rs := [4]) (by kernel_rfl) (by simp) ?_
          refine AllReadyH.cons (o := { dst := some 36, op := _, type := _, pos := _, after := _, guard := _ }) rfl (fun K hK => ?_) AllReadyH.nil
          refine step_app rfl (.tmp 33) (.tmp 35) rfl EGr (n := l.length) (m := 1) (c := c1) (d := 1) (A := A1) (B := some ⟨W.drew.heap.size, 0, none⟩) (by simp [Act.eval, Act.put]; done) (by simp [Act.eval, Act.put]; done) hown1 (by rw [Gr.len]) HV.sl (Gr.one x) (by unfold maxLen; omega) (by omega) hHeld.size ?_
          intro A2 c2 u2 hown2 hg2 hb2
          have hKeep := since_step (Below.refl W.heap.size W) (hHeld.trans hb2)
          refine hK.out _ _ (by (try dsimp only); exact hKeep) (fun hHeld => ?_)
          clear hK K hKeep
          try simp only [Act.put, List.setIfInBounds_toArray, List.set_cons_zero, List.set_cons_succ]
          refine wpAnyH_take (i := 7) (oi := { dst := some 4, op := _, type := _, pos := _, after := _, guard := _ }) (v := ?_) rfl (by kernel_rfl) (by kernel_rfl) (by kernel_rfl) (fun _ _ _ h => h) (Or.inl ⟨by rfl, ?_⟩) hHeld ?_
          rotate_left
          · (intro w hSw; obtain ⟨g0, g1, g2, g3, g4, g5⟩ := (HXB.out _ hSw).got; go_simp <;> with_reducible rfl)
          try simp only [Act.put, List.setIfInBounds_toArray, List.set_cons_zero, List.set_cons_succ]
          refine wpAnyH_take (i := 8) (oi := { dst := some 5, op := _, type := _, pos := _, after := _, guard := _ }) (v := ?_) rfl (by kernel_rfl) (by kernel_rfl) (by kernel_rfl) (fun _ _ _ h => h) (Or.inl ⟨by rfl, ?_⟩) hHeld ?_
          rotate_left
          · (intro w hSw; obtain ⟨g0, g1, g2, g3, g4, g5⟩ := (HXB.out _ hSw).got; go_simp <;> with_reducible rfl)
          try simp only [Act.put, List.setIfInBounds_toArray, List.set_cons_zero, List.set_cons_succ]
          refine wpAnyH_take (i := 9) (oi := { dst := some 6, op := _, type := _, pos := _, after := _, guard := _ }) (v := ?_) rfl (by kernel_rfl) (by kernel_rfl) (by kernel_rfl) (fun _ _ _ h => h) (Or.inl ⟨by rfl, ?_⟩) hHeld ?_
          rotate_left
          · (intro w hSw; obtain ⟨g0, g1, g2, g3, g4, g5⟩ := (HXB.out _ hSw).got; go_simp <;> with_reducible rfl)
          try simp only [Act.put, List.setIfInBounds_toArray, List.set_cons_zero, List.set_cons_succ]
          refine wpAnyH_done (by kernel_rfl) ?_ _
          have hB3 := hB2.trans (hHeld.mono hBW)
          go_wp2_with fail
          go_ret3
          refine ⟨?_, hB3⟩
          rw [HR.out]
          refine ⟨A2, c2, ?_, ?_⟩
          · rw [List.length_append, HNX.out]; rfl
          · rw [List.length_append, rc_append]
            have := own_base hown2 hBW
            rw [HXX.out]
            simpa [rc] using this
      · have hnx1 : nx = 1 := by rw [← hnx, nextG, dif_neg hz]
        have hzi : ¬ (0 : Int) < (l.length : Int) := by omega
        subst hnx1
        clear hs
        unfold Gr.val Gr.cells numG at *
        go_enter Try.func69, Try.ntmps69
        go_wp2_with fail
        refine (HWI.out _).mono ?_
        rintro e w1 ⟨rfl, rfl⟩
        go_upto_region 8 with fail
        try simp only at hB2 hV2 hs2
        generalize hWW : w.alloc (.cells #[.int .i64 1, .int .i64 v.ac, .int .i64 v.cl, .int .i64 v.ins, .int .i64 v.pr, .int .i64 v.left] 102) = W at *
        clear hWW g0 g1 g2 g3 g4 g5 hV0 hB0
        obtain ⟨x, hx⟩ : ∃ x, (⟨1, v.ac, v.cl, v.ins, v.pr, v.left⟩ : Gr) = x := ⟨_, rfl⟩
        rw [hx] at hV2
        have HXX := Lib.hid hx
        have HNX : Hid (x.id = 1) := Lib.hid (by rw [← hx])
        have HXB : Hid (∀ V, Below W.heap.size W V → Gr.Bx V w.heap.size x) := Lib.hid fun V hV => hV2.below hV
        have HSB : Hid (∀ V, Below W.heap.size W V → Sl V _ (rc Gr.cells l)) := Lib.hid fun V hV => hs2.below hV
        have hBW := hB2.size
        clear hx hV2 hs2 HWI
        go_wp2_with fail
        refine wp_region_held_drew (S := (fun V => Below W.heap.size W V)) (by kernel_rfl) (by exact (Below.refl _ _).drew) (fun hHeld => ?_)
        refine wpAnyH_take (i := 0) (oi := { dst := some 32, op := _, type := _, pos := _, after := _, guard := _ }) (v := ?_) rfl (by kernel_rfl) (by kernel_rfl) (by kernel_rfl) (fun _ _ _ h => h) (Or.inl ⟨by rfl, ?_⟩) hHeld ?_
        rotate_left
        · (intro w hSw; obtain ⟨g0, g1, g2, g3, g4, g5⟩ := (HXB.out _ hSw).got; go_simp <;> with_reducible rfl)
        try simp only [Act.put, List.setIfInBounds_toArray, List.set_cons_zero, List.set_cons_succ]
        refine wpAnyH_take (i := 2) (oi := { dst := some 34, op := _, type := _, pos := _, after := _, guard := _ }) (v := ?_) rfl (by kernel_rfl) (by kernel_rfl) (by kernel_rfl) (fun _ _ _ h => h) (Or.inl ⟨by rfl, ?_⟩) hHeld ?_
        rotate_left
        · (intro w hSw; obtain ⟨g0, g1, g2, g3, g4, g5⟩ := (HXB.out _ hSw).got; go_simp <;> with_reducible rfl)
        try simp only [Act.put, List.setIfInBounds_toArray, List.set_cons_zero, List.set_cons_succ]
        refine wpAnyH_take (i := 5) (oi := { dst := some 37, op := _, type := _, pos := _, after := _, guard := _ }) (v := ?_) rfl (by kernel_rfl) (by kernel_rfl) (by kernel_rfl) (fun _ _ _ h => h) (Or.inl ⟨by rfl, ?_⟩) hHeld ?_
        rotate_left
        · (intro w hSw; obtain ⟨g0, g1, g2, g3, g4, g5⟩ := (HXB.out _ hSw).got; go_simp <;> with_reducible rfl)
        try simp only [Act.put, List.setIfInBounds_toArray, List.set_cons_zero, List.set_cons_succ]
        refine wpAnyH_take (i := 6) (oi := { dst := some 38, op := _, type := _, pos := _, after := _, guard := _ }) (v := ?_) rfl (by kernel_rfl) (by kernel_rfl) (by kernel_rfl) (fun _ _ _ h => h) (Or.inl ⟨by rfl, ?_⟩) hHeld ?_
        rotate_left
        · (intro w hSw; obtain ⟨g0, g1, g2, g3, g4, g5⟩ := (HXB.out _ hSw).got; go_simp <;> with_reducible rfl)
        try simp only [Act.put, List.setIfInBounds_toArray, List.set_cons_zero, List.set_cons_succ]
        refine wpAnyH_ready (rs := [1, 3]) (by kernel_rfl) (by simp) ?_
        refine AllReadyH.cons (o := { dst := some 33, op := _, type := _, pos := _, after := _, guard := _ }) rfl (fun K hK => ?_) (AllReadyH.cons (o := { dst := some 35, op := _, type := _, pos := _, after := _, guard := _ }) rfl (fun K hK => ?_) AllReadyH.nil)
        · go_simp
          refine (clone_gr _ cap l _ (by omega) (HSB.out _ hHeld)).mono ?_
          rintro e u1 ⟨⟨A1, c1, rfl, hown0⟩, hk1⟩
          have hKeep := since_step hHeld hk1
          have hown1 := own_base hown0 hHeld.size
          go_wp2_with fail
          refine hK.out _ _ (by (try dsimp only); exact hKeep) (fun hHeld => ?_)
          clear hK K hKeep
          try simp only [Act.put, List.setIfInBounds_toArray, List.set_cons_zero, List.set_cons_succ]
          refine wpAnyH_ready (rs := [3]) (by kernel_rfl) (by simp) ?_
          refine AllReadyH.cons (o := { dst := some 35, op := _, type := _, pos := _, after := _, guard := _ }) rfl (fun K hK => ?_) AllReadyH.nil
          have hHd := hHeld
          obtain ⟨g0, g1, g2, g3, g4, g5⟩ := (HXB.out _ hHd).got
          have hA := since_alloc hHeld (.cells x.cells.toArray 102)
          have hKeep := hA
          have HV := Gr.Bx.new u1 x
          have hown1 := hown1.alloc (.cells x.cells.toArray 102)
          skip
          go_simp
          refine hK.out _ _ (by (try dsimp only); exact hKeep) (fun hHeld => ?_)
          clear hK K hKeep
          try simp only [Act.put, List.setIfInBounds_toArray, List.set_cons_zero, List.set_cons_succ]
          refine wpAnyH_ready (rs := [4]) (by kernel_rfl) (by simp) ?_
          refine AllReadyH.cons (o := { dst := some 36, op := _, type := _, pos := _, after := _, guard := _ }) rfl (fun K hK => ?_) AllReadyH.nil
          refine step_app rfl (.tmp 33) (.tmp 35) rfl EGr (n := l.length) (m := 1) (c := c1) (d := 1) (A := A1) (B := some ⟨u1.heap.size, 0, none⟩) (by simp [Act.eval, Act.put]; done) (by simp [Act.eval, Act.put]; done) hown1 (by rw [Gr.len]) HV.sl (Gr.one x) (by unfold maxLen; omega) (by omega) hHeld.size ?_
          intro A2 c2 u2 hown2 hg2 hb2
          have hKeep := since_step (Below.refl W.heap.size W) (hHeld.trans hb2)
          refine hK.out _ _ (by (try dsimp only); exact hKeep) (fun hHeld => ?_)
          clear hK K hKeep
          try simp only [Act.put, List.setIfInBounds_toArray, List.set_cons_zero, List.set_cons_succ]
          refine wpAnyH_take (i := 7) (oi := { dst := some 4, op := _, type := _, pos := _, after := _, guard := _ }) (v := ?_) rfl (by kernel_rfl) (by kernel_rfl) (by kernel_rfl) (fun _ _ _ h => h) (Or.inl ⟨by rfl, ?_⟩) hHeld ?_
          rotate_left
          · (intro w hSw; obtain ⟨g0, g1, g2, g3, g4, g5⟩ := (HXB.out _ hSw).got; go_simp <;> with_reducible rfl)
          try simp only [Act.put, List.setIfInBounds_toArray, List.set_cons_zero, List.set_cons_succ]
          refine wpAnyH_take (i := 8) (oi := { dst := some 5, op := _, type := _, pos := _, after := _, guard := _ }) (v := ?_) rfl (by kernel_rfl) (by kernel_rfl) (by kernel_rfl) (fun _ _ _ h => h) (Or.inl ⟨by rfl, ?_⟩) hHeld ?_
          rotate_left
          · (intro w hSw; obtain ⟨g0, g1, g2, g3, g4, g5⟩ := (HXB.out _ hSw).got; go_simp <;> with_reducible rfl)
          try simp only [Act.put, List.setIfInBounds_toArray, List.set_cons_zero, List.set_cons_succ]
          refine wpAnyH_take (i := 9) (oi := { dst := some 6, op := _, type := _, pos := _, after := _, guard := _ }) (v := ?_) rfl (by kernel_rfl) (by kernel_rfl) (by kernel_rfl) (fun _ _ _ h => h) (Or.inl ⟨by rfl, ?_⟩) hHeld ?_
          rotate_left
          · (intro w hSw; obtain ⟨g0, g1, g2, g3, g4, g5⟩ := (HXB.out _ hSw).got; go_simp <;> with_reducible rfl)
          try simp only [Act.put, List.setIfInBounds_toArray, List.set_cons_zero, List.set_cons_succ]
          refine wpAnyH_done (by kernel_rfl) ?_ _
          have hB3 := hB2.trans (hHeld.mono hBW)
          go_wp2_with fail
          go_ret3
          refine ⟨?_, hB3⟩
          rw [HR.out]
          refine ⟨A2, c2, ?_, ?_⟩
          · rw [List.length_append, HNX.out]; rfl
          · rw [List.length_append, rc_append]
            have := own_base hown2 hBW
            rw [HXX.out]
            simpa [rc] using this
        · have hHd := hHeld
          obtain ⟨g0, g1, g2, g3, g4, g5⟩ := (HXB.out _ hHd).got
          have hA := since_alloc hHeld (.cells x.cells.toArray 102)
          have hKeep := hA
          have HV := Gr.Bx.new W.drew x
          skip
          go_simp
          refine hK.out _ _ (by (try dsimp only); exact hKeep) (fun hHeld => ?_)
          clear hK K hKeep
          try simp only [Act.put, List.setIfInBounds_toArray, List.set_cons_zero, List.set_cons_succ]
          refine wpAnyH_ready (rs := [1]) (by kernel_rfl) (by simp) ?_
          refine AllReadyH.cons (o := { dst := some 33, op := _, type := _, pos := _, after := _, guard := _ }) rfl (fun K hK => ?_) AllReadyH.nil
          go_simp
          refine (clone_gr _ cap l _ (by omega) (HSB.out _ hHeld)).mono ?_
          rintro e u1 ⟨⟨A1, c1, rfl, hown0⟩, hk1⟩
          have hKeep := since_step hHeld hk1
          have hown1 := own_base hown0 hHeld.size
          have hvb1 := HV.lt
          have HV := HV.below hk1
          go_wp2_with fail
          refine hK.out _ _ (by (try dsimp only); exact hKeep) (fun hHeld => ?_)
          clear hK K hKeep
          try simp only [Act.put, List.setIfInBounds_toArray, List.set_cons_zero, List.set_cons_succ]
          refine wpAnyH_ready (rs := [4]) (by kernel_rfl) (by simp) ?_
          refine AllReadyH.cons (o := { dst := some 36, op := _, type := _, pos := _, after := _, guard := _ }) rfl (fun K hK => ?_) AllReadyH.nil
          refine step_app rfl (.tmp 33) (.tmp 35) rfl EGr (n := l.length) (m := 1) (c := c1) (d := 1) (A := A1) (B := some ⟨W.drew.heap.size, 0, none⟩) (by simp [Act.eval, Act.put]; done) (by simp [Act.eval, Act.put]; done) hown1 (by rw [Gr.len]) HV.sl (Gr.one x) (by unfold maxLen; omega) (by omega) hHeld.size ?_
          intro A2 c2 u2 hown2 hg2 hb2
          have hKeep := since_step (Below.refl W.heap.size W) (hHeld.trans hb2)
          refine hK.out _ _ (by (try dsimp only); exact hKeep) (fun hHeld => ?_)
          clear hK K hKeep
          try simp only [Act.put, List.setIfInBounds_toArray, List.set_cons_zero, List.set_cons_succ]
          refine wpAnyH_take (i := 7) (oi := { dst := some 4, op := _, type := _, pos := _, after := _, guard := _ }) (v := ?_) rfl (by kernel_rfl) (by kernel_rfl) (by kernel_rfl) (fun _ _ _ h => h) (Or.inl ⟨by rfl, ?_⟩) hHeld ?_
          rotate_left
          · (intro w hSw; obtain ⟨g0, g1, g2, g3, g4, g5⟩ := (HXB.out _ hSw).got; go_simp <;> with_reducible rfl)
          try simp only [Act.put, List.setIfInBounds_toArray, List.set_cons_zero, List.set_cons_succ]
          refine wpAnyH_take (i := 8) (oi := { dst := some 5, op := _, type := _, pos := _, after := _, guard := _ }) (v := ?_) rfl (by kernel_rfl) (by kernel_rfl) (by kernel_rfl) (fun _ _ _ h => h) (Or.inl ⟨by rfl, ?_⟩) hHeld ?_
          rotate_left
          · (intro w hSw; obtain ⟨g0, g1, g2, g3, g4, g5⟩ := (HXB.out _ hSw).got; go_simp <;> with_reducible rfl)
          try simp only [Act.put, List.setIfInBounds_toArray, List.set_cons_zero, List.set_cons_succ]
          refine wpAnyH_take (i := 9) (oi := { dst := some 6, op := _, type := _, pos := _, after := _, guard := _ }) (v := ?_) rfl (by kernel_rfl) (by kernel_rfl) (by kernel_rfl) (fun _ _ _ h => h) (Or.inl ⟨by rfl, ?_⟩) hHeld ?_
          rotate_left
          · (intro w hSw; obtain ⟨g0, g1, g2, g3, g4, g5⟩ := (HXB.out _ hSw).got; go_simp <;> with_reducible rfl)
          try simp only [Act.put, List.setIfInBounds_toArray, List.set_cons_zero, List.set_cons_succ]
          refine wpAnyH_done (by kernel_rfl) ?_ _
          have hB3 := hB2.trans (hHeld.mono hBW)
          go_wp2_with fail
          go_ret3
          refine ⟨?_, hB3⟩
          rw [HR.out]
          refine ⟨A2, c2, ?_, ?_⟩
          · rw [List.length_append, HNX.out]; rfl
          · rw [List.length_append, rc_append]
            have := own_base hown2 hBW
            rw [HXX.out]
            simpa [rc] using this

set_option maxHeartbeats 8000000 in
set_option maxRecDepth 100000 in
theorem galloc_any (A : Option Addr) (cap : Nat) (l : List Gr) (id q : Int) (hq : In64 q) (w : World) (hl : l.length ≤ 900000) (hx : ∀ g ∈ l, In64 g.left) (hs : Sl w A (rc Gr.cells l)) :
    Calls Try.prog 71 #[.slice A l.length cap, .int .i64 id, .int .i64 q] w fun e w' => GRes w.heap.size w' e (allocR l id q) ∧ Below w.heap.size w w' := by
  rcases casesG l id with ⟨hh, hat, _⟩ | ⟨k, hk, hh, hat, hf, _⟩
  · have HR : Hid (allocR l id q = (11, [])) := Lib.hid (by rw [allocR, if_neg (by rw [hh]; decide)])
    have HAT := Lib.hid hat
    clear hh hat
    unfold Gr.val at *
    go_enter Try.func71, Try.ntmps71
    go_wp2_with fail
    refine (gof_any id _).mono ?_
    rintro e w1 ⟨⟨fb, rfl, hU⟩, hb1⟩
    have hs1 := hs.below hb1
    clear hs
    go_wp2_with fail
    refine (index_gr A cap l 163 #[.pointer (some ⟨fb, 0, none⟩)] (idG id) _ (by omega) hs1 ent_gof1 (tells_gof1 id fb _ hU)).mono ?_
    rintro e w2 ⟨rfl, hb2⟩
    rw [HAT.out]
    have hB2 := since_step hb1 hb2
    go_wp2_with fail
    go_ret2
    rw [HR.out]
    exact ⟨GRes.nil _ _ _, hB2⟩

  · obtain ⟨v, hv⟩ : ∃ v, l[k] = v := ⟨_, rfl⟩
    have hvl : In64 v.left := by rw [← hv]; exact hx _ (List.getElem_mem hk)
    rw [hv] at hf
    have HS0 : Hid (∀ n, setG l id n = l.set k (leftG v n)) := Lib.hid fun n => by rw [setG, hat, hf]; rfl
    have HAT := Lib.hid hat
    have HV := Lib.hid hv
    have HX := Lib.hid hf
    clear hat hf hv hx
    obtain ⟨vid, vac, vcl, vins, vpr, x⟩ := v
    simp only at hvl
    have hways : (q = 0) ∨ (0 < q ∧ x < 0) ∨ (q < 0 ∧ 0 < x) ∨ (0 < q ∧ 0 ≤ x ∧ x < q) ∨ (q < 0 ∧ x ≤ 0 ∧ q < x) ∨ (0 < q ∧ q ≤ x) ∨ (q < 0 ∧ x ≤ q) := by omega
    rcases hways with hw | hw | hw | hw | hw | hw | hw
    · have HR : Hid (allocR l id q = (2, [])) := Lib.hid (by rw [allocR, if_pos hh, HX.out, if_pos (by simp only [allocBad]; omega)])
      have e0 : (q == 0) = true := by simpa using hw
      clear hw hh hq hvl
      unfold Gr.val at *
      go_enter Try.func71, Try.ntmps71
      go_wp2_with fail
      refine (gof_any id _).mono ?_
      rintro e w1 ⟨⟨fb, rfl, hU⟩, hb1⟩
      have hs1 := hs.below hb1
      clear hs
      go_wp2_with fail
      refine (index_gr A cap l 163 #[.pointer (some ⟨fb, 0, none⟩)] (idG id) _ (by omega) hs1 ent_gof1 (tells_gof1 id fb _ hU)).mono ?_
      rintro e w2 ⟨rfl, hb2⟩
      rw [HAT.out]
      have hB2 := since_step hb1 hb2
      have hs2 := hs1.below hb2
      clear hb1 hb2 hU hs1
      obtain ⟨b, o, rfl, hbw, hg⟩ := hs2.gr hk
      rw [HV.out] at hg
      obtain ⟨g0, g1, g2, g3, g4, g5⟩ := hg
      have hk0 : ¬ ((k : Int) < 0) := by omega
      have hk1 : (0 : Int) ≤ (k : Int) := by omega
      have hk2 : (k : Int) < (l.length : Int) := by omega
      have hcs := @cell_set
      have hBf := since_alloc hB2 (.cells #[.int .i64 vid, .int .i64 vac, .int .i64 vcl, .int .i64 vins, .int .i64 vpr, .int .i64 x] 102)
      go_wp2_with fail
      go_ret2
      rw [HR.out]
      exact ⟨GRes.nil _ _ _, hBf⟩

    · have HR : Hid (allocR l id q = (2, [])) := Lib.hid (by rw [allocR, if_pos hh, HX.out, if_pos (by simp only [allocBad]; omega)])
      have e0 : (q == 0) = false := by simp; omega
      have e1 : 0 < q := hw.1
      have e2 : x < 0 := hw.2
      have e3 : ¬ q < 0 := by omega
      have e4 : ¬ 0 < x := by omega
      clear hw hh hq hvl
      unfold Gr.val at *
      go_enter Try.func71, Try.ntmps71
      go_wp2_with fail
      refine (gof_any id _).mono ?_
      rintro e w1 ⟨⟨fb, rfl, hU⟩, hb1⟩
      have hs1 := hs.below hb1
      clear hs
      go_wp2_with fail
      refine (index_gr A cap l 163 #[.pointer (some ⟨fb, 0, none⟩)] (idG id) _ (by omega) hs1 ent_gof1 (tells_gof1 id fb _ hU)).mono ?_
      rintro e w2 ⟨rfl, hb2⟩
      rw [HAT.out]
      have hB2 := since_step hb1 hb2
      have hs2 := hs1.below hb2
      clear hb1 hb2 hU hs1
      obtain ⟨b, o, rfl, hbw, hg⟩ := hs2.gr hk
      rw [HV.out] at hg
      obtain ⟨g0, g1, g2, g3, g4, g5⟩ := hg
      have hk0 : ¬ ((k : Int) < 0) := by omega
      have hk1 : (0 : Int) ≤ (k : Int) := by omega
      have hk2 : (k : Int) < (l.length : Int) := by omega
      have hcs := @cell_set
      have hBf := since_alloc hB2 (.cells #[.int .i64 vid, .int .i64 vac, .int .i64 vcl, .int .i64 vins, .int .i64 vpr, .int .i64 x] 102)
      go_wp2_with fail
      go_ret2
      rw [HR.out]
      exact ⟨GRes.nil _ _ _, hBf⟩

    · have HR : Hid (allocR l id q = (2, [])) := Lib.hid (by rw [allocR, if_pos hh, HX.out, if_pos (by simp only [allocBad]; omega)])
      have e0 : (q == 0) = false := by simp; omega
      have e1 : ¬ 0 < q := by omega
      have e2 : ¬ x < 0 := by omega
      have e3 : q < 0 := hw.1
      have e4 : 0 < x := hw.2
      clear hw hh hq hvl
      unfold Gr.val at *
      go_enter Try.func71, Try.ntmps71
      go_wp2_with fail
      refine (gof_any id _).mono ?_
      rintro e w1 ⟨⟨fb, rfl, hU⟩, hb1⟩
      have hs1 := hs.below hb1
      clear hs
      go_wp2_with fail
      refine (index_gr A cap l 163 #[.pointer (some ⟨fb, 0, none⟩)] (idG id) _ (by omega) hs1 ent_gof1 (tells_gof1 id fb _ hU)).mono ?_
      rintro e w2 ⟨rfl, hb2⟩
      rw [HAT.out]
      have hB2 := since_step hb1 hb2
      have hs2 := hs1.below hb2
      clear hb1 hb2 hU hs1
      obtain ⟨b, o, rfl, hbw, hg⟩ := hs2.gr hk
      rw [HV.out] at hg
      obtain ⟨g0, g1, g2, g3, g4, g5⟩ := hg
      have hk0 : ¬ ((k : Int) < 0) := by omega
      have hk1 : (0 : Int) ≤ (k : Int) := by omega
      have hk2 : (k : Int) < (l.length : Int) := by omega
      have hcs := @cell_set
      have hBf := since_alloc hB2 (.cells #[.int .i64 vid, .int .i64 vac, .int .i64 vcl, .int .i64 vins, .int .i64 vpr, .int .i64 x] 102)
      go_wp2_with fail
      go_ret2
      rw [HR.out]
      exact ⟨GRes.nil _ _ _, hBf⟩

    · have HR : Hid (allocR l id q = (23, [])) := Lib.hid (by rw [allocR, if_pos hh, HX.out, if_neg (by simp only [allocBad]; omega), if_pos (by simp only [allocHeld]; omega)])
      have e0 : (q == 0) = false := by simp; omega
      have e1 : 0 < q := hw.1
      have e2 : ¬ x < 0 := by omega
      have e3 : ¬ q < 0 := by omega
      have e5 : x < q := by omega
      clear hw hh hq hvl
      unfold Gr.val at *
      go_enter Try.func71, Try.ntmps71
      go_wp2_with fail
      refine (gof_any id _).mono ?_
      rintro e w1 ⟨⟨fb, rfl, hU⟩, hb1⟩
      have hs1 := hs.below hb1
      clear hs
      go_wp2_with fail
      refine (index_gr A cap l 163 #[.pointer (some ⟨fb, 0, none⟩)] (idG id) _ (by omega) hs1 ent_gof1 (tells_gof1 id fb _ hU)).mono ?_
      rintro e w2 ⟨rfl, hb2⟩
      rw [HAT.out]
      have hB2 := since_step hb1 hb2
      have hs2 := hs1.below hb2
      clear hb1 hb2 hU hs1
      obtain ⟨b, o, rfl, hbw, hg⟩ := hs2.gr hk
      rw [HV.out] at hg
      obtain ⟨g0, g1, g2, g3, g4, g5⟩ := hg
      have hk0 : ¬ ((k : Int) < 0) := by omega
      have hk1 : (0 : Int) ≤ (k : Int) := by omega
      have hk2 : (k : Int) < (l.length : Int) := by omega
      have hcs := @cell_set
      have hBf := since_alloc hB2 (.cells #[.int .i64 vid, .int .i64 vac, .int .i64 vcl, .int .i64 vins, .int .i64 vpr, .int .i64 x] 102)
      go_wp2_with fail
      go_ret2
      rw [HR.out]
      exact ⟨GRes.nil _ _ _, hBf⟩

    · have HR : Hid (allocR l id q = (23, [])) := Lib.hid (by rw [allocR, if_pos hh, HX.out, if_neg (by simp only [allocBad]; omega), if_pos (by simp only [allocHeld]; omega)])
      have e0 : (q == 0) = false := by simp; omega
      have e1 : ¬ 0 < q := by omega
      have e3 : q < 0 := hw.1
      have e4 : ¬ 0 < x := by omega
      have e5 : q < x := by omega
      clear hw hh hq hvl
      unfold Gr.val at *
      go_enter Try.func71, Try.ntmps71
      go_wp2_with fail
      refine (gof_any id _).mono ?_
      rintro e w1 ⟨⟨fb, rfl, hU⟩, hb1⟩
      have hs1 := hs.below hb1
      clear hs
      go_wp2_with fail
      refine (index_gr A cap l 163 #[.pointer (some ⟨fb, 0, none⟩)] (idG id) _ (by omega) hs1 ent_gof1 (tells_gof1 id fb _ hU)).mono ?_
      rintro e w2 ⟨rfl, hb2⟩
      rw [HAT.out]
      have hB2 := since_step hb1 hb2
      have hs2 := hs1.below hb2
      clear hb1 hb2 hU hs1
      obtain ⟨b, o, rfl, hbw, hg⟩ := hs2.gr hk
      rw [HV.out] at hg
      obtain ⟨g0, g1, g2, g3, g4, g5⟩ := hg
      have hk0 : ¬ ((k : Int) < 0) := by omega
      have hk1 : (0 : Int) ≤ (k : Int) := by omega
      have hk2 : (k : Int) < (l.length : Int) := by omega
      have hcs := @cell_set
      have hBf := since_alloc hB2 (.cells #[.int .i64 vid, .int .i64 vac, .int .i64 vcl, .int .i64 vins, .int .i64 vpr, .int .i64 x] 102)
      go_wp2_with fail
      go_ret2
      rw [HR.out]
      exact ⟨GRes.nil _ _ _, hBf⟩

    · have HR : Hid (allocR l id q = (0, setG l id (x - q))) := Lib.hid (by rw [allocR, if_pos hh, HX.out, if_neg (by simp only [allocBad]; omega), if_neg (by simp only [allocHeld]; omega)])
      have e0 : (q == 0) = false := by simp; omega
      have e1 : 0 < q := hw.1
      have e2 : ¬ x < 0 := by omega
      have e3 : ¬ q < 0 := by omega
      have e5 : ¬ x < q := by omega
      have e4 : 0 < x := by omega
      have hnw : IntKind.i64.wrap (x - q) = x - q := IntWalk.i64_in _ (by unfold In64 at hq hvl; omega)
      clear hw hh hq hvl
      unfold Gr.val at *
      go_enter Try.func71, Try.ntmps71
      go_wp2_with fail
      refine (gof_any id _).mono ?_
      rintro e w1 ⟨⟨fb, rfl, hU⟩, hb1⟩
      have hs1 := hs.below hb1
      clear hs
      go_wp2_with fail
      refine (index_gr A cap l 163 #[.pointer (some ⟨fb, 0, none⟩)] (idG id) _ (by omega) hs1 ent_gof1 (tells_gof1 id fb _ hU)).mono ?_
      rintro e w2 ⟨rfl, hb2⟩
      rw [HAT.out]
      have hB2 := since_step hb1 hb2
      have hs2 := hs1.below hb2
      clear hb1 hb2 hU hs1
      obtain ⟨b, o, rfl, hbw, hg⟩ := hs2.gr hk
      rw [HV.out] at hg
      obtain ⟨g0, g1, g2, g3, g4, g5⟩ := hg
      have hk0 : ¬ ((k : Int) < 0) := by omega
      have hk1 : (0 : Int) ≤ (k : Int) := by omega
      have hk2 : (k : Int) < (l.length : Int) := by omega
      have hcs := @cell_set
      have hBs := since_alloc hB2 (.cells #[.int .i64 vid, .int .i64 vac, .int .i64 vcl, .int .i64 vins, .int .i64 vpr, .int .i64 (x - q)] 102)
      have hs3 := hs2.alloc (.cells #[.int .i64 vid, .int .i64 vac, .int .i64 vcl, .int .i64 vins, .int .i64 vpr, .int .i64 (x - q)] 102)
      go_wp2_with fail
      have HSE := set_gr (some ⟨b, o, none⟩) cap l k ⟨vid, vac, vcl, vins, vpr, x - q⟩ _ (by omega) hk hs3
      unfold Gr.val at HSE
      simp only at HSE
      refine HSE.mono ?_
      rintro e w3 ⟨⟨A3, c3, rfl, hown⟩, hb3⟩
      have hB3 := since_step hBs hb3
      have hown2 := own_base hown hBs.size
      go_wp2_with fail
      go_ret2
      rw [HR.out, HS0.out]
      refine ⟨⟨A3, c3, ?_, ?_⟩, hB3⟩
      · simp only [List.length_set]; rfl
      · simp only [List.length_set]; exact hown2

    · have HR : Hid (allocR l id q = (0, setG l id (x - q))) := Lib.hid (by rw [allocR, if_pos hh, HX.out, if_neg (by simp only [allocBad]; omega), if_neg (by simp only [allocHeld]; omega)])
      have e0 : (q == 0) = false := by simp; omega
      have e1 : ¬ 0 < q := by omega
      have e2 : x < 0 := by omega
      have e3 : q < 0 := hw.1
      have e4 : ¬ 0 < x := by omega
      have e5 : ¬ q < x := by omega
      have hnw : IntKind.i64.wrap (x - q) = x - q := IntWalk.i64_in _ (by unfold In64 at hq hvl; omega)
      clear hw hh hq hvl
      unfold Gr.val at *
      go_enter Try.func71, Try.ntmps71
      go_wp2_with fail
      refine (gof_any id _).mono ?_
      rintro e w1 ⟨⟨fb, rfl, hU⟩, hb1⟩
      have hs1 := hs.below hb1
      clear hs
      go_wp2_with fail
      refine (index_gr A cap l 163 #[.pointer (some ⟨fb, 0, none⟩)] (idG id) _ (by omega) hs1 ent_gof1 (tells_gof1 id fb _ hU)).mono ?_
      rintro e w2 ⟨rfl, hb2⟩
      rw [HAT.out]
      have hB2 := since_step hb1 hb2
      have hs2 := hs1.below hb2
      clear hb1 hb2 hU hs1
      obtain ⟨b, o, rfl, hbw, hg⟩ := hs2.gr hk
      rw [HV.out] at hg
      obtain ⟨g0, g1, g2, g3, g4, g5⟩ := hg
      have hk0 : ¬ ((k : Int) < 0) := by omega
      have hk1 : (0 : Int) ≤ (k : Int) := by omega
      have hk2 : (k : Int) < (l.length : Int) := by omega
      have hcs := @cell_set
      have hBs := since_alloc hB2 (.cells #[.int .i64 vid, .int .i64 vac, .int .i64 vcl, .int .i64 vins, .int .i64 vpr, .int .i64 (x - q)] 102)
      have hs3 := hs2.alloc (.cells #[.int .i64 vid, .int .i64 vac, .int .i64 vcl, .int .i64 vins, .int .i64 vpr, .int .i64 (x - q)] 102)
      go_wp2_with fail
      have HSE := set_gr (some ⟨b, o, none⟩) cap l k ⟨vid, vac, vcl, vins, vpr, x - q⟩ _ (by omega) hk hs3
      unfold Gr.val at HSE
      simp only at HSE
      refine HSE.mono ?_
      rintro e w3 ⟨⟨A3, c3, rfl, hown⟩, hb3⟩
      have hB3 := since_step hBs hb3
      have hown2 := own_base hown hBs.size
      go_wp2_with fail
      go_ret2
      rw [HR.out, HS0.out]
      refine ⟨⟨A3, c3, ?_, ?_⟩, hB3⟩
      · simp only [List.length_set]; rfl
      · simp only [List.length_set]; exact hown2



set_option maxHeartbeats 8000000 in
set_option maxRecDepth 100000 in
theorem gback_any (A : Option Addr) (cap : Nat) (l : List Gr) (id q : Int) (hq : In64 q) (w : World) (hl : l.length ≤ 900000) (hx : ∀ g ∈ l, In64 g.left) (hs : Sl w A (rc Gr.cells l)) :
    Calls Try.prog 73 #[.slice A l.length cap, .int .i64 id, .int .i64 q] w fun e w' => GRes w.heap.size w' e (backR l id q) ∧ Below w.heap.size w w' := by
  rcases casesG l id with ⟨hh, hat, _⟩ | ⟨k, hk, hh, hat, hf, _⟩
  · have HR : Hid (backR l id q = (11, [])) := Lib.hid (by rw [backR, if_neg (by rw [hh]; decide)])
    have HAT := Lib.hid hat
    clear hh hat
    unfold Gr.val at *
    go_enter Try.func73, Try.ntmps73
    go_wp2_with fail
    refine (gof_any id _).mono ?_
    rintro e w1 ⟨⟨fb, rfl, hU⟩, hb1⟩
    have hs1 := hs.below hb1
    clear hs
    go_wp2_with fail
    refine (index_gr A cap l 163 #[.pointer (some ⟨fb, 0, none⟩)] (idG id) _ (by omega) hs1 ent_gof1 (tells_gof1 id fb _ hU)).mono ?_
    rintro e w2 ⟨rfl, hb2⟩
    rw [HAT.out]
    have hB2 := since_step hb1 hb2
    go_wp2_with fail
    go_ret2
    rw [HR.out]
    exact ⟨GRes.nil _ _ _, hB2⟩

  · obtain ⟨v, hv⟩ : ∃ v, l[k] = v := ⟨_, rfl⟩
    have hvl : In64 v.left := by rw [← hv]; exact hx _ (List.getElem_mem hk)
    rw [hv] at hf
    have HS0 : Hid (∀ n, setG l id n = l.set k (leftG v n)) := Lib.hid fun n => by rw [setG, hat, hf]; rfl
    have HAT := Lib.hid hat
    have HV := Lib.hid hv
    have HX := Lib.hid hf
    clear hat hf hv hx
    obtain ⟨vid, vac, vcl, vins, vpr, x⟩ := v
    simp only at hvl
    by_cases h64 : In64 (x + q)
    · have HF1 : Hid (fV (x + q) = x + q) := Lib.hid (if_pos h64)
      have HF2 : Hid (fE (x + q) = 0) := Lib.hid (if_pos h64)
      have HWI := Lib.hid (fun W => bwithin22 (x + q) W)
      cases hqq : inQ (x + q) with
      | false =>
        have HR : Hid (backR l id q = (7, [])) := Lib.hid (by rw [backR, if_pos hh, HX.out, if_neg (by rw [hqq]; decide)])
        rw [hqq] at HWI
        clear hqq h64 hh
        have hsum : [x, q].sum = x + q := by simp
        have hal : All64 [x, q] := by intro y hy; simp at hy; rcases hy with rfl | rfl <;> assumption
        unfold Gr.val at *
        go_enter Try.func73, Try.ntmps73
        go_wp2_with fail
        refine (gof_any id _).mono ?_
        rintro e w1 ⟨⟨fb, rfl, hU⟩, hb1⟩
        have hs1 := hs.below hb1
        clear hs
        go_wp2_with fail
        refine (index_gr A cap l 163 #[.pointer (some ⟨fb, 0, none⟩)] (idG id) _ (by omega) hs1 ent_gof1 (tells_gof1 id fb _ hU)).mono ?_
        rintro e w2 ⟨rfl, hb2⟩
        rw [HAT.out]
        have hB2 := since_step hb1 hb2
        have hs2 := hs1.below hb2
        clear hb1 hb2 hU hs1
        obtain ⟨b, o, rfl, hbw, hg⟩ := hs2.gr hk
        rw [HV.out] at hg
        obtain ⟨g0, g1, g2, g3, g4, g5⟩ := hg
        have hk0 : ¬ ((k : Int) < 0) := by omega
        have hk1 : (0 : Int) ≤ (k : Int) := by omega
        have hk2 : (k : Int) < (l.length : Int) := by omega
        have hcs := @cell_set
        have hBf := since_alloc hB2 (.cells #[.int .i64 vid, .int .i64 vac, .int .i64 vcl, .int .i64 vins, .int .i64 vpr, .int .i64 x] 102)
        have hs3 := hs2.below (since_alloc (Below.refl w2.heap.size w2) (.cells #[.int .i64 vid, .int .i64 vac, .int .i64 vcl, .int .i64 vins, .int .i64 vpr, .int .i64 x] 102))
        have hV3 := Gr.Bx.new w2 ⟨vid, vac, vcl, vins, vpr, x⟩
        unfold Gr.cells at hV3
        go_wp2_with fail
        have HSL := Sl.new1 w2 (.cells #[.int .i64 vid, .int .i64 vac, .int .i64 vcl, .int .i64 vins, .int .i64 vpr, .int .i64 x] 102) (ints .i64 [x, q]) 2
        refine (fsum_any _ 2 [x, q] _ (by simp) hal HSL).mono ?_
        rw [hsum]
        rintro e w4 ⟨rfl, hb4⟩
        have hA4 := since_step (since_alloc (Below.refl _ _) _) hb4
        have hB4 := since_step hBf hA4
        have hs4 := hs3.below hA4
        have hV4 := hV3.below hA4
        obtain ⟨x0, x1, x2, x3, x4, x5⟩ := hV4.got
        have hl4 := hV4.lt
        have hfz4 : w4.frozen? ⟨w2.heap.size, 5, none⟩ = false := (hA4.frozen (p := ⟨w2.heap.size, 5, none⟩) (by simp)).trans (by simp)
        clear g0 g1 g2 g3 g4 g5
        rw [HF1.out, HF2.out]
        go_wp2_with fail
        refine (HWI.out _).mono ?_
        rintro e w5 ⟨rfl, rfl⟩
        go_wp2_with fail
        go_ret2
        rw [HR.out]
        exact ⟨GRes.nil _ _ _, hB4⟩

      | true =>
        have HR : Hid (backR l id q = (0, setG l id (x + q))) := Lib.hid (by rw [backR, if_pos hh, HX.out, if_pos hqq])
        rw [hqq] at HWI
        clear hqq h64 hh
        have hsum : [x, q].sum = x + q := by simp
        have hal : All64 [x, q] := by intro y hy; simp at hy; rcases hy with rfl | rfl <;> assumption
        unfold Gr.val at *
        go_enter Try.func73, Try.ntmps73
        go_wp2_with fail
        refine (gof_any id _).mono ?_
        rintro e w1 ⟨⟨fb, rfl, hU⟩, hb1⟩
        have hs1 := hs.below hb1
        clear hs
        go_wp2_with fail
        refine (index_gr A cap l 163 #[.pointer (some ⟨fb, 0, none⟩)] (idG id) _ (by omega) hs1 ent_gof1 (tells_gof1 id fb _ hU)).mono ?_
        rintro e w2 ⟨rfl, hb2⟩
        rw [HAT.out]
        have hB2 := since_step hb1 hb2
        have hs2 := hs1.below hb2
        clear hb1 hb2 hU hs1
        obtain ⟨b, o, rfl, hbw, hg⟩ := hs2.gr hk
        rw [HV.out] at hg
        obtain ⟨g0, g1, g2, g3, g4, g5⟩ := hg
        have hk0 : ¬ ((k : Int) < 0) := by omega
        have hk1 : (0 : Int) ≤ (k : Int) := by omega
        have hk2 : (k : Int) < (l.length : Int) := by omega
        have hcs := @cell_set
        have hBf := since_alloc hB2 (.cells #[.int .i64 vid, .int .i64 vac, .int .i64 vcl, .int .i64 vins, .int .i64 vpr, .int .i64 x] 102)
        have hs3 := hs2.below (since_alloc (Below.refl w2.heap.size w2) (.cells #[.int .i64 vid, .int .i64 vac, .int .i64 vcl, .int .i64 vins, .int .i64 vpr, .int .i64 x] 102))
        have hV3 := Gr.Bx.new w2 ⟨vid, vac, vcl, vins, vpr, x⟩
        unfold Gr.cells at hV3
        go_wp2_with fail
        have HSL := Sl.new1 w2 (.cells #[.int .i64 vid, .int .i64 vac, .int .i64 vcl, .int .i64 vins, .int .i64 vpr, .int .i64 x] 102) (ints .i64 [x, q]) 2
        refine (fsum_any _ 2 [x, q] _ (by simp) hal HSL).mono ?_
        rw [hsum]
        rintro e w4 ⟨rfl, hb4⟩
        have hA4 := since_step (since_alloc (Below.refl _ _) _) hb4
        have hB4 := since_step hBf hA4
        have hs4 := hs3.below hA4
        have hV4 := hV3.below hA4
        obtain ⟨x0, x1, x2, x3, x4, x5⟩ := hV4.got
        have hl4 := hV4.lt
        have hfz4 : w4.frozen? ⟨w2.heap.size, 5, none⟩ = false := (hA4.frozen (p := ⟨w2.heap.size, 5, none⟩) (by simp)).trans (by simp)
        clear g0 g1 g2 g3 g4 g5
        rw [HF1.out, HF2.out]
        go_wp2_with fail
        refine (HWI.out _).mono ?_
        rintro e w5 ⟨rfl, rfl⟩
        have hBs := Below.setCell hB4 (p := ⟨w2.heap.size, 5, none⟩) hB2.size (.int .i64 (x + q))
        have hs5 := hs2.below ((Below.setCell ((since_alloc (Below.refl w2.heap.size w2) _).trans (hA4.mono (by simp))) (p := ⟨w2.heap.size, 5, none⟩) (Nat.le_refl _) (.int .i64 (x + q))))
        go_wp2_with fail
        have HSE := set_gr (some ⟨b, o, none⟩) cap l k ⟨vid, vac, vcl, vins, vpr, x + q⟩ _ (by omega) hk hs5
        unfold Gr.val at HSE
        simp only at HSE
        refine HSE.mono ?_
        rintro e w6 ⟨⟨A3, c3, rfl, hown⟩, hb6⟩
        have hB6 := since_step hBs hb6
        have hown2 := own_base hown hBs.size
        go_wp2_with fail
        go_ret2
        rw [HR.out, HS0.out]
        refine ⟨⟨A3, c3, ?_, ?_⟩, hB6⟩
        · simp only [List.length_set]; rfl
        · simp only [List.length_set]; exact hown2

    · have HF1 : Hid (fV (x + q) = 0) := Lib.hid (if_neg h64)
      have HF2 : Hid (fE (x + q) = 7) := Lib.hid (if_neg h64)
      have HR : Hid (backR l id q = (7, [])) := Lib.hid (by rw [backR, if_pos hh, HX.out, if_neg (by unfold inQ; unfold In64 at h64; simp; omega)])
      clear h64 hh
      have hsum : [x, q].sum = x + q := by simp
      have hal : All64 [x, q] := by intro y hy; simp at hy; rcases hy with rfl | rfl <;> assumption
      unfold Gr.val at *
      go_enter Try.func73, Try.ntmps73
      go_wp2_with fail
      refine (gof_any id _).mono ?_
      rintro e w1 ⟨⟨fb, rfl, hU⟩, hb1⟩
      have hs1 := hs.below hb1
      clear hs
      go_wp2_with fail
      refine (index_gr A cap l 163 #[.pointer (some ⟨fb, 0, none⟩)] (idG id) _ (by omega) hs1 ent_gof1 (tells_gof1 id fb _ hU)).mono ?_
      rintro e w2 ⟨rfl, hb2⟩
      rw [HAT.out]
      have hB2 := since_step hb1 hb2
      have hs2 := hs1.below hb2
      clear hb1 hb2 hU hs1
      obtain ⟨b, o, rfl, hbw, hg⟩ := hs2.gr hk
      rw [HV.out] at hg
      obtain ⟨g0, g1, g2, g3, g4, g5⟩ := hg
      have hk0 : ¬ ((k : Int) < 0) := by omega
      have hk1 : (0 : Int) ≤ (k : Int) := by omega
      have hk2 : (k : Int) < (l.length : Int) := by omega
      have hcs := @cell_set
      have hBf := since_alloc hB2 (.cells #[.int .i64 vid, .int .i64 vac, .int .i64 vcl, .int .i64 vins, .int .i64 vpr, .int .i64 x] 102)
      have hs3 := hs2.below (since_alloc (Below.refl w2.heap.size w2) (.cells #[.int .i64 vid, .int .i64 vac, .int .i64 vcl, .int .i64 vins, .int .i64 vpr, .int .i64 x] 102))
      have hV3 := Gr.Bx.new w2 ⟨vid, vac, vcl, vins, vpr, x⟩
      unfold Gr.cells at hV3
      go_wp2_with fail
      have HSL := Sl.new1 w2 (.cells #[.int .i64 vid, .int .i64 vac, .int .i64 vcl, .int .i64 vins, .int .i64 vpr, .int .i64 x] 102) (ints .i64 [x, q]) 2
      refine (fsum_any _ 2 [x, q] _ (by simp) hal HSL).mono ?_
      rw [hsum]
      rintro e w4 ⟨rfl, hb4⟩
      have hA4 := since_step (since_alloc (Below.refl _ _) _) hb4
      have hB4 := since_step hBf hA4
      have hs4 := hs3.below hA4
      have hV4 := hV3.below hA4
      obtain ⟨x0, x1, x2, x3, x4, x5⟩ := hV4.got
      have hl4 := hV4.lt
      have hfz4 : w4.frozen? ⟨w2.heap.size, 5, none⟩ = false := (hA4.frozen (p := ⟨w2.heap.size, 5, none⟩) (by simp)).trans (by simp)
      clear g0 g1 g2 g3 g4 g5
      rw [HF1.out, HF2.out]
      go_wp2_with fail
      go_ret2
      rw [HR.out]
      exact ⟨GRes.nil _ _ _, hB4⟩


end Go.Proofs.Ytpnaihnmmnjacaa
