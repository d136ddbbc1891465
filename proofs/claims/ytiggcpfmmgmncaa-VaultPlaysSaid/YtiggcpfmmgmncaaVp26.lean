import Derived.StillTailTactics
import Derived.Test.YtiggcpfmmgmncaaVp25
set_option maxHeartbeats 16000000
set_option maxRecDepth 100000
set_option linter.unusedVariables false
set_option linter.unusedSimpArgs false
namespace Go.Proofs.Ytiggcpfmmgmncaa
open Go.ChangeShapes Go.WideShapes Go.ChangeAt Go.RowKit
section
theorem own_setS {w : World} {W b k n c : Nat} {R : List (RowS Nat)} (h : w.ownsRow W 36 1 (.slice (some ⟨b, 0, none⟩) n c) n (rc RowS.cells R)) (r : RowS Nat) (hk : k < R.length) :
    (w.setCell ⟨b, k, none⟩ (.slice r.A r.l.length r.c)).ownsRow W 36 1 (.slice (some ⟨b, 0, none⟩) n c) n (rc RowS.cells (R.set k r)) := by
  have hone : ∀ R : List (RowS Nat), rc RowS.cells R = R.map (fun r => Value.slice r.A r.l.length r.c) := fun R => by
    induction R with
    | nil => rfl
    | cons a R ih => rw [List.map_cons, ← ih]; rfl
  obtain ⟨h1, h2⟩ := h
  rw [hone] at h1 h2 ⊢
  refine ⟨by simpa using h1, .inr ?_⟩
  rcases h2 with ⟨e, _⟩ | ⟨g, cap, cur, e, hbg, hg, hnc, hcm, hcs, ht⟩
  · cases e
  · injection e with e1 e2 e3
    injection e1 with e1
    injection e1 with e1
    subst e1; subst e3
    refine ⟨b, c, cur.set! k (.slice r.A r.l.length r.c), rfl, hbg, ?_, hnc, hcm, by simpa using hcs, ?_⟩
    · rw [setCell_eq_setRow w b k _ 36 (0, 0) _ hg]
      have := setRow_heap w b _ (cur.set! k (.slice r.A r.l.length r.c)) 36 (0, 0) hg
      simpa using this
    · have h3 := ht
      rw [List.map_set]
      have hl : (R.map (fun r => Value.slice r.A r.l.length r.c)).length = R.length := by simp
      simp only [Array.set!_eq_setIfInBounds, Array.toList_setIfInBounds] at *
      rw [List.take_set, h3]
structure Rv where
  C : List (List Nat)
  off : Bool
  fuse : Int
  keep : List Nt
  writes : Int
def Rv.cells (x : Rv) (A : Option Addr) (c : Nat) (KA : Option Addr) (kc : Nat) : Array Value := #[.slice A x.C.length c, .bool x.off, .int .i64 x.fuse, .slice KA x.keep.length kc, .int .i64 x.writes]
structure RvA (B : Nat) (w : World) (b : Nat) (A : Option Addr) (c : Nat) (R : List (RowS Nat)) (KA : Option Addr) (kc : Nat) (x : Rv) : Prop where
  blk : w.heap[b]? = some (.cells (x.cells A c KA kc) 49 (0, 0))
  own : w.ownsRow B 36 1 (.slice A x.C.length c) x.C.length (rc RowS.cells R)
  rows : OwnR B w R
  kp : w.ownsRow B 3 1 (.slice KA x.keep.length kc) x.keep.length (rc Nt.cells x.keep)
  map : R.map RowS.l = x.C
  ge : B ≤ b
  s96 : ∀ s ∈ x.C, s.length = 96
  oct : ∀ s ∈ x.C, Oct s
  small : x.C.length ≤ 2048 ∧ x.keep.length ≤ 1000000
section
variable {B b c kc : Nat} {A KA : Option Addr} {R : List (RowS Nat)} {x : Rv}
theorem RvA.lt {w : World} (h : RvA B w b A c R KA kc x) : b < w.heap.size := (Array.getElem?_eq_some_iff.1 h.blk).1
theorem RvA.below {w w' : World} (h : RvA B w b A c R KA kc x) (hb : Below w.heap.size w w') : RvA B w' b A c R KA kc x :=
  ⟨by rw [hb.block b h.lt]; exact h.blk, own_below h.own hb, h.rows.below hb, own_below h.kp hb, h.map, h.ge, h.s96, h.oct, h.small⟩
theorem RvA.got {w : World} (h : RvA B w b A c R KA kc x) : w.cell? ⟨b, 0, none⟩ = some (.slice A x.C.length c) ∧ w.cell? ⟨b, 1, none⟩ = some (.bool x.off) ∧ w.cell? ⟨b, 2, none⟩ = some (.int .i64 x.fuse) ∧ w.cell? ⟨b, 3, none⟩ = some (.slice KA x.keep.length kc) ∧ w.cell? ⟨b, 4, none⟩ = some (.int .i64 x.writes) ∧ b < w.heap.size := by
  have e : ∀ i, w.cell? ⟨b, i, none⟩ = (x.cells A c KA kc)[i]? := fun i => by simp [World.cell?, h.blk]
  exact ⟨e 0, e 1, e 2, e 3, e 4, h.lt⟩
theorem RvA.fz {w : World} (h : RvA B w b A c R KA kc x) (i : Nat) : w.frozen? ⟨b, i, none⟩ = false := by simp [World.frozen?, h.blk]
theorem RvA.off {w : World} (h : RvA B w b A c R KA kc x) {base e size n : Nat} {v : Value} {xs : List Value} (ho : w.ownsRow base e size v n xs) (h1 : e ≠ 49) : v.ownBlock ≠ some b := own_type ho h.blk h1
theorem RvA.sl {w : World} (h : RvA B w b A c R KA kc x) : Sl w A (rc RowS.cells R) := Sl.of_own h.own
theorem RvA.sec {w : World} (h : RvA B w b A c R KA kc x) {k : Nat} (hk : k < x.C.length) : ∃ (g o : Nat) (r : RowS Nat), A = some ⟨g, o, none⟩ ∧ g < w.heap.size ∧ w.cell? ⟨g, o + k, none⟩ = some (.slice r.A 96 r.c) ∧ r.l = x.C[k] ∧ Sl w r.A (by8 r.l) ∧ Oct r.l ∧ r.l.length = 96 ∧ 96 ≤ r.c ∧ r.c ≤ maxLen := by
  have hkR : k < R.length := by rw [← List.length_map (f := RowS.l), h.map]; exact hk
  obtain ⟨g, o, hA, hg, hc⟩ := h.sl.rowS hkR
  have hl : R[k].l = x.C[k] := by
    have := h.map
    simp only [← this, List.getElem_map]
  have h96 : R[k].l.length = 96 := by rw [hl]; exact h.s96 _ (List.getElem_mem hk)
  refine ⟨g, o, R[k], hA, hg, by rw [hc, h96], hl, Sl.of_own (h.rows _ (List.getElem_mem hkR)), by rw [hl]; exact h.oct _ (List.getElem_mem hk), h96, ?_⟩
  rcases (h.rows _ (List.getElem_mem hkR)).2 with ⟨hv, hn⟩ | ⟨g2, cap, cur, hv, hbg, hh, hnc, hcm, hcs, ht⟩
  · rw [h96] at hn; cases hn
  · injection hv with h1 h2 h3
    rw [h3]
    rw [h96] at hnc
    exact ⟨hnc, hcm⟩
theorem RvA.set {w : World} (h : RvA B w b A c R KA kc x) (i : Nat) (u : Value) {y : Rv} (hC : y.C = x.C) (hk : y.keep = x.keep) (hc : (x.cells A c KA kc).setIfInBounds i u = y.cells A c KA kc) : RvA B (w.setCell ⟨b, i, none⟩ u) b A c R KA kc y := by
  refine ⟨?_, ?_, ?_, ?_, ?_, h.ge, ?_, ?_, ?_⟩
  · have := set_blk (i := i) u h.blk
    rw [hc] at this
    exact this
  · rw [hC]; exact own_far1 h.own (p := ⟨b, i, none⟩) (h.off h.own (by decide)) _
  · exact fun r hr => own_far1 (h.rows r hr) (p := ⟨b, i, none⟩) (h.off (h.rows r hr) (by decide)) _
  · rw [hk]; exact own_far1 h.kp (p := ⟨b, i, none⟩) (h.off h.kp (by decide)) _
  · rw [hC]; exact h.map
  · rw [hC]; exact h.s96
  · rw [hC]; exact h.oct
  · rw [hC, hk]; exact h.small
end
def blkR (b : Nat) (A : Option Addr) (n c : Nat) : List Nat := b :: (Value.slice A n c).ownBlock.toList
theorem rhas_any (A : Option Addr) (c : Nat) (l : List Nt) (n : Int) (w : World) (hl : l.length ≤ 1000000) (hs : Sl w A (rc Nt.cells l)) :
    Calls Try.prog 84 #[.slice A l.length c, .int .i64 n] w fun e w' => e = .returned (.bool (inL n l)) ∧ Below w.heap.size w w' := by
  go_enter Try.func84, Try.ntmps84
  go_wp2_with fail
  go_loopw [5] (fun i wr => ∃ k : Nat, k ≤ l.length ∧ i = .int .i64 k ∧ Hid (inL n l = inL n (l.drop k)) ∧ Below w.heap.size w wr) (fun i _ => l.length - (intOf i).toNat)
  case atStart => exact ⟨0, Nat.zero_le _, rfl, rfl, Below.refl _ _⟩
  case round =>
    obtain ⟨k, hk, rfl, HI, hB⟩ := hrel
    by_cases hlt : k < l.length
    · have hlk : (k : Int) < (l.length : Int) := by omega
      have hgk : (0 : Int) ≤ (k : Int) := by omega
      obtain ⟨g, o, rfl, hgw, hc⟩ := Sl.elem (m := 1) Nt.len (by decide) hs hlt
      have hc0 := hc 0 _ rfl
      simp only [Nat.mul_one, Nat.add_zero] at hc0
      have hcr := (hB.cell (p := ⟨g, o + k, none⟩) hgw).trans hc0
      have hgr : g < wr.heap.size := Nat.lt_of_lt_of_le hgw hB.size
      have hdr : l.drop k = l[k] :: l.drop (k + 1) := List.drop_eq_getElem_cons hlt
      have HDR := Lib.hid hdr
      obtain ⟨x, hx⟩ : ∃ x, l[k] = x := ⟨_, rfl⟩
      rw [hx] at hcr HDR
      obtain ⟨z⟩ := x
      clear hdr hc0 hc hx
      by_cases hz : z = n
      · have HZ := Lib.hid hz
        have hzb : (z == n) = true := by simpa using hz
        clear hz
        go_wp2_with fail
        go_ret
        refine ⟨?_, hB⟩
        rw [HI.out, HDR.out]
        have h9 : (n == z) = true := by simpa using HZ.out.symm
        rw [show inL n (({ n := z } : Nt) :: l.drop (k + 1)) = true from by show (((n == z) || inL n (l.drop (k + 1))) : Bool) = _; rw [h9]; rfl]
        rfl
      · have HZ := Lib.hid hz
        have hzb : (z == n) = false := by simpa using hz
        have HI2 : Hid (inL n l = inL n (l.drop (k + 1))) := Lib.hid (by
          rw [HI.out, HDR.out]
          have h9 : (n == z) = false := by simpa using fun h => hz (Eq.symm h)
          show (((n == z) || inL n (l.drop (k + 1))) : Bool) = _
          rw [h9]; rfl)
        clear hz
        go_wp2_with fail
        go_roundw
        case rel => exact ⟨k + 1, by omega, by go_num, HI2, hB⟩
        case measure => simp [intOf]; omega
    · obtain rfl : k = l.length := by omega
      have hlk : ¬ ((l.length : Int) < (l.length : Int)) := by omega
      go_wp2_with fail
      go_ret
      refine ⟨?_, hB⟩
      rw [HI.out, List.drop_length]
      rfl
theorem box_cells' {w : World} {h : Nat} {cs : Array Value} {T : TypeId} (hh : w.heap[h]? = some (.cells cs T (0, 0))) (i : Nat) : w.cell? ⟨h, i, none⟩ = cs[i]? ∧ w.frozen? ⟨h, i, none⟩ = false ∧ h < w.heap.size :=
  ⟨by simp [World.cell?, hh], by simp [World.frozen?, hh], (Array.getElem?_eq_some_iff.1 hh).1⟩
def Rv.new (n : Nat) : Rv := ⟨List.replicate n (List.replicate 96 0), false, -1, [], 0⟩
theorem rnew6_any (n : Nat) (w : World) (hn : n ≤ 1000) :
    Calls Try.prog 14 #[.int .i64 n] w fun e w' => ∃ b A c R, e = .returned (.pointer (some ⟨b, 0, none⟩)) ∧ RvA w.heap.size w' b A c R none 0 (Rv.new n) ∧ Below w.heap.size w w' := by
  go_enter Try.func14, Try.ntmps14
  go_wp2_with fail
  have h0 : RvA w.heap.size (w.alloc (.cells #[.slice none 0 0, .bool false, .int .i64 (-1), .slice none 0 0, .int .i64 0] 49)) w.heap.size none 0 [] none 0 (Rv.new 0) := by
    refine ⟨by rw [heap_alloc_new]; rfl, own_nil _ _ _, (fun r hr => by cases hr), own_nil _ _ _, rfl, Nat.le_refl _, (fun s hs => by cases hs), (fun s hs => by cases hs), Nat.zero_le _, Nat.zero_le _⟩
  go_loopw [4] (fun iv wr => ∃ (k : Nat) (A : Option Addr) (c : Nat) (R : List (RowS Nat)), k ≤ n ∧ iv = .int .i64 k ∧ Hid (RvA w.heap.size wr w.heap.size A c R none 0 (Rv.new k)) ∧ Below w.heap.size w wr) (fun iv _ => n - (intOf iv).toNat)
  case atStart => exact ⟨0, none, 0, [], Nat.zero_le _, rfl, h0, since_alloc (Below.refl _ _) _⟩
  case round =>
    clear h0
    obtain ⟨k, A, c, R, hk, rfl, HR, hB⟩ := hrel
    by_cases hlt : k < n
    · have hlk : (k : Int) < (n : Int) := by omega
      obtain ⟨p0, p1, p2, p3, p4, ps⟩ := HR.out.got
      have hlen : (Rv.new k).C.length = k := by simp [Rv.new]
      rw [hlen] at p0
      have HLEN := Lib.hid hlen
      clear hlen
      go_wp2_with (first
        | (at_make; refine wpList_z8 rfl (.const (.int .i64 96)) (.const (.int .i64 96)) rfl 96 rfl rfl rfl rfl (by omega) (Nat.le_refl _) ?_; intro w3 own3 hb3)
        | (at_builtin; refine wpList_app rfl (.tmp 18) (.tmp 20) rfl EDR rfl rfl (base := w.heap.size) (n := k) (xs := rc RowS.cells R) (by have h := (own_below HR.out.own hb3).alloc (.cells #[.slice (some ⟨wr.heap.size, 0, none⟩) 96 96] 36); rw [HLEN.out] at h; exact h) (m := 1) (news := [.slice (some ⟨wr.heap.size, 0, none⟩) 96 96]) rfl (Sl.new_ _ _ _) (fun u hu => by simp only [List.mem_cons, List.not_mem_nil, or_false] at hu; subst hu; rfl) (by unfold maxLen; omega) (by omega) (by simp only [World.size_alloc]; have := hB.size; have := hb3.size; omega) ?_; intro A5 c5 w5 own5 hg5 hb5; have hbx : w5.heap[w.heap.size]? = some (.cells ((Rv.new k).cells A c none 0) 49 (0, 0)) := (ChgL.of_grown (l := (Value.slice A k c).ownBlock.toList) hg5 (fun y hy => by rw [hy]; simp)).block w.heap.size (Nat.lt_of_lt_of_le HR.out.lt (Nat.le_trans hb3.size (by simp))) (fun hm => by have h9 := own_type (HR.out.own) HR.out.blk (by decide); rw [HLEN.out] at h9; exact h9 (Option.mem_def.1 (Option.mem_toList.1 hm))) |>.trans (((HR.out.below hb3).below (since_alloc (Below.refl _ _) _)).blk); have c0 : w5.cell? ⟨w.heap.size, 0, none⟩ = some (.slice A k c) := by { rw [(box_cells' hbx 0).1]; simp [Rv.cells, HLEN.out] }; have f0 := (box_cells' hbx 0).2.1; have l0 := (box_cells' hbx 0).2.2)
        | fail)
      have hz : Below wr.heap.size wr (w3.alloc (.cells #[.slice (some ⟨wr.heap.size, 0, none⟩) 96 96] 36)) := since_alloc hb3 _
      have hr4 := HR.out.below hz
      have hrow4 : (w3.alloc (.cells #[.slice (some ⟨wr.heap.size, 0, none⟩) 96 96] 36)).ownsRow w.heap.size 36 1 (.slice A k c) k (rc RowS.cells R) := by have h := hr4.own; rw [HLEN.out] at h; exact h
      have key : ∀ (v : Value) (n : Nat) (xs : List Value), (w3.alloc (.cells #[.slice (some ⟨wr.heap.size, 0, none⟩) 96 96] 36)).ownsRow w.heap.size 5 1 v n xs → w5.ownsRow w.heap.size 5 1 v n xs := fun v n xs h => own_kept_types (by decide) h hrow4 hg5
      have hnew : w5.ownsRow w.heap.size 5 1 (.slice (some ⟨wr.heap.size, 0, none⟩) 96 96) 96 (by8 (List.replicate 96 0)) := key _ _ _ ((own_base own3 hB.size).alloc _)
      have hRv : RvA w.heap.size (w5.setCell ⟨w.heap.size, 0, none⟩ (.slice A5 (k + 1) c5)) w.heap.size A5 c5 (R ++ [⟨some ⟨wr.heap.size, 0, none⟩, 96, List.replicate 96 0⟩]) none 0 (Rv.new (k + 1)) := by
        have hl1 : (Rv.new (k + 1)).C.length = k + 1 := by simp [Rv.new]
        have hbo : ∀ (e : TypeId) (n : Nat) (v : Value) (xs : List Value), w5.ownsRow w.heap.size e 1 v n xs → e ≠ 49 → v.ownBlock ≠ some w.heap.size := fun e n v xs h he => own_type h hbx he
        refine ⟨?_, ?_, ?_, own_nil _ _ _, ?_, Nat.le_refl _, ?_, ?_, by rw [hl1]; omega, Nat.zero_le _⟩
        · have e1 := set_blk (i := 0) (.slice A5 (k + 1) c5) hbx
          rw [e1]
          congr 1
          simp [Rv.cells, Rv.new]
        · rw [hl1]
          have e1 : rc RowS.cells (R ++ [(⟨some ⟨wr.heap.size, 0, none⟩, 96, List.replicate 96 0⟩ : RowS Nat)]) = rc RowS.cells R ++ [.slice (some ⟨wr.heap.size, 0, none⟩) 96 96] := by
            rw [rc_append]
            show rc RowS.cells R ++ [.slice (some ⟨wr.heap.size, 0, none⟩) (List.replicate 96 0).length 96] = _
            rw [List.length_replicate]
          rw [e1]
          exact own_far1 own5 (p := ⟨w.heap.size, 0, none⟩) (hbo _ _ _ _ own5 (by decide)) _
        · intro r hr
          rcases List.mem_append.1 hr with h | h
          · have h2 := key _ _ _ (hr4.rows r h)
            exact own_far1 h2 (p := ⟨w.heap.size, 0, none⟩) (hbo _ _ _ _ h2 (by decide)) _
          · rw [List.mem_singleton] at h
            subst h
            have h2 := own_far1 hnew (p := ⟨w.heap.size, 0, none⟩) (hbo _ _ _ _ hnew (by decide)) (.slice A5 (k + 1) c5)
            simpa using h2
        · rw [List.map_append, HR.out.map]
          simp [Rv.new, List.replicate_succ']
        · intro s hs
          rw [List.eq_of_mem_replicate hs]; simp
        · intro s hs
          rw [List.eq_of_mem_replicate hs]; exact Oct.rep
      have HRV := Lib.hid hRv
      have hB5 : Below w.heap.size w (w5.setCell ⟨w.heap.size, 0, none⟩ (.slice A5 (k + 1) c5)) := by
        have h1 : Below w.heap.size w w5 := (hB.trans (hz.mono hB.size)).trans (hb5.mono (Nat.le_refl _))
        exact h1.setCell (Nat.le_refl _) _
      clear hRv hnew key hrow4 hr4 hz hg5 hb5 own5 own3 hb3 hbx c0 f0 l0
      go_roundw
      case rel => exact ⟨k + 1, A5, c5, _, by omega, by go_num, HRV, hB5⟩
      case measure => simp [intOf]; omega
    · obtain rfl : k = n := by omega
      have hlk : ¬ ((k : Int) < (k : Int)) := by omega
      go_wp2_with fail
      go_ret
      exact ⟨_, rfl, ⟨A, c, R, HR.out⟩, hB⟩
end
end Go.Proofs.Ytiggcpfmmgmncaa
