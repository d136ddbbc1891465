import Derived.Test.YtpmnjojednbnpaaGreatDoorWf07
set_option maxHeartbeats 16000000
set_option maxRecDepth 100000
set_option linter.unusedVariables false
set_option linter.unusedSimpArgs false
namespace Go.Proofs.YtpmnjojednbnpaaGreatDoor
open Go.ChangeShapes Go.WideShapes Go.ChangeAt Go.RowKit
section
def ob (A : Option Addr) (bs : List Nat) (c : Nat) : Option Nat := (Value.slice A bs.length c).ownBlock
structure Wt (W g : Nat) (RW : Option Nat) (A : Option Addr) (c : Nat) (bs : List Nat) (w w' : World) : Prop where
  s : WrS W w' g A c bs
  chg : Chg g RW w w'
  row : ob A bs c = RW ∨ ∃ r, ob A bs c = some r ∧ w.heap.size ≤ r
section
variable {W g : Nat} {RW : Option Nat} {A A2 : Option Addr} {c c2 : Nat} {bs bs2 : List Nat} {w w' w2 : World}
theorem Wt.refl (h : WrS W w g A c bs) : Wt W g (ob A bs c) A c bs w w := ⟨h, Chg.refl _ _ _, .inl rfl⟩
theorem Wt.trans (h : Wt W g RW A c bs w w') (k : Wt W g (ob A bs c) A2 c2 bs2 w' w2) : Wt W g RW A2 c2 bs2 w w2 :=
 ⟨k.s, h.chg.trans k.chg h.row, by
  rcases k.row with e | ⟨r, e, hr⟩
  ·rcases h.row with e1 | ⟨r, e1, hr⟩
   ·exact .inl (e.trans e1)
   ·exact .inr ⟨r, e.trans e1, hr⟩
  ·exact .inr ⟨r, e, Nat.le_trans h.chg.size hr⟩⟩
theorem Wt.below (h : Wt W g RW A c bs w w') (hb : Below w'.heap.size w' w2) : Wt W g RW A c bs w w2 :=
 ⟨h.s.below hb, h.chg.trans (Chg.of_below hb) h.row, h.row⟩
theorem WrS.keep (h : WrS W w g A c bs) (hC : Chg g (ob A bs c) w w') {k : Nat} {o : Obj} (hk : w.heap[k]? = some o) (hne : ∀ cs t f, o = .cells cs t f → t ≠ 217 ∧ t ≠ 5) : w'.heap[k]? = some o := by
 rw [hC.block k (Array.getElem?_eq_some_iff.1 hk).1]
 ·exact hk
 ·intro e;subst e;rw [h.wr.blk] at hk;injection hk with hk;exact (hne _ _ _ hk.symm).1 rfl
 ·intro e
  rcases h.wr.own.2 with hn | ⟨g1, cap, cur, hv, hb, hg1, _⟩
  ·unfold ob at e;rw [hn.1] at e;simp [Value.ownBlock] at e
  ·unfold ob at e;rw [hv] at e;simp only [Value.ownBlock] at e;injection e with e;subst e;rw [hg1] at hk;injection hk with hk;exact (hne _ _ _ hk.symm).2 rfl
theorem WrS.old (h : WrS W w g A c bs) (hW : W ≤ w.heap.size) (hC : Chg g (ob A bs c) w w') : Below W w w' := hC.below hW h.ge h.row
theorem WrS.keepC {b : Nat} {z : List Int} {v : Value} (h : WrS W w g A c bs) (hC : Chg g (ob A bs c) w w') (hB : CB w b z v) : CB w' b z v :=
 ⟨h.keep hC hB.blk (fun cs t f e => by injection e with _ e2 _; subst e2; decide), hB.len⟩
theorem WrS.keepI {IT : Nat} {s : ByteArray} {k : Nat} (h : WrS W w g A c bs) (hC : Chg g (ob A bs c) w w') (hI : w.heap[IT]? = some (.stringIter s k)) : w'.heap[IT]? = some (.stringIter s k) :=
 h.keep hC hI (fun cs t f e => by cases e)
theorem WrS.iterAt {IT : Nat} {s : ByteArray} {k : Nat} (h : WrS W w g A c bs) (hI : w.heap[IT]? = some (.stringIter s k)) (k2 : Nat) : WrS W (w.iterAt IT s k2) g A c bs := by
 have hg : g ≠ IT := fun e => by
  subst e;rw [h.wr.blk] at hI
  cases hI
 refine ⟨⟨by rw [Lib.iterAt_other _ _ _ _ _ hg]; exact h.wr.blk, h.wr.own.1, ?_⟩, h.ge, h.row⟩
 rcases h.wr.own.2 with hn | ⟨g1, cap, cur, hv, hb, hg1, rest⟩
 ·exact .inl hn
 ·have hg2 : g1 ≠ IT := fun e => by
   subst e;rw [hg1] at hI
   cases hI
  exact .inr ⟨g1, cap, cur, hv, hb, (Lib.iterAt_other _ _ _ _ _ hg2).trans hg1, rest⟩
theorem Wt.iterAt {IT : Nat} {s : ByteArray} {k : Nat} (h : Wt W g RW A c bs w w') (hI : w'.heap[IT]? = some (.stringIter s k)) (hge : w.heap.size ≤ IT) (k2 : Nat) : Wt W g RW A c bs w (w'.iterAt IT s k2) :=
 ⟨h.s.iterAt hI k2, ⟨h.chg.os, h.chg.tape, h.chg.output, by rw [Lib.iterAt_size]; exact h.chg.size, fun j hj h1 h2 => (Lib.iterAt_other _ _ _ _ _ (by omega)).trans (h.chg.block j hj h1 h2)⟩, h.row⟩
end
theorem wintW (W g : Nat) (A : Option Addr) (c : Nat) (bs : List Nat) (A0 : Option Addr) (cap : Nat) (l : List Int) (w : World) (hS : WrS W w g A c bs) (hl : l.length ≤ 1000) (hbl : bs.length ≤ 1000000) (h6 : ∀ x ∈ l, In64p x) (hs : Sl w A0 (ints .i64 l))
  (hf : ∀ b o, A0 = some ⟨b, o, none⟩ → l ≠ [] → b ≠ g ∧ ob A bs c ≠ some b) :
  Calls Tryz.prog 114 #[.pointer (some ⟨g, 0, none⟩), .slice A0 l.length cap] w fun e w' => e = .returned (.pointer (some ⟨g, 0, none⟩)) ∧ ∃ A' c', Wt W g (ob A bs c) A' c' (bs ++ packL l) w w' := by
 refine (wint_any g A c bs A0 cap l w hS.wr hl hbl h6 hs hf).mono ?_;rintro e w' ⟨rfl, A', c', hw, hC, hr⟩;refine ⟨rfl, A', c', ⟨hw, hS.ge, fun b hb => ?_⟩, hC, hr⟩
 rcases hr with h | ⟨b2, h, hb2⟩
 ·exact hS.row b (h ▸ hb)
 ·rw [h] at hb;injection hb with hb;have := hS.wr.lt;have := hS.ge;omega
theorem wint1 (W g : Nat) (A : Option Addr) (c : Nat) (bs : List Nat) (n : Int) (w : World) (hS : WrS W w g A c bs) (hbl : bs.length ≤ 1000000) (h6 : In64p n) :
  Calls Tryz.prog 114 #[.pointer (some ⟨g, 0, none⟩), .slice (some ⟨w.heap.size, 0, none⟩) 1 1] (w.alloc (.cells #[.int .i64 n] 2)) fun e w' => e = .returned (.pointer (some ⟨g, 0, none⟩)) ∧ ∃ A' c', Wt W g (ob A bs c) A' c' (bs ++ packI n) w w' := by
 have hb1 := since_alloc (Below.refl _ w) (.cells #[.int .i64 n] 2);have hlt := hS.wr.lt
 have h := wintW W g A c bs (some ⟨w.heap.size, 0, none⟩) 1 [n] (w.alloc (.cells #[.int .i64 n] 2)) (hS.below hb1) (by simp) hbl (fun x hx => by rw [List.mem_singleton.1 hx]; exact h6) (Sl.new_ _ _ _) (fun b o e _ => by
  injection e with e;injection e with e _;subst e;refine ⟨by omega, fun e2 => ?_⟩
  exact own_newB hS.wr.own (Nat.le_refl _) e2)
 have hp : packL [n] = packI n := by simp [packL]
 rw [hp] at h;refine h.mono ?_;rintro e w' ⟨rfl, A', c', hw⟩;exact ⟨rfl, A', c', ((Wt.refl hS).below hb1).trans hw⟩
theorem wnewW (w : World) : Calls Tryz.prog 110 #[] w fun e w' => ∃ g, e = .returned (.agg #[.pointer (some ⟨g, 0, none⟩)]) ∧ WrS w.heap.size w' g none 0 [] ∧ Below w.heap.size w w' := by
 have HN := hJz (fun V => wnew_S V);go_enter Tryz.func110, Tryz.ntmps110;go_wp2_with fail;refine (HN.out _).mono ?_;rintro e w1 ⟨g, rfl, hS, hb⟩;rw [World.size_alloc] at hS hb;have hbx := heap_alloc_new w (.cells #[.pointer none] 174);have hx := (hb.block w.heap.size (by omega)).trans hbx;have HB : Hid (Below w.heap.size w w1) := hJz ((since_alloc (Below.refl _ w) _).trans (hb.mono (Nat.le_succ _)));have k0 : w1.cell? ⟨w.heap.size, 0, none⟩ = some (.pointer none) := by rw [cell_of_row w1 w.heap.size 0 _ _ (0, 0) hx]; rfl
 have f0 : w1.frozen? ⟨w.heap.size, 0, none⟩ = false := by simp [World.frozen?, hx]
 have hwl : w.heap.size < w1.heap.size := (Array.getElem?_eq_some_iff.1 hx).1;have hC : Chg w.heap.size none w1 (w1.setCell ⟨w.heap.size, 0, none⟩ (.pointer (some ⟨g, 0, none⟩))) := Chg.set 0 _;have HS : Hid (WrS w.heap.size (w1.setCell ⟨w.heap.size, 0, none⟩ (.pointer (some ⟨g, 0, none⟩))) g none 0 []) := hJz ⟨(hS.chg hC (Nat.lt_succ_self _)).wr, Nat.le_of_lt hS.ge, fun b hb => by simp [Value.ownBlock] at hb⟩;clear hS hb hbx hx hC;go_wp2_with fail;refine bodyPost_ret (v := .agg #[.pointer (some ⟨g, 0, none⟩)]) ?_ rfl ⟨g, rfl, HS.out, HB.out.setCell (Nat.le_refl _) _⟩;have kx : (w1.setCell ⟨w.heap.size, 0, none⟩ (.pointer (some ⟨g, 0, none⟩))).cell? ⟨w.heap.size, 0, none⟩ = some (.pointer (some ⟨g, 0, none⟩)) := World.cell?_setCell_same w1 _ _ k0;simp [results, Tryz.results110, go_sem, kx]
theorem wintsW (W g : Nat) (A : Option Addr) (c : Nat) (bs : List Nat) (A0 : Option Addr) (cap : Nat) (l : List Int) (w : World) (hS : WrS W w g A c bs) (hl : l.length ≤ 100) (hbl : bs.length + 10 * l.length ≤ 1000000) (h6 : ∀ x ∈ l, In64p x) (hs : Sl w A0 (ints .i64 l))
  (hf : ∀ b o, A0 = some ⟨b, o, none⟩ → l ≠ [] → b ≠ g ∧ ob A bs c ≠ some b) :
  Calls Tryz.prog 111 #[.agg #[.pointer (some ⟨g, 0, none⟩)], .slice A0 l.length cap] w fun e w' => e = .returned (.tuple #[]) ∧ ∃ A' c', Wt W g (ob A bs c) A' c' (bs ++ packL l) w w' := by
 have hbx := heap_alloc_new w (.cells #[.pointer (some ⟨g, 0, none⟩)] 174);have hb0 := since_alloc (Below.refl _ w) (.cells #[.pointer (some ⟨g, 0, none⟩)] 174);have hS1 := hS.below hb0;have hs1 := hs.below hb0;have hlt := hS.wr.lt;have H6 := hJz h6;have HS1 := hJz hS1;have HT0 : Hid (∀ A' c' bs' V, Wt W g (ob A bs c) A' c' bs' (w.alloc (.cells #[.pointer (some ⟨g, 0, none⟩)] 174)) V → Wt W g (ob A bs c) A' c' bs' w V) := hJz fun A' c' bs' V h => ((Wt.refl hS).below hb0).trans h;obtain ⟨WB, hWB⟩ : ∃ WB, w.heap.size = WB := ⟨_, rfl⟩;rw [hWB] at hbx;have HWB := hJz hWB
 have HEL : Hid (∀ V, Chg g (ob A bs c) (w.alloc (.cells #[.pointer (some ⟨g, 0, none⟩)] 174)) V → ∀ k, (hk : k < l.length) → ∃ b o, A0 = some ⟨b, o, none⟩ ∧ V.cell? ⟨b, o + k, none⟩ = some (.int .i64 l[k])) := hJz fun V hC k hk => by
  obtain ⟨b, o, hA0, hc0⟩ := hs1.int hk;obtain ⟨hbg, hbr⟩ := hf b o hA0 (fun e => by subst e; simp at hk);refine ⟨b, o, hA0, ?_⟩;rw [World.cell?_of_block (a := ⟨b, o + k, none⟩) (hC.block b (World.block_lt_of_cell? _ _ hc0) hbg (fun e => hbr e.symm))];exact hc0
 have HPL : Hid (∀ k, k ≤ l.length → (packL (l.take k)).length ≤ 10 * k) := hJz fun k => by
  induction k with
  | zero => intro _; simp [packL]
  | succ k ih =>
   intro hk;have hlt : k < l.length := by omega
   rw [List.take_succ_eq_append_getElem hlt, packL_append, List.length_append];have h1 := ih (by omega);have h2 := vb_len10 (zz_lt (h6 _ (List.getElem_mem hlt)));have h3 : packL [l[k]] = vb (zz l[k]) := by simp [packL, packI]
   rw [h3];omega
 have HW0 := hJz (Wt.refl hS1);clear hs hs1 hf h6 hS hS1 hWB hb0;go_enter Tryz.func111, Tryz.ntmps111;go_wp2_with fail;rw [HWB.out];generalize w.alloc (.cells #[.pointer (some ⟨g, 0, none⟩)] 174) = W1 at *;go_loopw [8] (fun i wr => ∃ (k : Nat) (A2 : Option Addr) (c2 : Nat), k ≤ l.length ∧ i = .int .i64 k ∧ Wt W g (ob A bs c) A2 c2 (bs ++ packL (l.take k)) W1 wr) (fun i _ => l.length - (intOf i).toNat)
 case atStart => exact ⟨0, A, c, by omega, rfl, by simpa [packL] using HW0.out⟩
 case round =>
  obtain ⟨k, A2, c2, hk, rfl, hW⟩ := hrel
  by_cases hlk : k < l.length
  ·have hlk1 : (k : Int) < (l.length : Int) := by omega
   have hk0 : (0 : Int) ≤ (k : Int) := by omega
   obtain ⟨b, o, hA0, hce⟩ := HEL.out wr hW.chg k hlk;have hbox := HS1.out.keep hW.chg hbx (fun cs t f e => by injection e with _ e2 _; subst e2; decide);have p0 : wr.cell? ⟨WB, 0, none⟩ = some (.pointer (some ⟨g, 0, none⟩)) := by rw [cell_of_row wr WB 0 _ _ (0, 0) hbox]; rfl
   have hwl : WB < wr.heap.size := (Array.getElem?_eq_some_iff.1 hbox).1;have hT : packL (l.take (k + 1)) = packL (l.take k) ++ packI l[k] := by rw [List.take_succ_eq_append_getElem hlk, packL_append]; simp [packL]
   have hpk := HPL.out k hk;obtain ⟨n, hn⟩ : ∃ n, l[k] = n := ⟨_, rfl⟩;have hn6 : In64p n := by rw [← hn]; exact H6.out _ (List.getElem_mem hlk)
   rw [hn] at hce hT;have HI := hJz (wint1 W g A2 c2 (bs ++ packL (l.take k)) n wr hW.s (by rw [List.length_append]; omega) hn6);have HT := hJz hT;have HW := hJz hW;subst hA0;clear hT hn hn6 hpk hbox hW;go_wp2_with fail;refine HI.out.mono ?_;rintro e w2 ⟨rfl, A3, c3, hW3⟩;have hWN := HW.out.trans hW3;rw [List.append_assoc, ← HT.out] at hWN;clear hW3 HI;go_wp2_with fail;go_roundw
   case rel => exact ⟨k + 1, A3, c3, by omega, by go_num, hWN⟩
   case measure => simp [intOf]; omega
  ·obtain rfl : k = l.length := by omega
   rw [List.take_length] at hW;go_wp2_with fail
   go_end0
   exact ⟨rfl, A2, c2, HT0.out _ _ _ _ hW⟩
end
section
def SR (w : World) (A : Option Addr) (b f : Nat) : Prop := (A = none ∧ slotL f = []) ∨ ∃ b2, A = some ⟨b2, 0, none⟩ ∧ w.heap[b2]? = some (.cells (srow b f).toArray 79 (0, 0))
theorem SR.sl {w : World} {A : Option Addr} {b f : Nat} (h : SR w A b f) : Sl w A (srow b f) := by
 rcases h with ⟨rfl, h⟩ | ⟨b2, rfl, h⟩
 ·have : srow b f = [] := by unfold srow; rw [h]; rfl
  rw [this];exact Sl.nil
 ·intro _;refine ⟨b2, 0, rfl, fun j u hu => ?_⟩;rw [Nat.zero_add, cell_of_row w b2 j _ _ (0, 0) h];simpa using hu
theorem SR.keep {w w' : World} {A A2 : Option Addr} {b f W g c : Nat} {bs : List Nat} (h : SR w A b f) (hS : WrS W w g A2 c bs) (hC : Chg g (ob A2 bs c) w w') : SR w' A b f := by
 rcases h with h | ⟨b2, e, h⟩
 ·exact .inl h
 ·exact .inr ⟨b2, e, hS.keep hC h (fun cs t f e => by injection e with _ e2 _; subst e2; decide)⟩
theorem SR.below {w w' : World} {A : Option Addr} {b f : Nat} (h : SR w A b f) (hb : Below w.heap.size w w') : SR w' A b f := by
 rcases h with h | ⟨b2, e, h⟩
 ·exact .inl h
 ·exact .inr ⟨b2, e, by rw [hb.block b2 (Array.getElem?_eq_some_iff.1 h).1]; exact h⟩
theorem funitR_any (b o : Nat) (w : World) (hb : b < w.heap.size) :
  Calls Tryz.prog 58 #[.pointer (some ⟨b, o, none⟩)] w fun e w' => e = .returned (.slice (some ⟨w.heap.size, 0, none⟩) 2 2) ∧ w'.heap[w.heap.size]? = some (.cells (scell b (o, 16) ++ scell b (o + 1, 16)).toArray 79 (0, 0)) ∧ Below w.heap.size w w' := by
 go_enter Tryz.func58, Tryz.ntmps58;go_wp2_with fail
 go_still_tail 8, (by kernel_rfl)
 change wpList _ _ _ _ _ w.drew
 go_wp2_with fail;go_ret;refine ⟨rfl, ?_, since_alloc (below_drewN (Below.refl _ w) 1) _⟩;exact heap_alloc_new w.drew _
theorem slotsR_any (b : Nat) (f : Nat) (w : World) (hb : b < w.heap.size) :
  Calls Tryz.prog 30 #[.pointer (some ⟨b, 0, none⟩), .int .i32 (f : Int)] w fun e w' => (∃ A c, e = .returned (.slice A (slotL f).length c) ∧ SR w' A b f) ∧ Below w.heap.size w w' := by
 have HU := hJz (fun o => funitR_any b o w hb)
 by_cases h77 : f = 77
 ·subst h77;clear HU;go_enter Tryz.func30, Tryz.ntmps30;go_wp2_with fail;go_ret;exact ⟨⟨_, _, rfl, .inr ⟨_, rfl, heap_alloc_new w _⟩⟩, since_alloc (Below.refl _ w) _⟩
 by_cases h85 : f = 85
 ·subst h85;have HU2 := hJz (HU.out 3);clear HU;go_enter Tryz.func30, Tryz.ntmps30;go_wp2_with fail;refine HU2.out.mono ?_;rintro e w1 ⟨rfl, hs, hb1⟩;go_wp2_with fail;go_ret;exact ⟨⟨_, _, rfl, .inr ⟨_, rfl, hs⟩⟩, hb1⟩
 by_cases h79 : f = 79
 ·subst h79;have HU2 := hJz (HU.out 5);clear HU;go_enter Tryz.func30, Tryz.ntmps30;go_wp2_with fail;refine HU2.out.mono ?_;rintro e w1 ⟨rfl, hs, hb1⟩;go_wp2_with fail;go_ret;exact ⟨⟨_, _, rfl, .inr ⟨_, rfl, hs⟩⟩, hb1⟩
 by_cases h73 : f = 73
 ·subst h73;clear HU;go_enter Tryz.func30, Tryz.ntmps30;go_wp2_with fail;go_ret;exact ⟨⟨_, _, rfl, .inr ⟨_, rfl, heap_alloc_new w _⟩⟩, since_alloc (Below.refl _ w) _⟩
 by_cases h65 : f = 65
 ·subst h65;clear HU;go_enter Tryz.func30, Tryz.ntmps30;go_wp2_with fail;go_ret;exact ⟨⟨_, _, rfl, .inr ⟨_, rfl, heap_alloc_new w _⟩⟩, since_alloc (Below.refl _ w) _⟩
 by_cases h84 : f = 84
 ·subst h84;clear HU;go_enter Tryz.func30, Tryz.ntmps30;go_wp2_with fail;go_ret;exact ⟨⟨_, _, rfl, .inr ⟨_, rfl, heap_alloc_new w _⟩⟩, since_alloc (Below.refl _ w) _⟩
 by_cases h68 : f = 68
 ·subst h68;clear HU;go_enter Tryz.func30, Tryz.ntmps30;go_wp2_with fail;go_ret;exact ⟨⟨_, _, rfl, .inr ⟨_, rfl, heap_alloc_new w _⟩⟩, since_alloc (Below.refl _ w) _⟩
 by_cases h81 : f = 81
 ·subst h81;clear HU;go_enter Tryz.func30, Tryz.ntmps30;go_wp2_with fail;go_ret;exact ⟨⟨_, _, rfl, .inr ⟨_, rfl, heap_alloc_new w _⟩⟩, since_alloc (Below.refl _ w) _⟩
 by_cases h80 : f = 80
 ·subst h80;clear HU;go_enter Tryz.func30, Tryz.ntmps30;go_wp2_with fail;go_ret;exact ⟨⟨_, _, rfl, .inr ⟨_, rfl, heap_alloc_new w _⟩⟩, since_alloc (Below.refl _ w) _⟩
 have he : slotL f = [] := by
  unfold slotL
  repeat rw [if_neg (by assumption)]
 have q77 : ((f : Int) == 77) = false := by rw [beq_eq_false_iff_ne]; omega
 have q85 : ((f : Int) == 85) = false := by rw [beq_eq_false_iff_ne]; omega
 have q79 : ((f : Int) == 79) = false := by rw [beq_eq_false_iff_ne]; omega
 have q73 : ((f : Int) == 73) = false := by rw [beq_eq_false_iff_ne]; omega
 have q65 : ((f : Int) == 65) = false := by rw [beq_eq_false_iff_ne]; omega
 have q84 : ((f : Int) == 84) = false := by rw [beq_eq_false_iff_ne]; omega
 have q68 : ((f : Int) == 68) = false := by rw [beq_eq_false_iff_ne]; omega
 have q81 : ((f : Int) == 81) = false := by rw [beq_eq_false_iff_ne]; omega
 have q80 : ((f : Int) == 80) = false := by rw [beq_eq_false_iff_ne]; omega
 have he2 := hJz he;clear h77 h85 h79 h73 h65 h84 h68 h81 h80 he HU;go_enter Tryz.func30, Tryz.ntmps30;go_wp2_with fail;go_ret;exact ⟨⟨none, 0, by rw [he2.out]; rfl, .inl ⟨rfl, he2.out⟩⟩, Below.refl _ w⟩
theorem enc1_any (W g wb : Nat) (A : Option Addr) (c : Nat) (bs : List Nat) (n : Int) (w : World) (hS : WrS W w g A c bs) (hx : w.heap[wb]? = some (.cells #[.pointer (some ⟨g, 0, none⟩)] 174 (0, 0))) (hbl : bs.length ≤ 1000000) (h6 : In64p n) :
  Calls Tryz.prog 113 #[.int .i64 n, .pointer (some ⟨wb, 0, none⟩)] w fun e w' => e = .returned (.tuple #[]) ∧ ∃ A' c', Wt W g (ob A bs c) A' c' (bs ++ packI n) w w' := by
 have HI := hJz (wint1 W g A c bs n w hS hbl h6);have k0 : w.cell? ⟨wb, 0, none⟩ = some (.pointer (some ⟨g, 0, none⟩)) := by rw [cell_of_row w wb 0 _ _ (0, 0) hx]; rfl
 have hwl : wb < w.heap.size := (Array.getElem?_eq_some_iff.1 hx).1;clear hx hS;go_enter Tryz.func113, Tryz.ntmps113;go_wp2_with fail;refine HI.out.mono ?_;rintro e w1 ⟨rfl, A', c', hW⟩;go_wp2_with fail
 go_end0
 exact ⟨rfl, A', c', hW⟩
theorem wput64 (W g wb : Nat) (A : Option Addr) (c : Nat) (bs : List Nat) (A0 : Option Addr) (cap : Nat) (l : List Int) (w : World) (hS : WrS W w g A c bs) (hx : w.heap[wb]? = some (.cells #[.pointer (some ⟨g, 0, none⟩)] 174 (0, 0))) (hl : l.length ≤ 100) (hbl : bs.length + 10 * (l.length + 1) ≤ 1000000) (h6 : ∀ x ∈ l, In64p x) (hs : Sl w A0 (ints .i64 l))
  (hf : ∀ b o, A0 = some ⟨b, o, none⟩ → l ≠ [] → b ≠ g ∧ ob A bs c ≠ some b) :
  Calls Tryz.prog 112 #[.agg #[.pointer (some ⟨g, 0, none⟩)], .slice A0 l.length cap, .func (.func 113) #[] #[.pointer (some ⟨wb, 0, none⟩)]] w fun e w' => e = .returned (.tuple #[]) ∧ ∃ A' c', Wt W g (ob A bs c) A' c' (bs ++ packL ((l.length : Int) :: l)) w w' := by
 have hb0 : Below w.heap.size w ((w.alloc (.cells #[.pointer (some ⟨g, 0, none⟩)] 174)).alloc (.cells #[.int .i64 (l.length : Int)] 3)) := since_alloc (since_alloc (Below.refl _ w) (.cells #[.pointer (some ⟨g, 0, none⟩)] 174)) (.cells #[.int .i64 (l.length : Int)] 3);have hS1 := hS.below hb0;have hs1 := hs.below hb0;have hx1 := (hb0.block wb (Array.getElem?_eq_some_iff.1 hx).1).trans hx;have hlt := hS.wr.lt;have H6 := hJz h6;have HS1 := hJz hS1;have HX1 := hJz hx1;have HT0 : Hid (∀ A' c' bs' V, Wt W g (ob A bs c) A' c' bs' ((w.alloc (.cells #[.pointer (some ⟨g, 0, none⟩)] 174)).alloc (.cells #[.int .i64 (l.length : Int)] 3)) V → Wt W g (ob A bs c) A' c' bs' w V) := hJz fun A' c' bs' V h => ((Wt.refl hS).below hb0).trans h
 have HEL : Hid (∀ V, Chg g (ob A bs c) ((w.alloc (.cells #[.pointer (some ⟨g, 0, none⟩)] 174)).alloc (.cells #[.int .i64 (l.length : Int)] 3)) V → ∀ k, (hk : k < l.length) → ∃ b o, A0 = some ⟨b, o, none⟩ ∧ V.cell? ⟨b, o + k, none⟩ = some (.int .i64 l[k])) := hJz fun V hC k hk => by
  obtain ⟨b, o, hA0, hc0⟩ := hs1.int hk;obtain ⟨hbg, hbr⟩ := hf b o hA0 (fun e => by subst e; simp at hk);refine ⟨b, o, hA0, ?_⟩;rw [World.cell?_of_block (a := ⟨b, o + k, none⟩) (hC.block b (World.block_lt_of_cell? _ _ hc0) hbg (fun e => hbr e.symm))];exact hc0
 have HPL : Hid (∀ k, k ≤ l.length → (packL ((l.length : Int) :: l.take k)).length ≤ 10 * (k + 1)) := hJz fun k => by
  induction k with
  | zero =>
   intro _;have h2 := vb_len10 (zz_lt (n := (l.length : Int)) (by unfold In64p; omega));simp [packL, packI];exact h2
  | succ k ih =>
   intro hk;have hlt : k < l.length := by omega
   have e : (l.length : Int) :: l.take (k + 1) = ((l.length : Int) :: l.take k) ++ [l[k]] := by rw [List.take_succ_eq_append_getElem hlt]; rfl
   rw [e, packL_append, List.length_append];have h1 := ih (by omega);have h2 := vb_len10 (zz_lt (h6 _ (List.getElem_mem hlt)));have h3 : packL [l[k]] = vb (zz l[k]) := by simp [packL, packI]
   rw [h3];omega
 have HIN := hJz (wintsW W g A c bs (some ⟨w.heap.size + 1, 0, none⟩) 1 [(l.length : Int)] ((w.alloc (.cells #[.pointer (some ⟨g, 0, none⟩)] 174)).alloc (.cells #[.int .i64 (l.length : Int)] 3)) hS1 (by simp) (by simp; omega) (fun x hx => by rw [List.mem_singleton.1 hx]; unfold In64p; omega) (Sl.new1 _ _ _ _) (fun b o e _ => by
  injection e with e;injection e with e _;subst e
  exact ⟨by omega, fun e2 => own_newB hS.wr.own (Nat.le_succ _) e2⟩))
 clear hs hs1 hf h6 hS hS1 hb0 hx hx1;go_enter Tryz.func112, Tryz.ntmps112;go_wp2_with fail;refine HIN.out.mono ?_;rintro e w2 ⟨rfl, A1, c1, hW1⟩;have HW0 := hJz hW1;generalize (w.alloc (.cells #[.pointer (some ⟨g, 0, none⟩)] 174)).alloc (.cells #[.int .i64 (l.length : Int)] 3) = W1 at *;clear HIN hW1;go_wp2_with fail;go_loopw [15] (fun i wr => ∃ (k : Nat) (A2 : Option Addr) (c2 : Nat), k ≤ l.length ∧ i = .int .i64 k ∧ Wt W g (ob A bs c) A2 c2 (bs ++ packL ((l.length : Int) :: l.take k)) W1 wr) (fun i _ => l.length - (intOf i).toNat)
 case atStart => exact ⟨0, A1, c1, by omega, rfl, by simpa using HW0.out⟩
 case round =>
  obtain ⟨k, A2, c2, hk, rfl, hW⟩ := hrel
  by_cases hlk : k < l.length
  ·have hlk1 : (k : Int) < (l.length : Int) := by omega
   have hk0 : (0 : Int) ≤ (k : Int) := by omega
   obtain ⟨b, o, hA0, hce⟩ := HEL.out wr hW.chg k hlk;have hbox := HS1.out.keep hW.chg HX1.out (fun cs t f e => by injection e with _ e2 _; subst e2; decide)
   have hT : packL ((l.length : Int) :: l.take (k + 1)) = packL ((l.length : Int) :: l.take k) ++ packI l[k] := by
    have e : (l.length : Int) :: l.take (k + 1) = ((l.length : Int) :: l.take k) ++ [l[k]] := by rw [List.take_succ_eq_append_getElem hlk]; rfl
    rw [e, packL_append]; simp [packL]
   have hpk := HPL.out k hk;obtain ⟨n, hn⟩ : ∃ n, l[k] = n := ⟨_, rfl⟩;have hn6 : In64p n := by rw [← hn]; exact H6.out _ (List.getElem_mem hlk)
   rw [hn] at hce hT;have HI := hJz (enc1_any W g wb A2 c2 (bs ++ packL ((l.length : Int) :: l.take k)) n wr hW.s hbox (by rw [List.length_append]; omega) hn6);have HT := hJz hT;have HW := hJz hW;subst hA0;clear hT hn hn6 hpk hbox hW;go_wp2_with (first | (go_at_call 113; refine HI.out.mono ?_; rintro e w2 ⟨rfl, A3, c3, hW3⟩) | fail);have hWN := HW.out.trans hW3;rw [List.append_assoc, ← HT.out] at hWN;clear hW3 HI;go_roundw
   case rel => exact ⟨k + 1, A3, c3, by omega, by go_num, hWN⟩
   case measure => simp [intOf]; omega
  ·obtain rfl : k = l.length := by omega
   rw [List.take_length] at hW;go_wp2_with fail
   go_end0
   exact ⟨rfl, A2, c2, HT0.out _ _ _ _ hW⟩
end
end Go.Proofs.YtpmnjojednbnpaaGreatDoor
