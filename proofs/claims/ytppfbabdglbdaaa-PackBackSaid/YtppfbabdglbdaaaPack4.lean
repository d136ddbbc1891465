/-
  Layer 4, fourth part: the writer's Text, Done; a writer that no call made (laid by gen_pack4.py).
-/
import Derived.Test.YtppfbabdglbdaaaPack3
import Derived.Lib.SliceRun
namespace Go.Proofs.Ytppfbabdglbdaaa
open Go.ChangeShapes Go.WideShapes Go.ChangeAt Go.RowKit
set_option linter.unusedVariables false
set_option linter.unusedSimpArgs false

theorem own_newB {w : World} {base e size n g : Nat} {v : Value} {xs : List Value} (h : w.ownsRow base e size v n xs) (hg : w.heap.size ≤ g) : v.ownBlock ≠ some g := by
  intro h2
  rcases h.2 with ⟨rfl, _⟩ | ⟨g', cap, cur, rfl, _, hh, _⟩
  · simp [Value.ownBlock] at h2
  · simp only [Value.ownBlock, Option.some.injEq] at h2
    subst h2
    rw [Array.getElem?_eq_none hg] at hh
    cases hh
/-- a text's bytes behind a row: where the row lies then -/
theorem run_str2 {w : World} (ty : TypeId) {base n c : Nat} {A : Option Addr} {xs : List Value} (hown : w.ownsRow base 5 1 (.slice A n c) n xs) (s : ByteArray) (hb : n + s.size ≤ 100000000) (hbase : base ≤ w.heap.size) :
    ∃ A' c' w', (Builtin.append_ #[25, 9] ty #[.slice A n c, .string s]).run Try.prog w = .ok (.slice A' (n + s.size) c') w' ∧ w'.ownsRow base 5 1 (.slice A' (n + s.size) c') (n + s.size) (xs ++ by8 (sb s)) ∧
      w.grownBy w' (Value.slice A n c).ownBlock ∧ ((Value.slice A' (n + s.size) c').ownBlock = (Value.slice A n c).ownBlock ∨ (Value.slice A' (n + s.size) c').ownBlock = some w.heap.size) := by
  have hi : (Try.prog.info? 5).map (fun i => (i.zero, i.size, i.bytes)) = some (some (.int .u8 0), 1, 1) := by kernel_rfl
  obtain ⟨i, h1, h2, h3, h4⟩ := info_parts hi
  have hu : Try.prog.underlying 9 = some .string := by kernel_rfl
  obtain ⟨v', w', hr, h5, h6, h7⟩ := Lib.run_append_own_string (P := Try.prog) w base 25 9 ty 5 i EU8.und hu h1 h2 h3 h4 _ n xs hown s (by unfold maxLen; omega) (by omega) hbase
  obtain ⟨A', c', rfl⟩ := own_form h5
  rw [sb_cells] at h5
  refine ⟨A', c', w', hr, h5, h6, ?_⟩
  rcases hown.2 with ⟨e, rfl⟩ | ⟨g, cap, cur, e, hbg, hg, hnc, hcm, hcs, htake⟩
  · injection e with e1 e2 e3
    subst e1; subst e3
    by_cases hm : s.size = 0
    · have := h7.2 ⟨rfl, hm⟩
      injection this with q1 q2 q3
      subst q1
      left; simp [Value.ownBlock]
    · have hr2 := run_append_nil_string (P := Try.prog) w 25 9 ty 5 i (.int .u8 0) EU8.und hu h1 h2 s (by omega) (by omega) (by rw [h4]; omega)
      rw [hr2] at hr
      injection hr with q _
      injection q with q1 q2 q3
      subst q1
      right; simp [Value.ownBlock]
  · injection e with e1 e2 e3
    subst e1; subst e3
    by_cases hroom : n + s.size ≤ c
    · have hcs2 : cur.size = c := by simpa using hcs
      have hr2 := Lib.run_append_room_string (P := Try.prog) w 25 9 ty 5 i EU8.und hu h1 h3 g n c cur hg s hroom (by omega)
      rw [hr2] at hr
      injection hr with q _
      injection q with q1 q2 q3
      subst q1
      left; simp [Value.ownBlock]
    · have hxl : xs.length = n := by simpa using hown.1
      have holds : ∀ j u, xs[j]? = some u → w.cell? ((⟨g, 0, none⟩ : Addr).add j) = some u := hown.cells (g := g) rfl
      have hr2 := Lib.run_append_grow_string (P := Try.prog) w 25 9 ty 5 i (.int .u8 0) EU8.und hu h1 h2 ⟨g, 0, none⟩ n c xs (by rw [h3]; simpa using hxl) holds s (by omega) (by omega) (by rw [h4]; exact growslice_fits (by omega) (by omega))
      rw [hr2] at hr
      injection hr with q _
      injection q with q1 q2 q3
      subst q1
      right; simp [Value.ownBlock]
theorem wpList_str2 {w : World} {ops : Array Oper} {rest : List Oper} {o : Oper} {a : Act} {Q : Exit → Act → World → Prop} (hgd : o.guard = none) (s x : Operand)
    (ho : o.op = .call { callee := .builtin .append, args := #[s, x], argTypes := #[25, 9] }) {base n c : Nat} {A : Option Addr} {xs : List Value}
    (hs : a.eval s = .slice A n c) (st : ByteArray) (hx : a.eval x = .string st)
    (hown : w.ownsRow base 5 1 (.slice A n c) n xs) (hb : n + st.size ≤ 100000000) (hbase : base ≤ w.heap.size)
    (h : ∀ A' c' w', w'.ownsRow base 5 1 (.slice A' (n + st.size) c') (n + st.size) (xs ++ by8 (sb st)) → w.grownBy w' (Value.slice A n c).ownBlock → ((Value.slice A' (n + st.size) c').ownBlock = (Value.slice A n c).ownBlock ∨ (Value.slice A' (n + st.size) c').ownBlock = some w.heap.size) → wpList Try.prog ops Q rest (a.put o.dst (.slice A' (n + st.size) c')) w') :
    wpList Try.prog ops Q (o :: rest) a w :=
  wpList_plain hgd fun _ hK => by
    obtain ⟨A', c', w', hrun, h2, h3, h5⟩ := run_str2 (w := w) o.type hown st hb hbase
    unfold Oper.wp execOp
    simp only [ho, resolve, invoke, builtin, Sem.run_bind, Sem.run_pure, Result.andThen_ok, List.map_toArray, List.map_cons, List.map_nil, hs, hx, hrun]
    exact hK _ _ (h A' c' w' h2 h3 h5)
/-- several bytes more -/
theorem Wr.more {w0 V W : World} {g : Nat} {RW : Option Nat} {A A' : Option Addr} {c c' : Nat} {pre new : List Nat} (hW : Wr V g A c pre) (hC : Chg g RW w0 V)
    (hrow : (Value.slice A pre.length c).ownBlock = RW ∨ ∃ b, (Value.slice A pre.length c).ownBlock = some b ∧ w0.heap.size ≤ b) (hg : V.grownBy W (Value.slice A pre.length c).ownBlock)
    (hown : W.ownsRow (g + 1) 5 1 (.slice A' (pre.length + new.length) c') (pre.length + new.length) (by8 pre ++ by8 new)) (hv : (Value.slice A' (pre.length + new.length) c').ownBlock = (Value.slice A pre.length c).ownBlock ∨ (Value.slice A' (pre.length + new.length) c').ownBlock = some V.heap.size) :
    Wr (W.setCell ⟨g, 1, none⟩ (.slice A' (pre.length + new.length) c')) g A' c' (pre ++ new) ∧ Chg g RW w0 (W.setCell ⟨g, 1, none⟩ (.slice A' (pre.length + new.length) c')) ∧
      ((Value.slice A' (pre ++ new).length c').ownBlock = RW ∨ ∃ b, (Value.slice A' (pre ++ new).length c').ownBlock = some b ∧ w0.heap.size ≤ b) := by
  have e1 : (pre ++ new).length = pre.length + new.length := by simp
  refine ⟨?_, (hC.trans (Chg.of_grown hg) hrow).trans (Chg.set 1 _) (.inl rfl), ?_⟩
  · have := hW.put (new := new) hg (A' := A') (c' := c') (by rw [e1, by8_append]; exact hown)
    rw [e1] at this
    exact this
  · rw [e1]
    rcases hv with hv | hv
    · rw [hv]; exact hrow
    · exact .inr ⟨_, hv, hC.size⟩

set_option maxHeartbeats 4000000 in
set_option maxRecDepth 100000 in
theorem wtext_any (g : Nat) (A : Option Addr) (c : Nat) (bs : List Nat) (s : ByteArray) (w : World) (hW : Wr w g A c bs) (hbl : bs.length ≤ 1000000) (hsl : s.size ≤ 1000000) :
    Calls Try.prog 10 #[.pointer (some ⟨g, 0, none⟩), .string s] w fun e w' => e = .returned (.pointer (some ⟨g, 0, none⟩)) ∧ ∃ A' c', Wr w' g A' c' (bs ++ packT (sb s)) ∧ Chg g (Value.slice A bs.length c).ownBlock w w' ∧
      ((Value.slice A' (bs ++ packT (sb s)).length c').ownBlock = (Value.slice A bs.length c).ownBlock ∨ ∃ b, (Value.slice A' (bs ++ packT (sb s)).length c').ownBlock = some b ∧ w.heap.size ≤ b) := by
  have hFT := wfit_any g true _ w hW.blk
  obtain ⟨RW, hRW⟩ : ∃ RW, (Value.slice A bs.length c).ownBlock = RW := ⟨_, rfl⟩
  have HR0 := Lib.hid hRW
  rw [hRW]
  have HP : Hid (bs ++ packT (sb s) = (bs ++ packL [(s.size : Int)]) ++ sb s) := Lib.hid (by unfold packT; rw [sb_len]; simp [packL, packI])
  have hil : (packL [(s.size : Int)]).length ≤ 10 := by
    have := vb_len10 (zz_lt (n := (s.size : Int)) (by unfold In64p; omega))
    simpa [packL, packI] using this
  clear hRW
  go_enter Try.func10, Try.ntmps10
  go_wp2_with fail
  refine hFT.mono ?_
  rintro e w1 ⟨rfl, hb⟩
  have hW1 := hW.below hb
  have hC1 : Chg g RW w w1 := Chg.of_below hb
  have HI := Lib.hid (wint_any g A c bs (some ⟨w1.heap.size, 0, none⟩) 1 [(s.size : Int)] _ (hW1.alloc (.cells #[.int .i64 (s.size : Int)] 2)) (by simp) hbl (by intro x hx; simp only [List.mem_singleton] at hx; subst hx; unfold In64p; omega) (Sl.new_ w1 (ints .i64 [(s.size : Int)]) 2)
    (fun b o hA _ => by
      injection hA with hA
      injection hA with hA _
      subst hA
      exact ⟨by have := hW1.lt; omega, own_newB hW1.own (Nat.le_refl _)⟩))
  rw [HR0.out] at HI
  have hz1 := hC1.size
  clear hb hFT hW
  go_wp2_with fail
  refine HI.out.mono ?_
  rintro e w2 ⟨rfl, A2, c2, hW2, hC2, hr2⟩
  have hC3 : Chg g RW w w2 := (hC1.trans (Chg.of_below (since_alloc (Below.refl _ w1) (.cells #[.int .i64 (s.size : Int)] 2))) (.inl rfl)).trans hC2 (.inl rfl)
  have hr3 : (Value.slice A2 (bs ++ packL [(s.size : Int)]).length c2).ownBlock = RW ∨ ∃ b, (Value.slice A2 (bs ++ packL [(s.size : Int)]).length c2).ownBlock = some b ∧ w.heap.size ≤ b := by
    rcases hr2 with h | ⟨b, h, hb⟩
    · exact .inl h
    · refine .inr ⟨b, h, ?_⟩
      rw [World.size_alloc] at hb
      omega
  clear hr2 hC2 hC1 HI hW1 HR0
  have hPl : (bs ++ packL [(s.size : Int)]).length ≤ 1000010 := by rw [List.length_append]; omega
  obtain ⟨P, hP⟩ : ∃ P, bs ++ packL [(s.size : Int)] = P := ⟨_, rfl⟩
  rw [hP] at hW2 hr3 hPl HP
  obtain ⟨k0, k1, z1, z2, lg⟩ := blk_got hW2.blk
  have HBG : Hid (∀ W, w2.grownBy W (Value.slice A2 P.length c2).ownBlock → W.heap[g]? = some (.cells #[.bool true, .slice A2 P.length c2] 49 (0, 0))) := Lib.hid fun W hg => by
    rw [hg.block g hW2.lt (fun e => hW2.ne e.symm)]; exact hW2.blk
  clear hP hil
  go_wp2_with (first
    | (at_builtin; refine wpList_str2 rfl (.tmp 18) (.tmp 19) rfl rfl s rfl hW2.own (by omega) lg ?_; intro A3 c3 w3 own3 hg3 hv3; have hbg := (HBG.out _ hg3); have y1 := (blk_got hbg).2.1; have y2 := (blk_got hbg).2.2.2.1)
    | fail)
  have hsz := sb_len s
  rw [← hsz] at own3 hv3
  obtain ⟨hWN, hCN, hRN⟩ := hW2.more hC3 hr3 hg3 own3 hv3
  rw [hsz] at hWN hCN
  rw [← HP.out] at hWN hRN
  clear hsz
  go_ret
  exact ⟨rfl, A3, c3, hWN, hCN, hRN⟩

set_option maxHeartbeats 1000000 in
set_option maxRecDepth 100000 in
theorem clone8_any (A : Option Addr) (cap : Nat) (l : List Nat) (w : World) (hl : l.length ≤ 10000000) (hs : Sl w A (by8 l)) :
    Calls Try.prog 25 #[.slice A l.length cap] w fun e w' => BRow w.heap.size w' e l ∧ Below w.heap.size w w' := by
  cases A with
  | none =>
    have hn : l = [] := by
      cases l with
      | nil => rfl
      | cons g m => obtain ⟨b, o, e, _⟩ := hs.byte (j := 0) (by simp); cases e
    subst hn
    have hnil := fun w : World => Go.Lib.run_eql_slice_nil (P := Try.prog) w 25 5 none 0 cap 0 0 EU8.und
    go_enter Try.func25, Try.ntmps25
    go_wp2_with fail
    go_ret
    exact ⟨⟨none, 0, rfl, own_nil _ _ _⟩, Below.refl _ _⟩
  | some ad =>
    have hnil := fun w : World => Go.Lib.run_eql_slice_nil (P := Try.prog) w 25 5 (some ad) l.length cap 0 0 EU8.und
    go_enter Try.func25, Try.ntmps25
    go_wp2_with (first
      | (at_builtin; refine wpList_app rfl (.tmp 5) (.tmp 6) rfl EU8 rfl rfl (World.ownsRow_made (w := w) #[] 0 (Nat.le_refl _) (Nat.zero_le _) rfl) (m := l.length) (by rw [by8_length, Nat.mul_one]) (hs.alloc _) (by8_one l) (by unfold maxLen; omega) (by omega) (by simp) ?_; intro A2 c2 w2 hown2 hg2 hb2; simp only [Nat.zero_add, List.nil_append] at hown2)
      | fail)
    refine bodyPost_ret (results_tmp rfl _ _ _) rfl ⟨⟨A2, c2, by simp, by simpa using hown2⟩, ?_⟩
    exact Below.trans ((Below.refl _ _).alloc (Nat.le_refl _) _) hb2
set_option maxHeartbeats 1000000 in
set_option maxRecDepth 100000 in
theorem wdone_any (g : Nat) (A : Option Addr) (c : Nat) (bs : List Nat) (w : World) (hW : Wr w g A c bs) (hbl : bs.length ≤ 10000000) :
    Calls Try.prog 14 #[.pointer (some ⟨g, 0, none⟩)] w fun e w' => BRow w.heap.size w' e bs ∧ Below w.heap.size w w' := by
  have hFT := wfit_any g true _ w hW.blk
  go_enter Try.func14, Try.ntmps14
  go_wp2_with fail
  refine hFT.mono ?_
  rintro e w1 ⟨rfl, hb⟩
  have hW1 := hW.below hb
  have hz := hb.size
  obtain ⟨k0, k1, z1, z2, lg⟩ := blk_got hW1.blk
  clear hFT
  go_wp2_with fail
  refine (clone8_any A c bs w1 hbl (Sl.of_own hW1.own)).mono ?_
  rintro e w2 ⟨⟨A3, c3, rfl, own3⟩, hb2⟩
  have hB := since_step hb hb2
  go_wp2_with fail
  go_ret
  exact ⟨⟨A3, c3, rfl, own_base own3 hz⟩, hB⟩
/-- a writer that no call made -/
def NoW (w : World) (p : Value) : Prop := Calls Try.prog 23 #[p] w fun e w' => e = .returned (.bool false) ∧ Below w.heap.size w w'

set_option maxHeartbeats 1000000 in
set_option maxRecDepth 100000 in
theorem wint_no (p : Value) (A : Option Addr) (n cap : Nat) (w : World) (h : NoW w p) :
    Calls Try.prog 7 #[p, .slice A n cap] w fun e w' => e = .returned p ∧ Below w.heap.size w w' := by
  unfold NoW at h
  go_enter Try.func7, Try.ntmps7
  go_wp2_with fail
  refine h.mono ?_
  rintro e w1 ⟨rfl, hb⟩
  go_wp2_with fail
  go_ret
  exact ⟨rfl, hb⟩

set_option maxHeartbeats 1000000 in
set_option maxRecDepth 100000 in
theorem wtext_no (p : Value) (s : ByteArray) (w : World) (h : NoW w p) :
    Calls Try.prog 10 #[p, .string s] w fun e w' => e = .returned p ∧ Below w.heap.size w w' := by
  unfold NoW at h
  go_enter Try.func10, Try.ntmps10
  go_wp2_with fail
  refine h.mono ?_
  rintro e w1 ⟨rfl, hb⟩
  go_wp2_with fail
  go_ret
  exact ⟨rfl, hb⟩

set_option maxHeartbeats 1000000 in
set_option maxRecDepth 100000 in
theorem wdone_no (p : Value) (w : World) (h : NoW w p) :
    Calls Try.prog 14 #[p] w fun e w' => e = .returned (.slice none 0 0) ∧ Below w.heap.size w w' := by
  unfold NoW at h
  go_enter Try.func14, Try.ntmps14
  go_wp2_with fail
  refine h.mono ?_
  rintro e w1 ⟨rfl, hb⟩
  go_wp2_with fail
  go_ret
  exact ⟨rfl, hb⟩
end Go.Proofs.Ytppfbabdglbdaaa
