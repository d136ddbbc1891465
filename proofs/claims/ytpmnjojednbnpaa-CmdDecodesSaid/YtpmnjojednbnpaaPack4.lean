/-
  Layer 4, fourth part: the writer's Text, Done; a writer that no call made (laid by gen_pack4.py).
-/
import Derived.Test.YtpmnjojednbnpaaPack3
import Derived.Lib.SliceRun
namespace Go.Proofs.Ytpmnjojednbnpaa
open Go.ChangeShapes Go.WideShapes Go.ChangeAt Go.RowKit
set_option linter.unusedVariables false
set_option linter.unusedSimpArgs false

theorem own_newB {w : World} {base e size n g : Nat} {v : Value} {xs : List Value} (h : w.ownsRow base e size v n xs) (hg : w.heap.size ≤ g) : v.ownBlock ≠ some g := by
  intro h2
  rcases h.2 with ⟨rfl, _⟩ | ⟨g', cap, cur, rfl, _, hh, _⟩
  · simp [Value.ownBlock] at h2
  · simp only [Value.ownBlock, Option.some.injEq] at h2
    subst h2
    rw [Array.getElem?_eq_none hg] at hh
    cases hh
/-- a text's bytes behind a row: where the row lies then -/
theorem run_str2 {w : World} (ty : TypeId) {base n c : Nat} {A : Option Addr} {xs : List Value} (hown : w.ownsRow base 5 1 (.slice A n c) n xs) (s : ByteArray) (hb : n + s.size ≤ 100000000) (hbase : base ≤ w.heap.size) :
    ∃ A' c' w', (Builtin.append_ #[28, 9] ty #[.slice A n c, .string s]).run Try.prog w = .ok (.slice A' (n + s.size) c') w' ∧ w'.ownsRow base 5 1 (.slice A' (n + s.size) c') (n + s.size) (xs ++ by8 (sb s)) ∧
      w.grownBy w' (Value.slice A n c).ownBlock ∧ ((Value.slice A' (n + s.size) c').ownBlock = (Value.slice A n c).ownBlock ∨ (Value.slice A' (n + s.size) c').ownBlock = some w.heap.size) := by
  have hi : (Try.prog.info? 5).map (fun i => (i.zero, i.size, i.bytes)) = some (some (.int .u8 0), 1, 1) := by kernel_rfl
  obtain ⟨i, h1, h2, h3, h4⟩ := info_parts hi
  have hu : Try.prog.underlying 9 = some .string := by kernel_rfl
  obtain ⟨v', w', hr, h5, h6, h7⟩ := Lib.run_append_own_string (P := Try.prog) w base 28 9 ty 5 i EU8.und hu h1 h2 h3 h4 _ n xs hown s (by unfold maxLen; omega) (by omega) hbase
  obtain ⟨A', c', rfl⟩ := own_form h5
  rw [sb_cells] at h5
  refine ⟨A', c', w', hr, h5, h6, ?_⟩
  rcases hown.2 with ⟨e, rfl⟩ | ⟨g, cap, cur, e, hbg, hg, hnc, hcm, hcs, htake⟩
  · injection e with e1 e2 e3
    subst e1; subst e3
    by_cases hm : s.size = 0
    · have := h7.2 ⟨rfl, hm⟩
      injection this with q1 q2 q3
      subst q1
      left; simp [Value.ownBlock]
    · have hr2 := run_append_nil_string (P := Try.prog) w 28 9 ty 5 i (.int .u8 0) EU8.und hu h1 h2 s (by omega) (by omega) (by rw [h4]; omega)
      rw [hr2] at hr
      injection hr with q _
      injection q with q1 q2 q3
      subst q1
      right; simp [Value.ownBlock]
  · injection e with e1 e2 e3
    subst e1; subst e3
    by_cases hroom : n + s.size ≤ c
    · have hcs2 : cur.size = c := by simpa using hcs
      have hr2 := Lib.run_append_room_string (P := Try.prog) w 28 9 ty 5 i EU8.und hu h1 h3 g n c cur hg s hroom (by omega)
      rw [hr2] at hr
      injection hr with q _
      injection q with q1 q2 q3
      subst q1
      left; simp [Value.ownBlock]
    · have hxl : xs.length = n := by simpa using hown.1
      have holds : ∀ j u, xs[j]? = some u → w.cell? ((⟨g, 0, none⟩ : Addr).add j) = some u := hown.cells (g := g) rfl
      have hr2 := Lib.run_append_grow_string (P := Try.prog) w 28 9 ty 5 i (.int .u8 0) EU8.und hu h1 h2 ⟨g, 0, none⟩ n c xs (by rw [h3]; simpa using hxl) holds s (by omega) (by omega) (by rw [h4]; exact growslice_fits (by omega) (by omega))
      rw [hr2] at hr
      injection hr with q _
      injection q with q1 q2 q3
      subst q1
      right; simp [Value.ownBlock]
theorem wpList_str2 {w : World} {ops : Array Oper} {rest : List Oper} {o : Oper} {a : Act} {Q : Exit → Act → World → Prop} (hgd : o.guard = none) (s x : Operand)
    (ho : o.op = .call { callee := .builtin .append, args := #[s, x], argTypes := #[28, 9] }) {base n c : Nat} {A : Option Addr} {xs : List Value}
    (hs : a.eval s = .slice A n c) (st : ByteArray) (hx : a.eval x = .string st)
    (hown : w.ownsRow base 5 1 (.slice A n c) n xs) (hb : n + st.size ≤ 100000000) (hbase : base ≤ w.heap.size)
    (h : ∀ A' c' w', w'.ownsRow base 5 1 (.slice A' (n + st.size) c') (n + st.size) (xs ++ by8 (sb st)) → w.grownBy w' (Value.slice A n c).ownBlock → ((Value.slice A' (n + st.size) c').ownBlock = (Value.slice A n c).ownBlock ∨ (Value.slice A' (n + st.size) c').ownBlock = some w.heap.size) → wpList Try.prog ops Q rest (a.put o.dst (.slice A' (n + st.size) c')) w') :
    wpList Try.prog ops Q (o :: rest) a w :=
  wpList_plain hgd fun _ hK => by
    obtain ⟨A', c', w', hrun, h2, h3, h5⟩ := run_str2 (w := w) o.type hown st hb hbase
    unfold Oper.wp execOp
    simp only [ho, resolve, invoke, builtin, Sem.run_bind, Sem.run_pure, Result.andThen_ok, List.map_toArray, List.map_cons, List.map_nil, hs, hx, hrun]
    exact hK _ _ (h A' c' w' h2 h3 h5)
/-- several bytes more -/
theorem Wr.more {w0 V W : World} {g : Nat} {RW : Option Nat} {A A' : Option Addr} {c c' : Nat} {pre new : List Nat} (hW : Wr V g A c pre) (hC : Chg g RW w0 V)
    (hrow : (Value.slice A pre.length c).ownBlock = RW ∨ ∃ b, (Value.slice A pre.length c).ownBlock = some b ∧ w0.heap.size ≤ b) (hg : V.grownBy W (Value.slice A pre.length c).ownBlock)
    (hown : W.ownsRow (g + 1) 5 1 (.slice A' (pre.length + new.length) c') (pre.length + new.length) (by8 pre ++ by8 new)) (hv : (Value.slice A' (pre.length + new.length) c').ownBlock = (Value.slice A pre.length c).ownBlock ∨ (Value.slice A' (pre.length + new.length) c').ownBlock = some V.heap.size) :
    Wr (W.setCell ⟨g, 1, none⟩ (.slice A' (pre.length + new.length) c')) g A' c' (pre ++ new) ∧ Chg g RW w0 (W.setCell ⟨g, 1, none⟩ (.slice A' (pre.length + new.length) c')) ∧
      ((Value.slice A' (pre ++ new).length c').ownBlock = RW ∨ ∃ b, (Value.slice A' (pre ++ new).length c').ownBlock = some b ∧ w0.heap.size ≤ b) := by
  have e1 : (pre ++ new).length = pre.length + new.length := by simp
  refine ⟨?_, (hC.trans (Chg.of_grown hg) hrow).trans (Chg.set 1 _) (.inl rfl), ?_⟩
  · have := hW.put (new := new) hg (A' := A') (c' := c') (by rw [e1, by8_append]; exact hown)
    rw [e1] at this
    exact this
  · rw [e1]
    rcases hv with hv | hv
    · rw [hv]; exact hrow
    · exact .inr ⟨_, hv, hC.size⟩


set_option maxHeartbeats 1000000 in
set_option maxRecDepth 100000 in
theorem clone8_any (A : Option Addr) (cap : Nat) (l : List Nat) (w : World) (hl : l.length ≤ 10000000) (hs : Sl w A (by8 l)) :
    Calls Try.prog 69 #[.slice A l.length cap] w fun e w' => BRow w.heap.size w' e l ∧ Below w.heap.size w w' := by
  cases A with
  | none =>
    have hn : l = [] := by
      cases l with
      | nil => rfl
      | cons g m => obtain ⟨b, o, e, _⟩ := hs.byte (j := 0) (by simp); cases e
    subst hn
    have hnil := fun w : World => Go.Lib.run_eql_slice_nil (P := Try.prog) w 28 5 none 0 cap 0 0 EU8.und
    go_enter Try.func69, Try.ntmps69
    go_wp2_with fail
    go_ret
    exact ⟨⟨none, 0, rfl, own_nil _ _ _⟩, Below.refl _ _⟩
  | some ad =>
    have hnil := fun w : World => Go.Lib.run_eql_slice_nil (P := Try.prog) w 28 5 (some ad) l.length cap 0 0 EU8.und
    go_enter Try.func69, Try.ntmps69
    go_wp2_with (first
      | (at_builtin; refine wpList_app rfl (.tmp 5) (.tmp 6) rfl EU8 rfl rfl (World.ownsRow_made (w := w) #[] 0 (Nat.le_refl _) (Nat.zero_le _) rfl) (m := l.length) (by rw [by8_length, Nat.mul_one]) (hs.alloc _) (by8_one l) (by unfold maxLen; omega) (by omega) (by simp) ?_; intro A2 c2 w2 hown2 hg2 hb2; simp only [Nat.zero_add, List.nil_append] at hown2)
      | fail)
    refine bodyPost_ret (results_tmp rfl _ _ _) rfl ⟨⟨A2, c2, by simp, by simpa using hown2⟩, ?_⟩
    exact Below.trans ((Below.refl _ _).alloc (Nat.le_refl _) _) hb2
set_option maxHeartbeats 1000000 in
set_option maxRecDepth 100000 in
theorem wdone_any (g : Nat) (A : Option Addr) (c : Nat) (bs : List Nat) (w : World) (hW : Wr w g A c bs) (hbl : bs.length ≤ 10000000) :
    Calls Try.prog 31 #[.pointer (some ⟨g, 0, none⟩)] w fun e w' => BRow w.heap.size w' e bs ∧ Below w.heap.size w w' := by
  have hFT := wfit_any g true _ w hW.blk
  go_enter Try.func31, Try.ntmps31
  go_wp2_with fail
  refine hFT.mono ?_
  rintro e w1 ⟨rfl, hb⟩
  have hW1 := hW.below hb
  have hz := hb.size
  obtain ⟨k0, k1, z1, z2, lg⟩ := blk_got hW1.blk
  clear hFT
  go_wp2_with fail
  refine (clone8_any A c bs w1 hbl (Sl.of_own hW1.own)).mono ?_
  rintro e w2 ⟨⟨A3, c3, rfl, own3⟩, hb2⟩
  have hB := since_step hb hb2
  go_wp2_with fail
  go_ret
  exact ⟨⟨A3, c3, rfl, own_base own3 hz⟩, hB⟩
/-- a writer that no call made -/
def NoW (w : World) (p : Value) : Prop := Calls Try.prog 67 #[p] w fun e w' => e = .returned (.bool false) ∧ Below w.heap.size w w'

set_option maxHeartbeats 1000000 in
set_option maxRecDepth 100000 in
theorem wint_no (p : Value) (A : Option Addr) (n cap : Nat) (w : World) (h : NoW w p) :
    Calls Try.prog 28 #[p, .slice A n cap] w fun e w' => e = .returned p ∧ Below w.heap.size w w' := by
  unfold NoW at h
  go_enter Try.func28, Try.ntmps28
  go_wp2_with fail
  refine h.mono ?_
  rintro e w1 ⟨rfl, hb⟩
  go_wp2_with fail
  go_ret
  exact ⟨rfl, hb⟩


set_option maxHeartbeats 1000000 in
set_option maxRecDepth 100000 in
theorem wdone_no (p : Value) (w : World) (h : NoW w p) :
    Calls Try.prog 31 #[p] w fun e w' => e = .returned (.slice none 0 0) ∧ Below w.heap.size w w' := by
  unfold NoW at h
  go_enter Try.func31, Try.ntmps31
  go_wp2_with fail
  refine h.mono ?_
  rintro e w1 ⟨rfl, hb⟩
  go_wp2_with fail
  go_ret
  exact ⟨rfl, hb⟩
end Go.Proofs.Ytpmnjojednbnpaa
