import Derived.Test.YtiggcpfmmgmncaaSp24
section
namespace Go.Proofs.Ytiggcpfmmgmncaa
open Go.ChangeShapes Go.WideShapes Go.ChangeAt Go.RowKit
set_option linter.unusedVariables false
set_option linter.unusedSimpArgs false

def Sc.add (x : Sc) (l : List Nat) (p : Nat) : Sc := { x with L := x.L ++ [l], used := x.used + p }
def Sc.row (x : Sc) (A : Option Addr) (c : Nat) : Value := .slice A x.L.length c
set_option maxHeartbeats 4000000 in
set_option maxRecDepth 100000 in
theorem sadd_any {B s b c : Nat} {A : Option Addr} {R : List (RowS Nat)} {x : Sc} (rA : Option Addr) (rc_ : Nat) (l : List Nat) (p : Nat) (w : World) (h : ScA B w s b A c R x) (hB : B ≤ w.heap.size) (ho : w.ownsRow B 5 1 (.slice rA l.length rc_) l.length (by8 l)) (hp : x.used + p ≤ 1000000) (hL : x.L.length < 1000000) :
    Calls Try.prog 57 #[.pointer (some ⟨s, 0, none⟩), .slice rA l.length rc_, .int .i64 p] w fun e w' => e = .returned (.tuple #[]) ∧ ∃ A' c', ScA B w' s b A' c' (R ++ [⟨rA, rc_, l⟩]) (x.add l p) ∧ ChgL (s :: (x.row A c).ownBlock.toList) w w' ∧
      (((x.add l p).row A' c').ownBlock = (x.row A c).ownBlock ∨ ∃ k, w.heap.size ≤ k ∧ ((x.add l p).row A' c').ownBlock = some k) := by
  obtain ⟨k0, k1, k2, k3, k4, k5, k6, k7⟩ := h.got
  have hlt := h.lt
  have H := Lib.hid h
  have HO := Lib.hid ho
  have hrs := h.off h.own (by decide)
  have HRS := Lib.hid hrs
  have hw : IntKind.i64.wrap ((x.used : Int) + (p : Int)) = ((x.used + p : Nat) : Int) := by rw [IntKind.wrap_i64]; omega
  obtain ⟨n, hn⟩ : ∃ n, x.L.length = n := ⟨_, rfl⟩
  have HN := Lib.hid hn
  have hown := h.own
  rw [hn] at k5 hown hL
  have HOWN := Lib.hid hown
  have HL := Lib.hid hL
  have HB := Lib.hid hB
  obtain ⟨u, hu⟩ : ∃ u, x.used = u := ⟨_, rfl⟩
  have HU := Lib.hid hu
  rw [hu] at k6 hw
  have HP := Lib.hid hp
  clear h ho hrs hown hn hu hp hL hB k0 k1 k2 k3 k4 k7
  go_enter Try.func57, Try.ntmps57
  go_wp2_with (first
    | (at_builtin; refine wpList_app2 rfl (.tmp 10) (.tmp 12) rfl EDR rfl rfl (HOWN.out.alloc _) (m := 1) (news := [.slice rA l.length rc_]) rfl (by decide) (Sl.new_ _ _ _) (fun u hu => by simp only [List.mem_cons, List.not_mem_nil, or_false] at hu; subst hu; rfl) (by unfold maxLen; have := HL.out; omega) (by have := HL.out; omega) (by simp only [World.size_alloc]; have := HB.out; omega) ?_; intro A5 c5 w5 own5 hg5 hv5 hb5
       have hs5 : w5.heap[s]? = some (.cells (x.cells b A c) 66 (0, 0)) := by
         rw [hg5.block s (by simp only [World.size_alloc]; omega) (fun e => HRS.out (by rw [HN.out]; exact e.symm)), Below.heap_alloc _ _ _ hlt]
         exact H.out.blk
       have q5 : w5.cell? ⟨s, 5, none⟩ = some (.slice A n c) := by rw [cell_of_row w5 s 5 _ _ (0, 0) hs5, ← HN.out]; rfl
       have q6 : w5.cell? ⟨s, 6, none⟩ = some (.int .i64 u) := by rw [cell_of_row w5 s 6 _ _ (0, 0) hs5, ← HU.out]; rfl
       have z5 : w5.frozen? ⟨s, 5, none⟩ = false := by simp [World.frozen?, hs5]
       have z6 : w5.frozen? ⟨s, 6, none⟩ = false := by simp [World.frozen?, hs5]
       have hlt5 : s < w5.heap.size := (Array.getElem?_eq_some_iff.1 hs5).1
       have HS5 := Lib.hid hs5
       clear hs5)
    | fail)
  go_end0
  have h := H.out
  have e2 := set_blk (i := 6) (.int .i64 ((u : Int) + (p : Int))) (set_blk (i := 5) (.slice A5 (n + 1) c5) HS5.out)
  have hxn : (x.add l p).L.length = n + 1 := by simp [Sc.add, HN.out]
  have hoff5 : (Value.slice A5 (n + 1) c5).ownBlock ≠ some s := own_type own5 HS5.out (by decide)
  have key : ∀ (v : Value) (m : Nat) (xs : List Value), w.ownsRow B 5 1 v m xs → ((w5.setCell ⟨s, 5, none⟩ (.slice A5 (n + 1) c5)).setCell ⟨s, 6, none⟩ (.int .i64 ((u : Int) + (p : Int)))).ownsRow B 5 1 v m xs := fun v m xs ho => by
    have h1 := own_kept_types (by decide) (ho.alloc (.cells #[.slice rA l.length rc_] 36)) (HOWN.out.alloc _) hg5
    have h2 : v.ownBlock ≠ some s := own_type h1 HS5.out (by decide)
    exact own_far1 (own_far1 h1 (p := ⟨s, 5, none⟩) h2 _) (p := ⟨s, 6, none⟩) h2 _
  refine ⟨rfl, A5, c5, ⟨?_, ?_, ?_, ?_, h.ge, ?_⟩, ?_, ?_⟩
  · have e3 : ((x.add l p).cells b A5 c5) = (((x.cells b A c).setIfInBounds 5 (.slice A5 (n + 1) c5)).setIfInBounds 6 (.int .i64 ((u : Int) + (p : Int)))) := by
      simp [Sc.cells, Sc.add, HN.out, HU.out]
    rw [e3]; exact e2
  · rw [hxn, rc_append]
    exact own_far1 (own_far1 own5 (p := ⟨s, 5, none⟩) hoff5 _) (p := ⟨s, 6, none⟩) hoff5 _
  · intro r hr
    rcases List.mem_append.1 hr with h1 | h1
    · exact key _ _ _ (h.rows r h1)
    · rw [List.mem_singleton] at h1
      subst h1
      exact key _ _ _ HO.out
  · rw [List.map_append, h.map]; rfl
  · have := h.small
    have := HP.out
    have := HL.out
    refine ⟨h.small.1, h.small.2.1, HP.out, ?_⟩
    rw [hxn]; omega
  · have hrow : (x.row A c) = .slice A n c := by unfold Sc.row; rw [HN.out]
    rw [hrow]
    refine (((ChgL.of_below (since_alloc (Below.refl _ w) (.cells #[.slice rA l.length rc_] 36))).trans (ChgL.of_grown (l := s :: (Value.slice A n c).ownBlock.toList) hg5 (fun k hk => by simp [hk])) (fun y hy => .inl hy)).trans (ChgL.set (l := s :: (Value.slice A n c).ownBlock.toList) 5 _ (by simp)) (fun y hy => .inl hy)).trans (ChgL.set (l := s :: (Value.slice A n c).ownBlock.toList) 6 _ (by simp)) (fun y hy => .inl hy)
  · have hrow : (x.row A c) = .slice A n c := by unfold Sc.row; rw [HN.out]
    have hrow2 : ((x.add l p).row A5 c5) = .slice A5 (n + 1) c5 := by unfold Sc.row; rw [hxn]
    rw [hrow, hrow2]
    rcases hv5 with e | e
    · exact .inl e
    · exact .inr ⟨_, by rw [World.size_alloc]; omega, e⟩
end Go.Proofs.Ytiggcpfmmgmncaa
end
section
namespace Go.Proofs.Ytiggcpfmmgmncaa
open Go.ChangeShapes Go.WideShapes Go.ChangeAt Go.RowKit
set_option linter.unusedVariables false
set_option linter.unusedSimpArgs false

def scanF (S : List (List Nat)) (t : Nat) (era : Int) : Nat → Nat → Nat → Int → List (List Nat) × Nat
  | 0, q, _, _ => ([], q)
  | k + 1, q, n, life => match readF S q t with
    | none => ([], q)
    | some (b, f) => if f.era = era ∧ f.seq = ((n + 1 : Nat) : Int) ∧ life ≤ f.life then (b :: (scanF S t era k (q + f.parts.toNat) (n + 1) f.life).1, (scanF S t era k (q + f.parts.toNat) (n + 1) f.life).2) else ([], q)
theorem readF_parts {S : List (List Nat)} {i t : Int} {b : List Nat} {f : Fr} (h : readF S i t = some (b, f)) : 1 ≤ f.parts ∧ f.parts ≤ 255 ∧ f.parts ≤ t - i ∧ i < t ∧ f.ok = true := by
  obtain ⟨h1, h2, h3, _⟩ := readF_iff.1 h
  have hok := (Fr.ok_iff f).1 (frD_some h2).2.2.2
  exact ⟨hok.2.2.2.2.2.2.1, hok.2.2.2.2.2.2.2.1, h3, h1, (frD_some h2).2.2.2⟩
theorem scanF_fuel (S : List (List Nat)) (t : Nat) (era : Int) : ∀ (k m q n : Nat) (life : Int), t - q ≤ k → t - q ≤ m → scanF S t era k q n life = scanF S t era m q n life
  | 0, 0, _, _, _, _, _ => rfl
  | 0, m + 1, q, n, life, h, _ => by
    rw [scanF, scanF, readF_ge (by omega)]
  | k + 1, 0, q, n, life, _, h => by
    rw [scanF, scanF, readF_ge (by omega)]
  | k + 1, m + 1, q, n, life, h1, h2 => by
    rw [scanF, scanF]
    cases hr : readF S q t with
    | none => rfl
    | some x =>
      obtain ⟨b, f⟩ := x
      have hp := readF_parts hr
      simp only
      rw [scanF_fuel S t era k m (q + f.parts.toNat) (n + 1) f.life (by omega) (by omega)]
def scan (S : List (List Nat)) (t : Nat) (era : Int) (q n : Nat) (life : Int) : List (List Nat) × Nat := scanF S t era (t - q) q n life
theorem scan_stop {S : List (List Nat)} {t : Nat} {era : Int} {q n : Nat} {life : Int} (h : ∀ b f, readF S q t = some (b, f) → ¬ (f.era = era ∧ f.seq = ((n + 1 : Nat) : Int) ∧ life ≤ f.life)) : scan S t era q n life = ([], q) := by
  unfold scan
  cases hk : t - q with
  | zero => rfl
  | succ k =>
    rw [scanF]
    cases hr : readF S q t with
    | none => rfl
    | some x =>
      obtain ⟨b, f⟩ := x
      simp only
      rw [if_neg (h b f hr)]
theorem scan_go {S : List (List Nat)} {t : Nat} {era : Int} {q n : Nat} {life : Int} {b : List Nat} {f : Fr} (hr : readF S q t = some (b, f)) (h : f.era = era ∧ f.seq = ((n + 1 : Nat) : Int) ∧ life ≤ f.life) :
    scan S t era q n life = (b :: (scan S t era (q + f.parts.toNat) (n + 1) f.life).1, (scan S t era (q + f.parts.toNat) (n + 1) f.life).2) := by
  have hp := readF_parts hr
  unfold scan
  obtain ⟨k, hk⟩ : ∃ k, t - q = k + 1 := ⟨t - q - 1, by omega⟩
  rw [hk, scanF, hr]
  simp only
  rw [if_pos h, scanF_fuel S t era k (t - (q + f.parts.toNat)) (q + f.parts.toNat) (n + 1) f.life (by omega) (Nat.le_refl _)]
theorem readF_len {S : List (List Nat)} {i t : Int} {b : List Nat} {f : Fr} (h : readF S i t = some (b, f)) : b.length ≤ 20400 := by
  obtain ⟨h1, h2, h3, l, h4, h5⟩ := readF_iff.1 h
  have hp := readF_parts h
  obtain ⟨ll, _⟩ := takeF_iff.1 h4
  have hd := takeF_data h4
  have hb : b = dataJ l ∨ b = [] := by
    cases l with
    | nil => right; exact (congrArg Prod.fst h5).symm
    | cons f0 l0 =>
      by_cases hc : (decide ((((f0 :: l0).length : Nat) : Int) = f0.parts) && allJ f0 (f0 :: l0).length 0 (f0 :: l0)) = true
      · left
        have e : joinF (f0 :: l0) = (dataJ (f0 :: l0), true) := if_pos hc
        rw [e] at h5
        exact (congrArg Prod.fst h5).symm
      · right
        have e : joinF (f0 :: l0) = ([], false) := if_neg hc
        rw [e] at h5
        exact (congrArg Prod.fst h5).symm
  rcases hb with rfl | rfl
  · have := dataJ_len hd
    omega
  · simp
theorem DrA.chgL {B b g kc : Nat} {w w' : World} {K : Option Addr} {d : Dv} {l : List Nat} (h : DrA B w b g K kc d) (hc : ChgL l w w') (hb : b ∉ l) (hg : g ∉ l) (hk : ∀ x ∈ l, (Value.slice K d.keep.length kc).ownBlock ≠ some x) : DrA B w' b g K kc d :=
  ⟨by rw [hc.block b h.lt.1 hb]; exact h.blk, by rw [hc.block g h.lt.2 hg]; exact h.row, hc.own h.kp hk, h.ge, h.s96, h.oct, h.len, h.sp, h.kl⟩
theorem DrA.scroll {B b g kc B2 s b2 c : Nat} {w w' : World} {K A : Option Addr} {d : Dv} {R : List (RowS Nat)} {x : Sc} (h : DrA B w b g K kc d) (hs : ScA B2 w s b2 A c R x) (hc : ChgL (s :: (x.row A c).ownBlock.toList) w w') : DrA B w' b g K kc d := by
  have hrow := h.off hs.own (by decide) (by decide)
  refine h.chgL hc ?_ ?_ ?_
  · intro hm
    rcases List.mem_cons.1 hm with e | e
    · have h1 := h.blk
      rw [e, hs.blk] at h1
      injection h1 with h1
      injection h1 with _ h2
      exact absurd h2 (by decide)
    · exact hrow.1 (Option.mem_def.1 (Option.mem_toList.1 e))
  · intro hm
    rcases List.mem_cons.1 hm with e | e
    · have h1 := h.row
      rw [e, hs.blk] at h1
      injection h1 with h1
      injection h1 with _ h2
      exact absurd h2 (by decide)
    · exact hrow.2 (Option.mem_def.1 (Option.mem_toList.1 e))
  · intro y hy
    rcases List.mem_cons.1 hy with e | e
    · subst e
      exact own_type h.kp hs.blk (by decide)
    · have e2 : (x.row A c).ownBlock = some y := Option.mem_def.1 (Option.mem_toList.1 e)
      intro e3
      rcases hs.own.2 with ⟨hv, _⟩ | ⟨k, cap, cur, hv, hk2, hh, _⟩
      · unfold Sc.row at e2; rw [hv] at e2; simp [Value.ownBlock] at e2
      · unfold Sc.row at e2
        rw [hv] at e2
        simp [Value.ownBlock] at e2
        subst e2
        exact own_type h.kp hh (by decide) e3
end Go.Proofs.Ytiggcpfmmgmncaa
end
