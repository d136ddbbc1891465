import Derived.Test.YtmjndpkfhdoljaaGreatCc03
import Derived.Test.YtmjndpkfhdoljaaGreatCc22
import Derived.Test.YtmjndpkfhdoljaaGreatCc33
set_option maxHeartbeats 16000000
set_option maxRecDepth 100000
set_option linter.unusedVariables false
set_option linter.unusedSimpArgs false
namespace Go.Proofs.YtmjndpkfhdoljaaGreat
open Go.ChangeShapes Go.WideShapes Go.ChangeAt Go.RowKit
section
def AX (w : World) (g : Nat) (id mem kind : Int) (A : Option Addr) (n c : Nat) : Prop := Bk w g #[.int .i64 id, .int .i64 mem, .int .i64 kind, .slice A n c] ∧ w.frozen? ⟨g, 0, none⟩ = false ∧ w.frozen? ⟨g, 1, none⟩ = false ∧ w.frozen? ⟨g, 2, none⟩ = false ∧ w.frozen? ⟨g, 3, none⟩ = false
theorem AX.new (w : World) (id mem kind : Int) (A : Option Addr) (n c : Nat) (t : TypeId) : AX (w.alloc (.cells #[.int .i64 id, .int .i64 mem, .int .i64 kind, .slice A n c] t)) w.heap.size id mem kind A n c := ⟨Bk.new _ _ _, by simp, by simp, by simp, by simp⟩
theorem AX.below {w w' : World} {g : Nat} {id mem kind : Int} {A : Option Addr} {n c : Nat} (h : AX w g id mem kind A n c) (hb : Below w.heap.size w w') : AX w' g id mem kind A n c :=
  ⟨h.1.below hb, (hb.frozen (p := ⟨g, 0, none⟩) h.1.1).trans h.2.1, (hb.frozen (p := ⟨g, 1, none⟩) h.1.1).trans h.2.2.1, (hb.frozen (p := ⟨g, 2, none⟩) h.1.1).trans h.2.2.2.1, (hb.frozen (p := ⟨g, 3, none⟩) h.1.1).trans h.2.2.2.2⟩
theorem AX.got {w : World} {g : Nat} {id mem kind : Int} {A : Option Addr} {n c : Nat} (h : AX w g id mem kind A n c) : g < w.heap.size ∧ (w.cell? ⟨g, 0, none⟩ = some (.int .i64 id) ∧ w.cell? ⟨g, 1, none⟩ = some (.int .i64 mem) ∧ w.cell? ⟨g, 2, none⟩ = some (.int .i64 kind) ∧ w.cell? ⟨g, 3, none⟩ = some (.slice A n c)) ∧ (w.frozen? ⟨g, 0, none⟩ = false ∧ w.frozen? ⟨g, 1, none⟩ = false ∧ w.frozen? ⟨g, 2, none⟩ = false ∧ w.frozen? ⟨g, 3, none⟩ = false) :=
  ⟨h.1.1, ⟨h.1.2 0, h.1.2 1, h.1.2 2, h.1.2 3⟩, h.2⟩
theorem AX.set2 {w : World} {g : Nat} {id mem kind : Int} {A : Option Addr} {n c : Nat} (h : AX w g id mem kind A n c) (a2 : Value) : Bk (w.setCell ⟨g, 2, none⟩ a2) g #[.int .i64 id, .int .i64 mem, a2, .slice A n c] := by
  obtain ⟨h0, ⟨h1, h2, h3, h4⟩, _⟩ := h.got
  have hk := h.1.2
  refine ⟨by simpa using h0, fun o => ?_⟩
  rcases o with _ | _ | _ | _ | o
  · simp [cell_set, h1, h2, h3, h4]
  · simp [cell_set, h1, h2, h3, h4]
  · simp [cell_set, h1, h2, h3, h4]
  · simp [cell_set, h1, h2, h3, h4]
  · have := hk (o + 1 + 1 + 1 + 1)
    simp [cell_set] at this ⊢
    exact this
theorem short25_any (id mem kind : Int) (A : Option Addr) (cap : Nat) (L : List Nt) (w : World) (hc : L.length ≤ cap) (hcm : cap ≤ maxLen) (hs : Sl w A (rc Nt.cells L)) :
    Calls Tryz.prog 6 #[.agg #[.int .i64 id, .int .i64 mem, .int .i64 kind, .slice A L.length cap]] w fun e w' => e = .returned (.agg #[.int .i64 id, .int .i64 mem, .int .i64 kind, .slice A (L.take 20).length cap]) ∧ Below w.heap.size w w' := by
  have hB : ∀ n, Below w.heap.size w ((w.alloc (.cells #[.int .i64 id, .int .i64 mem, .int .i64 kind, .slice A n cap] 31)).alloc (.cells #[.int .i64 id, .int .i64 mem, .int .i64 kind, .slice A n cap] 31)) := fun n => since_alloc (since_alloc (Below.refl _ w) _) _
  unfold maxLen at hcm
  by_cases h : 20 < L.length
  · have hl : (L.take 20).length = 20 := by simp; omega
    rw [hl]
    have h40 : 20 ≤ cap := by omega
    have hi : (20 : Int) < (L.length : Int) := by omega
    cases A with
    | none => obtain ⟨b, o, e, _⟩ := hs.nt (k := 0) (by omega); cases e
    | some ad =>
      go_enter Tryz.func6, Tryz.ntmps6
      go_wp2
      refine bodyPost_ret (v := .agg #[.int .i64 id, .int .i64 mem, .int .i64 kind, .slice (some ad) 20 cap]) ?_ rfl ⟨rfl, ?_⟩
      · simp [results, Tryz.results6, go_sem]
      · exact hB 20
  · have hl : (L.take 20).length = L.length := by simp; omega
    rw [hl]
    have hi : ¬ (20 : Int) < (L.length : Int) := by omega
    go_enter Tryz.func6, Tryz.ntmps6
    go_wp2
    refine bodyPost_ret (v := .agg #[.int .i64 id, .int .i64 mem, .int .i64 kind, .slice A L.length cap]) ?_ rfl ⟨rfl, ?_⟩
    · simp [results, Tryz.results6, go_sem]
    · exact hB L.length
end
section
def TRes (w' : World) (e : Ending) (R : Int × List Cn) : Prop :=
  ∃ (l : List Ac) (A' : Option Addr) (c' : Nat), e = .returned (.tuple #[.slice A' l.length c', .int .i64 R.1]) ∧ Sl w' A' (rc Ac.cells l) ∧ Tab w' l R.2
theorem TRes.nil (w' : World) (n : Int) : TRes w' (.returned (.tuple #[.slice none 0 0, .int .i64 n])) (n, []) := ⟨[], none, 0, rfl, Sl.nil, Tab.nil _⟩
theorem Tab.map {w : World} {g : Ac} {c : Cn} (hg : AcIs w g c) : ∀ {l : List Ac} {cs : List Cn}, Tab w l cs → Tab w (l.map fun y => if idQ g.id y = true then g else y) (cs.map fun y => if (y.id == c.id) = true then c else y)
  | [], [], _ => Tab.nil w
  | [], _ :: _, h => by have := h.1; simp at this
  | _ :: _, [], h => by have := h.1; simp at this
  | a :: l, d :: cs, h => by
    obtain ⟨h1, h2⟩ := Tab.cons.1 h
    have e1 : idQ g.id a = (d.id == c.id) := by simp only [idQ, h1.id, hg.id]
    simp only [List.map_cons]
    rw [e1]
    refine Tab.cons.2 ⟨?_, Tab.map hg h2⟩
    split
    · exact hg
    · exact h1
end
section
def Ac.TellsOn (l : List Ac) (F : Nat) (caps : Array Value) (p : Ac → Bool) (B : Nat) (w : World) : Prop :=
  ∀ g ∈ l, ∀ W, Below B w W → Calls Tryz.prog F (#[g.val] ++ caps) W fun e w' => e = .returned (.bool (p g)) ∧ Below W.heap.size W w'
theorem Ac.TellsOn.below {l : List Ac} {F : Nat} {caps : Array Value} {p : Ac → Bool} {B : Nat} {w w1 : World} (h : Ac.TellsOn l F caps p B w) (hb : Below B w w1) {C : Nat} (hC : B ≤ C) : Ac.TellsOn l F caps p C w1 :=
  fun g hg W hW => h g hg W (hb.trans (hW.mono hC))
end
section
def ATabRel2 (l : List Ac) (n : Nat) (w : World) (out i : Value) (wr : World) : Prop :=
  ∃ (k : Nat) (R : List Ac) (A' : Option Addr) (c' : Nat), k ≤ n ∧ k ≤ 20 ∧ i = .int .i64 k ∧ out = .slice A' R.length c' ∧ wr.ownsRow w.heap.size 31 4 (.slice A' R.length c') R.length (rc Ac.cells R) ∧ SortedQ R ∧ GoodA w R ∧ (∀ g ∈ R, g ∈ l) ∧ R.length ≤ k ∧ Below w.heap.size w wr
def ATabRes2 (l : List Ac) (w w' : World) (e : Ending) : Prop :=
  ∃ (R : List Ac) (A' : Option Addr) (c' : Nat), e = .returned (.slice A' R.length c') ∧ w'.ownsRow w.heap.size 31 4 (.slice A' R.length c') R.length (rc Ac.cells R) ∧ SortedQ R ∧ GoodA w R ∧ (∀ g ∈ R, g ∈ l) ∧ R.length ≤ 20
theorem rtableq_any2 (A : Option Addr) (cap : Nat) (l : List Ac) (w : World) (hs : Sl w A (rc Ac.cells l)) (hd : Deep w l) :
    Calls Tryz.prog 12 #[.slice A l.length cap] w fun e w' => ATabRes2 l w w' e ∧ Below w.heap.size w w' := by
  go_enter Tryz.func12, Tryz.ntmps12
  go_wp2_with fail
  go_loopw [3, 4] (fun out i wr => ATabRel2 l l.length w out i wr) (fun _ i _ => l.length - (intOf i).toNat)
  case atStart => exact ⟨0, [], none, 0, by omega, by omega, rfl, rfl, own_nil _ _ _, List.Pairwise.nil, (fun g h => by cases h), (fun g h => by cases h), by simp, Below.refl _ _⟩
  case round =>
    obtain ⟨k, R, A', c', hk, hk20, rfl, rfl, hown, hsd, hgd, hme, hRk, hB⟩ := hrel
    by_cases hgo : k < l.length ∧ k < 20
    · obtain ⟨hlt, hlt20⟩ := hgo
      obtain ⟨b, o, rfl, hbw, hg⟩ := (hs.below hB).ac hlt
      obtain ⟨L, e1, e2, e3⟩ := hd l[k] (List.getElem_mem hlt)
      have hlk : (k : Int) < (l.length : Int) := by omega
      have hlk20 : (k : Int) < 20 := by omega
      have hmem := List.getElem_mem hlt
      generalize hvv : l[k] = v at *
      clear hvv
      obtain ⟨vid, vm, vk, vc, vcL, vcC⟩ := v
      simp only at e1 e2 e3
      subst e1
      have hQ : ∀ W, Below wr.heap.size wr W → Calls Tryz.prog 79 #[(⟨vid, vm, vk, vc, L.length, vcC⟩ : Ac).val] W fun e w' => e = .returned (.bool (isE vid vm vk L)) ∧ Below W.heap.size W w' := fun W hW => ris_any_Acct3 vid vm vk vc vcC L W (by omega) ((e3.below hB).below hW)
      have HPT := rputq_any w.heap.size A' c' R ⟨vid, vm, vk, vc, L.length, vcC⟩ (isE vid vm vk L) wr hQ (by omega) hown hsd
      have HSD := Lib.hid hsd
      have HGD := Lib.hid hgd
      have hcase : (putQR (isE vid vm vk L) R ⟨vid, vm, vk, vc, L.length, vcC⟩ = (0, putR ahQ R ⟨vid, vm, vk, vc, L.length, vcC⟩) ∧ okC vid vm vk L) ∨ ∃ n, n ≠ 0 ∧ putQR (isE vid vm vk L) R ⟨vid, vm, vk, vc, L.length, vcC⟩ = (n, []) := by
        unfold putQR
        split
        · exact .inr ⟨2, by decide, rfl⟩
        · rename_i hq
          split
          · exact .inr ⟨12, by decide, rfl⟩
          · refine .inl ⟨rfl, ?_⟩
            by_cases hok : okC vid vm vk L
            · exact hok
            · exact absurd (is_bad hok) (by simpa using hq)
      have HG : Hid (okC vid vm vk L → GoodA w (putR ahQ R ⟨vid, vm, vk, vc, L.length, vcC⟩)) := Lib.hid fun hok g hg => by
        rcases mem_putR _ _ _ hg with rfl | hg
        · exact ⟨L, rfl, e2, e3, hok⟩
        · exact hgd g hg
      have HME : Hid (∀ g ∈ putR ahQ R ⟨vid, vm, vk, vc, L.length, vcC⟩, g ∈ l) := Lib.hid fun g hg => by
        rcases mem_putR _ _ _ hg with rfl | hg
        · exact hmem
        · exact hme g hg
      have HM0 := Lib.hid hme
      have HP : Hid (SortedQ (putR ahQ R ⟨vid, vm, vk, vc, L.length, vcC⟩)) := Lib.hid (pairwise_putR ordQ _ R hsd)
      have hpl := length_putR (ah := ahQ) ⟨vid, vm, vk, vc, L.length, vcC⟩ R
      clear hs hbw hsd hgd hd hQ e3 hme hmem
      obtain ⟨g0, g1, g2, g3⟩ := hg
      simp only at g0 g1 g2 g3
      rcases hcase with ⟨hR, hok⟩ | ⟨n, hn, hR⟩
      · rw [hR] at HPT
        have HG := Lib.hid (HG.out hok)
        clear hR hok
        unfold Ac.val at HPT
        simp only at HPT
        generalize putR ahQ R ⟨vid, vm, vk, vc, L.length, vcC⟩ = M at *
        have HPT := Lib.hid HPT
        go_wp2_with fail
        refine HPT.out.mono ?_
        rintro e w1 ⟨⟨A1, c1, rfl, hown1⟩, hb1⟩
        have hB2 := since_step hB hb1
        have hown2 := own_base hown1 hB.size
        clear hown hown1 hb1 g0 g1 g2 g3
        go_wp2_with fail
        go_roundw
        case rel => exact ⟨k + 1, M, A1, c1, by omega, by omega, by go_num, rfl, hown2, HP.out, HG.out, HME.out, by omega, hB2⟩
        case measure => simp [intOf]; omega
      · rw [hR] at HPT
        clear hR HG HP HME
        unfold Ac.val at HPT
        simp only at HPT
        have HPT := Lib.hid HPT
        have hnb : (n == 0) = false := by simpa using hn
        go_wp2_with fail
        refine HPT.out.mono ?_
        rintro e w1 ⟨⟨A1, c1, rfl, hown1⟩, hb1⟩
        have hB2 := since_step hB hb1
        have hown2 := own_below hown hb1
        clear hown hown1 hb1 g0 g1 g2 g3
        go_wp2_with fail
        go_roundw
        case rel => exact ⟨k + 1, R, A', c', by omega, by omega, by go_num, rfl, hown2, HSD.out, HGD.out, HM0.out, by omega, hB2⟩
        case measure => simp [intOf]; omega
    · have hend : ¬ ((k : Int) < (l.length : Int)) ∨ ((k : Int) < (l.length : Int) ∧ ¬ ((k : Int) < 20)) := by omega
      have HF := Lib.hid (show SortedQ R ∧ GoodA w R ∧ (∀ g ∈ R, g ∈ l) ∧ R.length ≤ 20 from ⟨hsd, hgd, hme, by omega⟩)
      clear hgo hsd hgd hme
      rcases hend with h1 | ⟨h1, h2⟩
      all_goals
        go_wp2_with fail
        go_ret
        exact ⟨⟨R, A', c', rfl, hown, HF.out.1, HF.out.2.1, HF.out.2.2.1, HF.out.2.2.2⟩, hB⟩
theorem GoodA.tab {w : World} : ∀ {R : List Ac}, GoodA w R → ∃ cs : List Cn, Tab w R cs ∧ ∀ c ∈ cs, c.L.length ≤ 20
  | [], _ => ⟨[], Tab.nil w, fun c h => by cases h⟩
  | g :: R, h => by
    obtain ⟨cs, h1, h2⟩ := GoodA.tab (R := R) fun x hx => h x (List.mem_cons_of_mem _ hx)
    obtain ⟨L, e1, e2, e3, _⟩ := h g List.mem_cons_self
    refine ⟨⟨g.id, g.mem, g.kind, L⟩ :: cs, Tab.cons.2 ⟨⟨rfl, rfl, rfl, e1, e3⟩, h1⟩, fun c hc => ?_⟩
    rcases List.mem_cons.1 hc with rfl | hc
    · exact e2
    · exact h2 c hc
end
end Go.Proofs.YtmjndpkfhdoljaaGreat
