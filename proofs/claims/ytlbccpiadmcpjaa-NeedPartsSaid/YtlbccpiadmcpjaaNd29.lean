import Derived.Test.YtlbccpiadmcpjaaNd04
import Derived.Test.YtlbccpiadmcpjaaNd28
section
namespace Go.Proofs.Ytlbccpiadmcpjaa
open Go.ChangeShapes Go.WideShapes Go.ChangeAt Go.RowKit
set_option linter.unusedVariables false
set_option linter.unusedSimpArgs false

def AX (w : World) (g : Nat) (id mem kind : Int) (A : Option Addr) (n c : Nat) : Prop := Bk w g #[.int .i64 id, .int .i64 mem, .int .i64 kind, .slice A n c] ∧ w.frozen? ⟨g, 0, none⟩ = false ∧ w.frozen? ⟨g, 1, none⟩ = false ∧ w.frozen? ⟨g, 2, none⟩ = false ∧ w.frozen? ⟨g, 3, none⟩ = false
theorem AX.new (w : World) (id mem kind : Int) (A : Option Addr) (n c : Nat) (t : TypeId) : AX (w.alloc (.cells #[.int .i64 id, .int .i64 mem, .int .i64 kind, .slice A n c] t)) w.heap.size id mem kind A n c := ⟨Bk.new _ _ _, by simp, by simp, by simp, by simp⟩
theorem AX.below {w w' : World} {g : Nat} {id mem kind : Int} {A : Option Addr} {n c : Nat} (h : AX w g id mem kind A n c) (hb : Below w.heap.size w w') : AX w' g id mem kind A n c :=
  ⟨h.1.below hb, (hb.frozen (p := ⟨g, 0, none⟩) h.1.1).trans h.2.1, (hb.frozen (p := ⟨g, 1, none⟩) h.1.1).trans h.2.2.1, (hb.frozen (p := ⟨g, 2, none⟩) h.1.1).trans h.2.2.2.1, (hb.frozen (p := ⟨g, 3, none⟩) h.1.1).trans h.2.2.2.2⟩
theorem AX.got {w : World} {g : Nat} {id mem kind : Int} {A : Option Addr} {n c : Nat} (h : AX w g id mem kind A n c) : g < w.heap.size ∧ (w.cell? ⟨g, 0, none⟩ = some (.int .i64 id) ∧ w.cell? ⟨g, 1, none⟩ = some (.int .i64 mem) ∧ w.cell? ⟨g, 2, none⟩ = some (.int .i64 kind) ∧ w.cell? ⟨g, 3, none⟩ = some (.slice A n c)) ∧ (w.frozen? ⟨g, 0, none⟩ = false ∧ w.frozen? ⟨g, 1, none⟩ = false ∧ w.frozen? ⟨g, 2, none⟩ = false ∧ w.frozen? ⟨g, 3, none⟩ = false) :=
  ⟨h.1.1, ⟨h.1.2 0, h.1.2 1, h.1.2 2, h.1.2 3⟩, h.2⟩
theorem AX.set4 {w : World} {g : Nat} {id mem kind : Int} {A : Option Addr} {n c : Nat} (h : AX w g id mem kind A n c) (a0 a1 a2 a3 : Value) : Bk ((((w.setCell ⟨g, 0, none⟩ a0).setCell ⟨g, 1, none⟩ a1).setCell ⟨g, 2, none⟩ a2).setCell ⟨g, 3, none⟩ a3) g #[a0, a1, a2, a3] := by
  obtain ⟨h0, ⟨h1, h2, h3, h4⟩, _⟩ := h.got
  have hk := h.1.2
  refine ⟨by simpa using h0, fun o => ?_⟩
  rcases o with _ | _ | _ | _ | o
  · simp [cell_set, h1, h2, h3, h4]
  · simp [cell_set, h1, h2, h3, h4]
  · simp [cell_set, h1, h2, h3, h4]
  · simp [cell_set, h1, h2, h3, h4]
  · have := hk (o + 1 + 1 + 1 + 1)
    simp [cell_set] at this ⊢
    exact this
theorem AX.set2 {w : World} {g : Nat} {id mem kind : Int} {A : Option Addr} {n c : Nat} (h : AX w g id mem kind A n c) (a2 : Value) : Bk (w.setCell ⟨g, 2, none⟩ a2) g #[.int .i64 id, .int .i64 mem, a2, .slice A n c] := by
  obtain ⟨h0, ⟨h1, h2, h3, h4⟩, _⟩ := h.got
  have hk := h.1.2
  refine ⟨by simpa using h0, fun o => ?_⟩
  rcases o with _ | _ | _ | _ | o
  · simp [cell_set, h1, h2, h3, h4]
  · simp [cell_set, h1, h2, h3, h4]
  · simp [cell_set, h1, h2, h3, h4]
  · simp [cell_set, h1, h2, h3, h4]
  · have := hk (o + 1 + 1 + 1 + 1)
    simp [cell_set] at this ⊢
    exact this
theorem ordN : Ord ahN where
  tr := fun a b c h1 h2 => by simp only [ahN, decide_eq_true_eq] at *; omega
  asy := fun a b h => by simp only [ahN, decide_eq_true_eq, decide_eq_false_iff_not] at *; omega
  cong := fun a x b h1 h2 => by simp only [ahN, decide_eq_false_iff_not] at *; have : a.n = x.n := by omega
                                rw [this]
  cong2 := fun a x b h1 h2 => by simp only [ahN, decide_eq_false_iff_not] at *; have : a.n = x.n := by omega
                                 rw [this]
theorem isE_okC {id mem kind : Int} {L : List Nt} (h : isE id mem kind L = true) : okC id mem kind L := by
  unfold isE at h
  split at h
  · assumption
  · cases h
theorem unL_nodup {id mem kind : Int} {L : List Nt} (h : okC id mem kind L) : (unL id kind L).Nodup := by
  unfold unL
  split
  · simp
  · have hr := (rising_pairwise ordN L).1 h.2.2.2.2.2.2.2.2.2
    refine List.pairwise_map.2 (hr.imp fun {a b} hab he => ?_)
    simp only [ahN, decide_eq_true_eq] at hab
    injection he with _ he
    omega
def cntK (P : Un → List Un) (z : Un) (ms : List Un) (k : Nat) : Nat := ((ms.take k).map fun m => (P m).count z).sum
theorem cntK_zero (P : Un → List Un) (z : Un) (ms : List Un) : cntK P z ms 0 = 0 := rfl
theorem cntK_succ (P : Un → List Un) (z : Un) (ms : List Un) {k : Nat} (h : k < ms.length) : cntK P z ms (k + 1) = cntK P z ms k + (P ms[k]).count z := by
  unfold cntK
  rw [take_snoc ms k h, List.map_append, List.sum_append]
  simp
theorem count_step (l : List Un) (z : Un) {j : Nat} (h : j < l.length) : (l.take (j + 1)).count z = (l.take j).count z + (if l[j] = z then 1 else 0) := by
  rw [take_snoc l j h, List.count_append]
  congr 1
  by_cases e : l[j] = z
  · rw [if_pos e, e]; simp
  · rw [if_neg e]; exact List.count_eq_zero.2 (by simpa using fun h => e h.symm)
theorem count_one {l : List Un} (h : l.Nodup) {z : Un} (hz : z ∈ l) : l.count z = 1 := by
  have h1 : 0 < l.count z := List.count_pos_iff.2 hz
  have h2 := List.nodup_iff_count.1 h z
  omega
theorem parts_net {id kind : Int} {L : List Nt} (hk : kind = 2) : partsL id kind L ⟨id, 0⟩ = unL id kind L := by
  unfold partsL nuL
  rw [if_pos hk, if_neg (by simp), if_pos hk]
theorem parts_own {id kind : Int} {L : List Nt} (hk : kind ≠ 2) {m : Un} (hm : m ∈ nuL id kind L) : partsL id kind L m = [m] := by
  unfold partsL
  rw [if_neg (by simpa using hm), if_neg hk]
theorem cnt_total {id mem kind : Int} {L : List Nt} (h : okC id mem kind L) {z : Un} (hz : z ∈ unL id kind L) : cntK (partsL id kind L) z (nuL id kind L) (nuL id kind L).length = 1 := by
  unfold cntK
  rw [List.take_length]
  by_cases hk : kind = 2
  · have e : nuL id kind L = [⟨id, 0⟩] := if_pos hk
    rw [e, List.map_cons, List.map_nil, List.sum_cons, List.sum_nil, parts_net hk]
    rw [count_one (unL_nodup h) hz] <;> rfl
  · have e : (nuL id kind L).map (fun m => (partsL id kind L m).count z) = (nuL id kind L).map fun m => if m = z then 1 else 0 := List.map_congr_left fun m hm => by
      rw [parts_own hk hm]
      by_cases hmz : m = z
      · rw [if_pos hmz, hmz]; simp
      · rw [if_neg hmz]; exact List.count_eq_zero.2 (by simpa using fun h => hmz h.symm)
    have e2 : nuL id kind L = unL id kind L := if_neg hk
    rw [e, e2]
    have e3 : ∀ l : List Un, (l.map fun m => if m = z then 1 else 0).sum = l.count z := fun l => by
      induction l with
      | nil => rfl
      | cons x r ih =>
        rw [List.map_cons, List.sum_cons, ih, List.count_cons]
        by_cases hx : x = z
        · rw [if_pos hx, hx]; simp; omega
        · rw [if_neg hx]; simp [hx]
    rw [e3, count_one (unL_nodup h) hz]
theorem parts_unit {id kind : Int} {L : List Nt} {z m : Un} (hz : z ∈ unL id kind L) (hm : m ∈ nuL id kind L) (hp : z ∈ partsL id kind L m) : m = (unitU id kind L z).1 := by
  have hh : hasU id kind L z = true := decide_eq_true hz
  unfold unitU
  rw [if_neg (by simp [hh])]
  by_cases hk : kind = 2
  · rw [if_pos hk]
    have e : nuL id kind L = [⟨id, 0⟩] := if_pos hk
    rw [e] at hm
    exact List.mem_singleton.1 hm
  · rw [if_neg hk]
    rw [parts_own hk hm] at hp
    exact (List.mem_singleton.1 hp).symm
theorem unit_ok {id kind : Int} {L : List Nt} {z : Un} (hz : z ∈ unL id kind L) : (unitU id kind L z).2 = true := by
  have hh : hasU id kind L z = true := decide_eq_true hz
  unfold unitU
  rw [if_neg (by simp [hh])]
  split <;> rfl
set_option maxHeartbeats 16000000 in
set_option maxRecDepth 100000 in
theorem short25_any (id mem kind : Int) (A : Option Addr) (cap : Nat) (L : List Nt) (w : World) (hc : L.length ≤ cap) (hcm : cap ≤ maxLen) (hs : Sl w A (rc Nt.cells L)) :
    Calls Try.prog 5 #[.agg #[.int .i64 id, .int .i64 mem, .int .i64 kind, .slice A L.length cap]] w fun e w' => e = .returned (.agg #[.int .i64 id, .int .i64 mem, .int .i64 kind, .slice A (L.take 20).length cap]) ∧ Below w.heap.size w w' := by
  have hB : ∀ n, Below w.heap.size w ((w.alloc (.cells #[.int .i64 id, .int .i64 mem, .int .i64 kind, .slice A n cap] 24)).alloc (.cells #[.int .i64 id, .int .i64 mem, .int .i64 kind, .slice A n cap] 24)) := fun n => since_alloc (since_alloc (Below.refl _ w) _) _
  unfold maxLen at hcm
  by_cases h : 20 < L.length
  · have hl : (L.take 20).length = 20 := by simp; omega
    rw [hl]
    have h40 : 20 ≤ cap := by omega
    have hi : (20 : Int) < (L.length : Int) := by omega
    cases A with
    | none => obtain ⟨b, o, e, _⟩ := hs.nt (k := 0) (by omega); cases e
    | some ad =>
      go_enter Try.func5, Try.ntmps5
      go_wp2
      refine bodyPost_ret (v := .agg #[.int .i64 id, .int .i64 mem, .int .i64 kind, .slice (some ad) 20 cap]) ?_ rfl ⟨rfl, ?_⟩
      · simp [results, Try.results5, go_sem]
      · exact hB 20
  · have hl : (L.take 20).length = L.length := by simp; omega
    rw [hl]
    have hi : ¬ (20 : Int) < (L.length : Int) := by omega
    go_enter Try.func5, Try.ntmps5
    go_wp2
    refine bodyPost_ret (v := .agg #[.int .i64 id, .int .i64 mem, .int .i64 kind, .slice A L.length cap]) ?_ rfl ⟨rfl, ?_⟩
    · simp [results, Try.results5, go_sem]
    · exact hB L.length
def liveJ : List Ins := [⟨1, 10, 0, 0, [2, -3]⟩]
def liveP : List Pc := [⟨1, 1, [⟨1, 4⟩]⟩, ⟨1, 2, [⟨1, -4⟩]⟩]
def liveC : List Nt := [⟨1⟩, ⟨2⟩]
theorem add_single {q : Int} (h : q = 4 ∨ q = -4) : addL [[⟨1, q⟩]] = (0, [⟨1, q⟩]) := by
  rcases h with rfl | rfl
  all_goals
    unfold addL addR
    rw [if_pos (by decide)]
  · have e : ((List.range 8).map fun j : Nat => sumG ([[(⟨1, 4⟩ : Lg)]].map fun l => (⟨none, 0, l⟩ : RowS Lg)) ([[(⟨1, 4⟩ : Lg)]].map fun l => (⟨none, 0, l⟩ : RowS Lg)).length j) = [4, 0, 0, 0, 0, 0, 0, 0] := by decide
    rw [e]
    unfold ofR
    rw [if_pos (by decide)]
    rfl
  · have e : ((List.range 8).map fun j : Nat => sumG ([[(⟨1, -4⟩ : Lg)]].map fun l => (⟨none, 0, l⟩ : RowS Lg)) ([[(⟨1, -4⟩ : Lg)]].map fun l => (⟨none, 0, l⟩ : RowS Lg)).length j) = [-4, 0, 0, 0, 0, 0, 0, 0] := by decide
    rw [e]
    unfold ofR
    rw [if_pos (by decide)]
    rfl
theorem liveM1 : marginR liveJ [⟨1, 4⟩] = (120, 0) := by
  have e : worstR liveJ [⟨1, 4⟩] = (120, 1, 0) := by decide
  unfold marginR
  rw [e]
  decide
theorem liveM2 : marginR liveJ [⟨1, -4⟩] = (80, 0) := by
  have e : worstR liveJ [⟨1, -4⟩] = (80, 0, 0) := by decide
  unfold marginR
  rw [e]
  decide
theorem liveM0 : marginR liveJ [] = (0, 0) := by decide
theorem liveO1 : ofNR liveJ liveP 1 3 liveC ⟨1, 1⟩ = (120, 0) := by
  rw [ofNR_ok (M := [⟨1, 4⟩]) (by decide) (by decide), liveM1]
  rw [show (partsL 1 3 liveC ⟨1, 1⟩).map (lotU liveP) = [[⟨1, 4⟩]] by decide]
  exact add_single (.inl rfl)
theorem liveO2 : ofNR liveJ liveP 1 3 liveC ⟨1, 2⟩ = (80, 0) := by
  rw [ofNR_ok (M := [⟨1, -4⟩]) (by decide) (by decide), liveM2]
  rw [show (partsL 1 3 liveC ⟨1, 2⟩).map (lotU liveP) = [[⟨1, -4⟩]] by decide]
  exact add_single (.inr rfl)
theorem liveO3 : ofNR liveJ liveP 1 2 liveC ⟨1, 0⟩ = (0, 0) := by
  rw [ofNR_ok (M := []) (by decide) (by decide), liveM0]
  rw [show (partsL 1 2 liveC ⟨1, 0⟩).map (lotU liveP) = [[⟨1, 4⟩], [⟨1, -4⟩]] by decide]
  exact sum_neg (l := [⟨1, 4⟩]) (by decide)
theorem liveA1 : allNR liveJ liveP 1 3 liveC = (200, 0) := by
  have e : nuL 1 3 liveC = [⟨1, 1⟩, ⟨1, 2⟩] := by decide
  unfold allNR
  rw [e]
  simp only [List.find?_cons, List.find?_nil, liveO1, liveO2, List.map_cons, List.map_nil, List.sum_cons, List.sum_nil]
  decide
theorem liveA2 : allNR liveJ liveP 1 2 liveC = (0, 0) := by
  have e : nuL 1 2 liveC = [⟨1, 0⟩] := by decide
  unfold allNR
  rw [e]
  simp only [List.find?_cons, List.find?_nil, liveO3, List.map_cons, List.map_nil, List.sum_cons, List.sum_nil]
  decide
set_option maxHeartbeats 16000000 in
set_option maxRecDepth 100000 in
theorem lives25_any (w : World) : Calls Try.prog 7 #[] w fun e w' => e = .returned (.bool true) ∧ Below w.heap.size w w' := by
  have hB0 := since_alloc (since_alloc (since_alloc (since_alloc (since_alloc (since_alloc (since_alloc (Below.refl _ w) (.cells #[.int .i64 2, .int .i64 (-3)] 2)) (.cells #[.int .i64 1, .int .i64 10, .int .i64 0, .int .i64 0, .slice (some ⟨w.heap.size, 0, none⟩) 2 2] 48)) (.cells #[.int .i64 1, .int .i64 2] 3)) (.cells #[.int .i64 1, .int .i64 1, .int .i64 3, .slice (some ⟨w.heap.size + 1 + 1, 0, none⟩) 2 2] 24)) (.cells #[.int .i64 1, .int .i64 4] 51)) (.cells #[.int .i64 1, .int .i64 (-4)] 51)) (.cells #[.int .i64 1, .int .i64 1, .slice (some ⟨w.heap.size + 1 + 1 + 1 + 1, 0, none⟩) 1 1, .int .i64 1, .int .i64 2, .slice (some ⟨w.heap.size + 1 + 1 + 1 + 1 + 1, 0, none⟩) 1 1] 54)
  have s0 := (show Sl (((((((w.alloc (.cells #[.int .i64 2, .int .i64 (-3)] 2)).alloc (.cells #[.int .i64 1, .int .i64 10, .int .i64 0, .int .i64 0, .slice (some ⟨w.heap.size, 0, none⟩) 2 2] 48)).alloc (.cells #[.int .i64 1, .int .i64 2] 3)).alloc (.cells #[.int .i64 1, .int .i64 1, .int .i64 3, .slice (some ⟨w.heap.size + 1 + 1, 0, none⟩) 2 2] 24)).alloc (.cells #[.int .i64 1, .int .i64 4] 51)).alloc (.cells #[.int .i64 1, .int .i64 (-4)] 51)).alloc (.cells #[.int .i64 1, .int .i64 1, .slice (some ⟨w.heap.size + 1 + 1 + 1 + 1, 0, none⟩) 1 1, .int .i64 1, .int .i64 2, .slice (some ⟨w.heap.size + 1 + 1 + 1 + 1 + 1, 0, none⟩) 1 1] 54)) (some ⟨(w).heap.size, 0, none⟩) (ints .i64 [2, -3]) from (((((((Sl.new_ w (ints .i64 [2, -3]) 2).alloc (.cells #[.int .i64 1, .int .i64 10, .int .i64 0, .int .i64 0, .slice (some ⟨w.heap.size, 0, none⟩) 2 2] 48)).alloc (.cells #[.int .i64 1, .int .i64 2] 3)).alloc (.cells #[.int .i64 1, .int .i64 1, .int .i64 3, .slice (some ⟨w.heap.size + 1 + 1, 0, none⟩) 2 2] 24)).alloc (.cells #[.int .i64 1, .int .i64 4] 51)).alloc (.cells #[.int .i64 1, .int .i64 (-4)] 51)).alloc (.cells #[.int .i64 1, .int .i64 1, .slice (some ⟨w.heap.size + 1 + 1 + 1 + 1, 0, none⟩) 1 1, .int .i64 1, .int .i64 2, .slice (some ⟨w.heap.size + 1 + 1 + 1 + 1 + 1, 0, none⟩) 1 1] 54)))
  have s1 := (show Sl (((((((w.alloc (.cells #[.int .i64 2, .int .i64 (-3)] 2)).alloc (.cells #[.int .i64 1, .int .i64 10, .int .i64 0, .int .i64 0, .slice (some ⟨w.heap.size, 0, none⟩) 2 2] 48)).alloc (.cells #[.int .i64 1, .int .i64 2] 3)).alloc (.cells #[.int .i64 1, .int .i64 1, .int .i64 3, .slice (some ⟨w.heap.size + 1 + 1, 0, none⟩) 2 2] 24)).alloc (.cells #[.int .i64 1, .int .i64 4] 51)).alloc (.cells #[.int .i64 1, .int .i64 (-4)] 51)).alloc (.cells #[.int .i64 1, .int .i64 1, .slice (some ⟨w.heap.size + 1 + 1 + 1 + 1, 0, none⟩) 1 1, .int .i64 1, .int .i64 2, .slice (some ⟨w.heap.size + 1 + 1 + 1 + 1 + 1, 0, none⟩) 1 1] 54)) (some ⟨((w.alloc (.cells #[.int .i64 2, .int .i64 (-3)] 2))).heap.size, 0, none⟩) (rc Iq.cells [⟨1, 10, 0, 0, some ⟨w.heap.size, 0, none⟩, 2, 2⟩]) from ((((((Sl.new_ (w.alloc (.cells #[.int .i64 2, .int .i64 (-3)] 2)) (rc Iq.cells [⟨1, 10, 0, 0, some ⟨w.heap.size, 0, none⟩, 2, 2⟩]) 48).alloc (.cells #[.int .i64 1, .int .i64 2] 3)).alloc (.cells #[.int .i64 1, .int .i64 1, .int .i64 3, .slice (some ⟨w.heap.size + 1 + 1, 0, none⟩) 2 2] 24)).alloc (.cells #[.int .i64 1, .int .i64 4] 51)).alloc (.cells #[.int .i64 1, .int .i64 (-4)] 51)).alloc (.cells #[.int .i64 1, .int .i64 1, .slice (some ⟨w.heap.size + 1 + 1 + 1 + 1, 0, none⟩) 1 1, .int .i64 1, .int .i64 2, .slice (some ⟨w.heap.size + 1 + 1 + 1 + 1 + 1, 0, none⟩) 1 1] 54)))
  rw [World.size_alloc] at s1
  have s2 := (show Sl (((((((w.alloc (.cells #[.int .i64 2, .int .i64 (-3)] 2)).alloc (.cells #[.int .i64 1, .int .i64 10, .int .i64 0, .int .i64 0, .slice (some ⟨w.heap.size, 0, none⟩) 2 2] 48)).alloc (.cells #[.int .i64 1, .int .i64 2] 3)).alloc (.cells #[.int .i64 1, .int .i64 1, .int .i64 3, .slice (some ⟨w.heap.size + 1 + 1, 0, none⟩) 2 2] 24)).alloc (.cells #[.int .i64 1, .int .i64 4] 51)).alloc (.cells #[.int .i64 1, .int .i64 (-4)] 51)).alloc (.cells #[.int .i64 1, .int .i64 1, .slice (some ⟨w.heap.size + 1 + 1 + 1 + 1, 0, none⟩) 1 1, .int .i64 1, .int .i64 2, .slice (some ⟨w.heap.size + 1 + 1 + 1 + 1 + 1, 0, none⟩) 1 1] 54)) (some ⟨(((w.alloc (.cells #[.int .i64 2, .int .i64 (-3)] 2)).alloc (.cells #[.int .i64 1, .int .i64 10, .int .i64 0, .int .i64 0, .slice (some ⟨w.heap.size, 0, none⟩) 2 2] 48))).heap.size, 0, none⟩) (rc Nt.cells [⟨1⟩, ⟨2⟩]) from (((((Sl.new_ ((w.alloc (.cells #[.int .i64 2, .int .i64 (-3)] 2)).alloc (.cells #[.int .i64 1, .int .i64 10, .int .i64 0, .int .i64 0, .slice (some ⟨w.heap.size, 0, none⟩) 2 2] 48)) (rc Nt.cells [⟨1⟩, ⟨2⟩]) 3).alloc (.cells #[.int .i64 1, .int .i64 1, .int .i64 3, .slice (some ⟨w.heap.size + 1 + 1, 0, none⟩) 2 2] 24)).alloc (.cells #[.int .i64 1, .int .i64 4] 51)).alloc (.cells #[.int .i64 1, .int .i64 (-4)] 51)).alloc (.cells #[.int .i64 1, .int .i64 1, .slice (some ⟨w.heap.size + 1 + 1 + 1 + 1, 0, none⟩) 1 1, .int .i64 1, .int .i64 2, .slice (some ⟨w.heap.size + 1 + 1 + 1 + 1 + 1, 0, none⟩) 1 1] 54)))
  rw [World.size_alloc, World.size_alloc] at s2
  have s4 := (show Sl (((((((w.alloc (.cells #[.int .i64 2, .int .i64 (-3)] 2)).alloc (.cells #[.int .i64 1, .int .i64 10, .int .i64 0, .int .i64 0, .slice (some ⟨w.heap.size, 0, none⟩) 2 2] 48)).alloc (.cells #[.int .i64 1, .int .i64 2] 3)).alloc (.cells #[.int .i64 1, .int .i64 1, .int .i64 3, .slice (some ⟨w.heap.size + 1 + 1, 0, none⟩) 2 2] 24)).alloc (.cells #[.int .i64 1, .int .i64 4] 51)).alloc (.cells #[.int .i64 1, .int .i64 (-4)] 51)).alloc (.cells #[.int .i64 1, .int .i64 1, .slice (some ⟨w.heap.size + 1 + 1 + 1 + 1, 0, none⟩) 1 1, .int .i64 1, .int .i64 2, .slice (some ⟨w.heap.size + 1 + 1 + 1 + 1 + 1, 0, none⟩) 1 1] 54)) (some ⟨(((((w.alloc (.cells #[.int .i64 2, .int .i64 (-3)] 2)).alloc (.cells #[.int .i64 1, .int .i64 10, .int .i64 0, .int .i64 0, .slice (some ⟨w.heap.size, 0, none⟩) 2 2] 48)).alloc (.cells #[.int .i64 1, .int .i64 2] 3)).alloc (.cells #[.int .i64 1, .int .i64 1, .int .i64 3, .slice (some ⟨w.heap.size + 1 + 1, 0, none⟩) 2 2] 24))).heap.size, 0, none⟩) (rc Lg.cells [⟨1, 4⟩]) from (((Sl.new_ ((((w.alloc (.cells #[.int .i64 2, .int .i64 (-3)] 2)).alloc (.cells #[.int .i64 1, .int .i64 10, .int .i64 0, .int .i64 0, .slice (some ⟨w.heap.size, 0, none⟩) 2 2] 48)).alloc (.cells #[.int .i64 1, .int .i64 2] 3)).alloc (.cells #[.int .i64 1, .int .i64 1, .int .i64 3, .slice (some ⟨w.heap.size + 1 + 1, 0, none⟩) 2 2] 24)) (rc Lg.cells [⟨1, 4⟩]) 51).alloc (.cells #[.int .i64 1, .int .i64 (-4)] 51)).alloc (.cells #[.int .i64 1, .int .i64 1, .slice (some ⟨w.heap.size + 1 + 1 + 1 + 1, 0, none⟩) 1 1, .int .i64 1, .int .i64 2, .slice (some ⟨w.heap.size + 1 + 1 + 1 + 1 + 1, 0, none⟩) 1 1] 54)))
  rw [World.size_alloc, World.size_alloc, World.size_alloc, World.size_alloc] at s4
  have s5 := (show Sl (((((((w.alloc (.cells #[.int .i64 2, .int .i64 (-3)] 2)).alloc (.cells #[.int .i64 1, .int .i64 10, .int .i64 0, .int .i64 0, .slice (some ⟨w.heap.size, 0, none⟩) 2 2] 48)).alloc (.cells #[.int .i64 1, .int .i64 2] 3)).alloc (.cells #[.int .i64 1, .int .i64 1, .int .i64 3, .slice (some ⟨w.heap.size + 1 + 1, 0, none⟩) 2 2] 24)).alloc (.cells #[.int .i64 1, .int .i64 4] 51)).alloc (.cells #[.int .i64 1, .int .i64 (-4)] 51)).alloc (.cells #[.int .i64 1, .int .i64 1, .slice (some ⟨w.heap.size + 1 + 1 + 1 + 1, 0, none⟩) 1 1, .int .i64 1, .int .i64 2, .slice (some ⟨w.heap.size + 1 + 1 + 1 + 1 + 1, 0, none⟩) 1 1] 54)) (some ⟨((((((w.alloc (.cells #[.int .i64 2, .int .i64 (-3)] 2)).alloc (.cells #[.int .i64 1, .int .i64 10, .int .i64 0, .int .i64 0, .slice (some ⟨w.heap.size, 0, none⟩) 2 2] 48)).alloc (.cells #[.int .i64 1, .int .i64 2] 3)).alloc (.cells #[.int .i64 1, .int .i64 1, .int .i64 3, .slice (some ⟨w.heap.size + 1 + 1, 0, none⟩) 2 2] 24)).alloc (.cells #[.int .i64 1, .int .i64 4] 51))).heap.size, 0, none⟩) (rc Lg.cells [⟨1, -4⟩]) from ((Sl.new_ (((((w.alloc (.cells #[.int .i64 2, .int .i64 (-3)] 2)).alloc (.cells #[.int .i64 1, .int .i64 10, .int .i64 0, .int .i64 0, .slice (some ⟨w.heap.size, 0, none⟩) 2 2] 48)).alloc (.cells #[.int .i64 1, .int .i64 2] 3)).alloc (.cells #[.int .i64 1, .int .i64 1, .int .i64 3, .slice (some ⟨w.heap.size + 1 + 1, 0, none⟩) 2 2] 24)).alloc (.cells #[.int .i64 1, .int .i64 4] 51)) (rc Lg.cells [⟨1, -4⟩]) 51).alloc (.cells #[.int .i64 1, .int .i64 1, .slice (some ⟨w.heap.size + 1 + 1 + 1 + 1, 0, none⟩) 1 1, .int .i64 1, .int .i64 2, .slice (some ⟨w.heap.size + 1 + 1 + 1 + 1 + 1, 0, none⟩) 1 1] 54)))
  rw [World.size_alloc, World.size_alloc, World.size_alloc, World.size_alloc, World.size_alloc] at s5
  have s6 := (show Sl (((((((w.alloc (.cells #[.int .i64 2, .int .i64 (-3)] 2)).alloc (.cells #[.int .i64 1, .int .i64 10, .int .i64 0, .int .i64 0, .slice (some ⟨w.heap.size, 0, none⟩) 2 2] 48)).alloc (.cells #[.int .i64 1, .int .i64 2] 3)).alloc (.cells #[.int .i64 1, .int .i64 1, .int .i64 3, .slice (some ⟨w.heap.size + 1 + 1, 0, none⟩) 2 2] 24)).alloc (.cells #[.int .i64 1, .int .i64 4] 51)).alloc (.cells #[.int .i64 1, .int .i64 (-4)] 51)).alloc (.cells #[.int .i64 1, .int .i64 1, .slice (some ⟨w.heap.size + 1 + 1 + 1 + 1, 0, none⟩) 1 1, .int .i64 1, .int .i64 2, .slice (some ⟨w.heap.size + 1 + 1 + 1 + 1 + 1, 0, none⟩) 1 1] 54)) (some ⟨(((((((w.alloc (.cells #[.int .i64 2, .int .i64 (-3)] 2)).alloc (.cells #[.int .i64 1, .int .i64 10, .int .i64 0, .int .i64 0, .slice (some ⟨w.heap.size, 0, none⟩) 2 2] 48)).alloc (.cells #[.int .i64 1, .int .i64 2] 3)).alloc (.cells #[.int .i64 1, .int .i64 1, .int .i64 3, .slice (some ⟨w.heap.size + 1 + 1, 0, none⟩) 2 2] 24)).alloc (.cells #[.int .i64 1, .int .i64 4] 51)).alloc (.cells #[.int .i64 1, .int .i64 (-4)] 51))).heap.size, 0, none⟩) (rc Po.cells [⟨1, 1, some ⟨w.heap.size + 1 + 1 + 1 + 1, 0, none⟩, 1, 1⟩, ⟨1, 2, some ⟨w.heap.size + 1 + 1 + 1 + 1 + 1, 0, none⟩, 1, 1⟩]) from (Sl.new_ ((((((w.alloc (.cells #[.int .i64 2, .int .i64 (-3)] 2)).alloc (.cells #[.int .i64 1, .int .i64 10, .int .i64 0, .int .i64 0, .slice (some ⟨w.heap.size, 0, none⟩) 2 2] 48)).alloc (.cells #[.int .i64 1, .int .i64 2] 3)).alloc (.cells #[.int .i64 1, .int .i64 1, .int .i64 3, .slice (some ⟨w.heap.size + 1 + 1, 0, none⟩) 2 2] 24)).alloc (.cells #[.int .i64 1, .int .i64 4] 51)).alloc (.cells #[.int .i64 1, .int .i64 (-4)] 51)) (rc Po.cells [⟨1, 1, some ⟨w.heap.size + 1 + 1 + 1 + 1, 0, none⟩, 1, 1⟩, ⟨1, 2, some ⟨w.heap.size + 1 + 1 + 1 + 1 + 1, 0, none⟩, 1, 1⟩]) 54))
  rw [World.size_alloc, World.size_alloc, World.size_alloc, World.size_alloc, World.size_alloc, World.size_alloc] at s6
  have K := ((AX.new (((w.alloc (.cells #[.int .i64 2, .int .i64 (-3)] 2)).alloc (.cells #[.int .i64 1, .int .i64 10, .int .i64 0, .int .i64 0, .slice (some ⟨w.heap.size, 0, none⟩) 2 2] 48)).alloc (.cells #[.int .i64 1, .int .i64 2] 3)) 1 1 3 (some ⟨w.heap.size + 1 + 1, 0, none⟩) 2 2 24).below (since_alloc (since_alloc (since_alloc (Below.refl _ _) (.cells #[.int .i64 1, .int .i64 4] 51)) (.cells #[.int .i64 1, .int .i64 (-4)] 51)) (.cells #[.int .i64 1, .int .i64 1, .slice (some ⟨w.heap.size + 1 + 1 + 1 + 1, 0, none⟩) 1 1, .int .i64 1, .int .i64 2, .slice (some ⟨w.heap.size + 1 + 1 + 1 + 1 + 1, 0, none⟩) 1 1] 54)))
  rw [World.size_alloc, World.size_alloc, World.size_alloc] at K
  go_enter Try.func7, Try.ntmps7
  go_upto_region 4 with fail
  generalize hWW : (((((((w.alloc (.cells #[.int .i64 2, .int .i64 (-3)] 2)).alloc (.cells #[.int .i64 1, .int .i64 10, .int .i64 0, .int .i64 0, .slice (some ⟨w.heap.size, 0, none⟩) 2 2] 48)).alloc (.cells #[.int .i64 1, .int .i64 2] 3)).alloc (.cells #[.int .i64 1, .int .i64 1, .int .i64 3, .slice (some ⟨w.heap.size + 1 + 1, 0, none⟩) 2 2] 24)).alloc (.cells #[.int .i64 1, .int .i64 4] 51)).alloc (.cells #[.int .i64 1, .int .i64 (-4)] 51)).alloc (.cells #[.int .i64 1, .int .i64 1, .slice (some ⟨w.heap.size + 1 + 1 + 1 + 1, 0, none⟩) 1 1, .int .i64 1, .int .i64 2, .slice (some ⟨w.heap.size + 1 + 1 + 1 + 1 + 1, 0, none⟩) 1 1] 54)) = W at *
  clear hWW
  have HF : Hid (∀ V, (∀ p : Addr, p.block ≠ w.heap.size + 1 + 1 + 1 → p.block < W.heap.size → V.cell? p = W.cell? p) → Sl V (some ⟨w.heap.size + 1, 0, none⟩) (rc Iq.cells [⟨1, 10, 0, 0, some ⟨w.heap.size, 0, none⟩, 2, 2⟩]) ∧ InTab V [⟨1, 10, 0, 0, some ⟨w.heap.size, 0, none⟩, 2, 2⟩] liveJ ∧ Sl V (some ⟨w.heap.size + 1 + 1, 0, none⟩) (rc Nt.cells liveC) ∧ Sl V (some ⟨w.heap.size + 1 + 1 + 1 + 1 + 1 + 1, 0, none⟩) (rc Po.cells [⟨1, 1, some ⟨w.heap.size + 1 + 1 + 1 + 1, 0, none⟩, 1, 1⟩, ⟨1, 2, some ⟨w.heap.size + 1 + 1 + 1 + 1 + 1, 0, none⟩, 1, 1⟩]) ∧ PoTab V [⟨1, 1, some ⟨w.heap.size + 1 + 1 + 1 + 1, 0, none⟩, 1, 1⟩, ⟨1, 2, some ⟨w.heap.size + 1 + 1 + 1 + 1 + 1, 0, none⟩, 1, 1⟩] liveP) := Lib.hid fun V h => by
    have k : ∀ b xs, b ≠ w.heap.size + 1 + 1 + 1 → Sl W (some ⟨b, 0, none⟩) xs → Sl V (some ⟨b, 0, none⟩) xs := fun b xs hb hs hne => by
      obtain ⟨b', o', hA, hr⟩ := hs hne
      refine ⟨b', o', hA, fun j u hj => ?_⟩
      have h2 := hr j u hj
      rw [← h2]
      refine h _ ?_ (World.block_lt_of_cell? _ _ h2)
      injection hA with hA
      injection hA with e1 e2
      show b' ≠ _
      rw [← e1]; exact hb
    refine ⟨k _ _ (by omega) s1, InTab.cons ⟨rfl, rfl, rfl, rfl, rfl, ⟨⟨Nat.le_refl _, by show 2 ≤ maxLen; decide⟩, k _ _ (by omega) s0, (fun x hx => by rcases List.mem_cons.1 hx with rfl | hx; (unfold In64; omega); (rw [List.mem_singleton.1 hx]; unfold In64; omega)), by show In64 1 ∧ In64 10 ∧ In64 0 ∧ In64 0; unfold In64; omega⟩⟩ (InTab.nil _), k _ _ (by omega) s2, k _ _ (by omega) s6, ?_⟩
    exact PoTab.cons.2 ⟨⟨rfl, rfl, rfl, k _ _ (by omega) s4⟩, PoTab.cons.2 ⟨⟨rfl, rfl, rfl, k _ _ (by omega) s5⟩, PoTab.nil _⟩⟩
  have hmv : ∀ i ∈ liveJ, i.mv.length ≤ 900000 := by intro i hi; rw [List.mem_singleton.1 hi]; decide
  have hpl : ∀ g ∈ liveP, g.L.length ≤ 1000 := by decide
  have h6 : ∀ g ∈ liveP, ∀ y ∈ g.L, In64 y.qty := by decide
  have HA1 := Lib.hid (fun V h1 h2 h3 h4 h5 => nall_any (some ⟨w.heap.size + 1, 0, none⟩) 1 [⟨1, 10, 0, 0, some ⟨w.heap.size, 0, none⟩, 2, 2⟩] liveJ (some ⟨w.heap.size + 1 + 1 + 1 + 1 + 1 + 1, 0, none⟩) 2 [⟨1, 1, some ⟨w.heap.size + 1 + 1 + 1 + 1, 0, none⟩, 1, 1⟩, ⟨1, 2, some ⟨w.heap.size + 1 + 1 + 1 + 1 + 1, 0, none⟩, 1, 1⟩] liveP 1 1 3 (some ⟨w.heap.size + 1 + 1, 0, none⟩) 2 liveC V (by simp) hmv (by simp) hpl h6 (by decide) h1 h2 h3 h4 h5)
  have HA2 := Lib.hid (fun V h1 h2 h3 h4 h5 => nall_any (some ⟨w.heap.size + 1, 0, none⟩) 1 [⟨1, 10, 0, 0, some ⟨w.heap.size, 0, none⟩, 2, 2⟩] liveJ (some ⟨w.heap.size + 1 + 1 + 1 + 1 + 1 + 1, 0, none⟩) 2 [⟨1, 1, some ⟨w.heap.size + 1 + 1 + 1 + 1, 0, none⟩, 1, 1⟩, ⟨1, 2, some ⟨w.heap.size + 1 + 1 + 1 + 1 + 1, 0, none⟩, 1, 1⟩] liveP 1 1 2 (some ⟨w.heap.size + 1 + 1, 0, none⟩) 2 liveC V (by simp) hmv (by simp) hpl h6 (by decide) h1 h2 h3 h4 h5)
  rw [liveA1] at HA1
  rw [liveA2] at HA2
  simp only [List.length_cons, List.length_nil, show liveC.length = 2 from rfl] at HA1 HA2
  obtain ⟨f1, f2, f3, f4, f5⟩ := HF.out W (fun _ _ _ => rfl)
  have HF1 := Lib.hid (And.intro f1 (And.intro f2 (And.intro f3 (And.intro f4 f5))))
  clear s0 s1 s2 s4 s5 s6 f1 f2 f3 f4 f5 hmv hpl h6
  obtain ⟨k0, ⟨p0, p1, p2, p3⟩, _⟩ := K.got
  go_wp2_with fail
  refine (HA1.out _ HF1.out.1 HF1.out.2.1 HF1.out.2.2.2.1 HF1.out.2.2.2.2 HF1.out.2.2.1).mono ?_
  rintro e w1 ⟨rfl, hb⟩
  have hB1 := since_step hB0 hb
  have K1 := K.below hb
  have hWs := hb.size
  clear p0 p1 p2 p3 HF1
  obtain ⟨k1, ⟨p0, p1, p2, p3⟩, ⟨q0, q1, q2, q3⟩⟩ := K1.got
  have hcs := @cell_set
  go_upto_region 6 with fail
  have K2 := K1.set2 (.int .i64 2)
  have hB2 := Below.setCell hB1 (p := ⟨w.heap.size + 1 + 1 + 1, 2, none⟩) (by show w.heap.size ≤ w.heap.size + 1 + 1 + 1; omega) (.int .i64 2)
  have hF2 := HF.out (w1.setCell ⟨w.heap.size + 1 + 1 + 1, 2, none⟩ (.int .i64 2)) (fun p h1 h2 => by
    rw [World.cell?_setCell_other _ _ _ _ (fun e => h1 (by rw [← e]))]
    exact hb.cell h2)
  generalize hYY : w1.setCell ⟨w.heap.size + 1 + 1 + 1, 2, none⟩ (.int .i64 2) = Y at *
  have HF2 := Lib.hid hF2
  clear hYY hF2 p0 p1 p2 p3 q0 q1 q2 q3 hcs K K1 hb HF hB1
  have p0 := K2.2 0
  have p1 := K2.2 1
  have p2 := K2.2 2
  have p3 := K2.2 3
  simp at p0 p1 p2 p3
  go_wp2_with fail
  refine (HA2.out _ HF2.out.1 HF2.out.2.1 HF2.out.2.2.2.1 HF2.out.2.2.2.2 HF2.out.2.2.1).mono ?_
  rintro e w2 ⟨rfl, hb⟩
  have hB3 := since_step hB2 hb
  clear p0 p1 p2 p3 HF2
  go_wp2_with fail
  go_ret
  exact ⟨rfl, hB3⟩
end Go.Proofs.Ytlbccpiadmcpjaa
end
