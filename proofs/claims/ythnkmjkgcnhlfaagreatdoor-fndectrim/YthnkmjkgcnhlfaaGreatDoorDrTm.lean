/- A decimal is drawn: DrawDecTrim by a contract. -/
import Derived.Test.YthnkmjkgcnhlfaaGreatDoorH08
namespace Go.Proofs.YthnkmjkgcnhlfaaGreatDoor
open Go.RowKit
set_option maxRecDepth 100000

theorem drawDecTrim_any (w : World) (v : Value) (h : Byt w v) :
    Calls Tryz.prog 42 #[v] w fun e w' => ∃ (p : Bool) (l : List Int) (s : Int) (aa : Option Addr) (ca : Nat), e = .returned (.agg #[.bool p, .slice aa l.length ca, .int .i64 s]) ∧ Own w.heap.size w' (.slice aa l.length ca) l ∧ Below w.heap.size w w' := by
  have K0 := EdY.start w
  have C0 := hide (fun W (b : Below w.heap.size w W) => l1Open_any W v (h.later b))
  go_enter Tryz.func42, Tryz.ntmps42
  go_wp2_with fail
  refine (unhide C0 _ K0.below).mono ?_
  rintro e w1 ⟨rfl, r1, b1, z1⟩
  have K1 := K0.later b1
  simp only [World.size_alloc] at r1 z1
  clear C0 K0 b1
  have hR1 := r1.lt
  have C2 := hide (l14AnyDec_any w1 _ 0 r1 (by omega))
  go_wp2_with fail
  refine (unhide C2).mono ?_
  rintro e w2 ⟨pg, l, sc, ao, cap, q, rfl, hl, o2, r2, hq, g2⟩
  have K2 := K1.grown (by omega) g2
  have hk := K1.lt
  have o6 : Own (w.heap.size + 1) w2 _ l := o2.mono (by omega)
  clear C2 K1 r1 g2 o2
  obtain ⟨kb, kc0, kc1, kc2, kf0, kf1, kf2, kl⟩ := id K2
  go_wp2
  refine bodyPost_ret (v := .agg #[.bool pg, .slice ao l.length cap, .int .i64 sc]) (by simp [results, Tryz.results42, go_sem, kc0, kc1, kc2]) rfl ?_
  exact ⟨pg, l, sc, ao, cap, rfl, (((o6.setBelow (by simp) _).setBelow (by simp) _).setBelow (by simp) _).mono (by omega), ((kb.setCell (by simp) _).setCell (by simp) _).setCell (by simp) _⟩

end Go.Proofs.YthnkmjkgcnhlfaaGreatDoor
