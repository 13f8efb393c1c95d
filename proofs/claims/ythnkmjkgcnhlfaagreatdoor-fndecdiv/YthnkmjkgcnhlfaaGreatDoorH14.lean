/- The program's limbs, by contracts: a copy, a sum, a difference, a product. The program's limbs, by contracts: a difference, a product. -/
import Derived.Test.YthnkmjkgcnhlfaaGreatDoorH10
import Derived.Laws.CopyOwn
namespace Go.Proofs.YthnkmjkgcnhlfaaGreatDoor
open Go.RowKit
set_option maxRecDepth 100000


theorem clone_any (w : World) (v : Value) (l : List Int) (hr : Reads w v l) (hl : l.length ≤ 4000000) :
    Calls Tryz.prog 110 #[v] w (Gives w l) := by
  have hR := fun o => hr.alloc (w := w) o
  have HR := hide hR
  clear hR
  have hq := fun (wx : World) (x : Option Addr) (n c : Nat) => Lib.run_eql_slice_nil (P := Tryz.prog) wx 67 3 x n c 0 0 Tryz.underlying67
  obtain ⟨ao, b, off, cap, rfl, hr⟩ := hr
  cases ao with
  | none =>
    have hc := hr.nil rfl
    have hle := hr.le
    have e : l = [] := List.length_eq_zero_iff.1 (by omega)
    subst e
    clear hr hle
    go_enter Tryz.func110, Tryz.ntmps110
    go_wp2
    go_ret
    exact Gives.of (Own.nil _ _) (Below.refl _ _)
  | some x =>
    clear hr
    go_enter Tryz.func110, Tryz.ntmps110
    go_wp2_with (at_builtin; refine wpList_pushAll rfl _ _ 67 rfl Tryz.underlying67 w.heap.size _ [] (own_empty _ (Nat.le_refl _)) rfl _ l (unhide HR _) rfl (by simp; omega) (by simp) ?_; intro ao1 cap1 w1 ho1 hb1; rw [List.nil_append] at ho1)
    go_ret
    exact Gives.of ho1 (((Below.refl _ _).alloc (Nat.le_refl _) _).trans hb1)

theorem Tryz.size3 : (Tryz.prog.info? 3).map (·.size) = some 1 := by kernel_rfl

/-- A list copied over the beginning of a row that the call made. -/
theorem wpList_copyAll {wr : World} {ops : Array Oper} {rest : List Oper} {o : Oper} {a : Act} {Q : Exit → Act → World → Prop}
    (hg : o.guard = none) (d s : Operand) (dT sT : TypeId) (hop : o.op = .call { callee := .builtin .copy, args := #[d, s], argTypes := #[dT, sT] })
    (hu : Tryz.prog.underlying dT = some (.slice 3)) (B g n : Nat) (z : List Int) (hown : Own B wr (.slice (some ⟨g, 0, none⟩) n n) z) (hd : a.eval d = .slice (some ⟨g, 0, none⟩) n n)
    (u : Value) (l : List Int) (hr : Reads wr u l) (hs : a.eval s = u) (hle : l.length ≤ z.length)
    (hK : ∀ w', Own B w' (.slice (some ⟨g, 0, none⟩) n n) (l ++ z.drop l.length) → Below B wr w' → wpList Tryz.prog ops Q rest (a.put o.dst (goInt l.length)) w') :
    wpList Tryz.prog ops Q (o :: rest) a wr := by
  have hlen := hown.len
  have hown' := hown
  obtain ⟨_, h2⟩ := hown
  rcases h2 with ⟨e, _⟩ | ⟨g', cap', cur, e, hB, hgg, hn, hm, hsz, ht⟩
  · cases e
  simp only [Value.slice.injEq, Option.some.injEq, Addr.mk.injEq, and_true] at e
  obtain ⟨rfl, _, rfl⟩ := e
  have ecur : cur.toList = ints z := by
    rw [← ht, List.take_of_length_le]
    rw [Array.length_toList, hsz]
    omega
  have hgg' : wr.heap[g]? = some (.cells (ints z).toArray 3 (0, 0)) := by rw [hgg, ← ecur]
  obtain ⟨ao, b, off, cap, rfl, hr⟩ := hr
  refine wpList_copy_splice hg d s dT sT hop 3 hu Tryz.size3 _ _ n n l.length cap hd hs g 0 (ints z) 3 hgg' (ints l) (by rw [ints_len]; have : Nat.min l.length n = min l.length n := rfl; omega) ?_ (by rw [ints_len, ints_len]; omega) (ints_oneCell _ _) B wr (Below.refl _ _) hB ?_
  · intro hp
    rw [ints_len] at hp
    refine ⟨rfl, _, hr.at_ hp, ?_⟩
    intro j v hj
    have hjm : j < l.length := by
      have := (List.getElem?_eq_some_iff.1 hj).1
      simpa [ints] using this
    rw [ints_at hjm] at hj
    obtain rfl := Option.some.inj hj
    rw [Addr.add_lit]
    exact hr.cell j hjm
  · intro w' hw hb
    have hw' := hw.out
    rw [ints_len]
    have ez : splice (ints z) 0 (ints l) = ints (l ++ z.drop l.length) := by simp [splice, ints]
    rw [ez] at hw'
    refine hK w' ⟨by simp [ints], .inr ⟨g, n, _, ?_, hB, hw', ?_, hm, ?_, ?_⟩⟩ hb
    · congr 1
      simp
      omega
    · simp
      omega
    · simp [ints]
      omega
    · rw [show (l ++ z.drop l.length).length * 1 = (ints (l ++ z.drop l.length)).length by simp [ints]]
      exact List.take_length

/-- Both together: m added place by place to a row that begins as l. -/
theorem plus_any (w : World) (u v : Value) (a b : Nat) (hu : Reads w u (L a)) (hv : Reads w v (L b)) (ha : a < 10000 ^ 200) (hb : b < 10000 ^ 200) :
    Calls Tryz.prog 78 #[u, v] w (Gives w (L (a + b))) := by
  have hla := L_len_le ha
  have hlb := L_len_le hb
  have hab : a + b < 10000 ^ 201 := by rw [show (201 : Nat) = 200 + 1 from rfl, Nat.pow_succ]; generalize 10000 ^ 200 = P at *; omega
  have hla' := L_lim a
  have hlb' := L_lim b
  have va := val_L a
  have vb := val_L b
  generalize L a = l at *
  generalize L b = m at *
  clear ha hb
  have U := hide hu
  obtain ⟨ao, b1, off, cap, rfl, hu⟩ := hu
  obtain ⟨ao', b2, off', cap', rfl, hv⟩ := hv
  have h1 := hu.le
  have h2 := hu.big
  have h3 := hv.le
  have h4 := hv.big
  unfold maxLen at h2 h4
  have HAB := hide hab
  have HVA := hide va
  have HVB := hide vb
  clear hu hab va vb
  obtain ⟨i0, hi, hz0, hz1, hz2⟩ := info_parts Tryz.info3
  by_cases hlm : l.length < m.length
  · go_enter Tryz.func78, Tryz.ntmps78
    go_wp2_with (at_make; refine wpList_make_full _ rfl _ _ 67 rfl w.heap.size 3 i0 (.int .i64 0) 1 Tryz.underlying67 hi hz0 hz1 _ _ _ _ m.length rfl rfl rfl rfl ?_ ?_ (Nat.le_refl _) ?_)
    · rw [hz2]; omega
    · unfold maxLen; omega
    intro w0 hown0 hgrow0
    have e0 : (madeCells #[Value.int .i64 0] m.length).toList = ints (List.replicate m.length 0) := by rw [toList_madeCells_one, ints_zeros]
    have own0 : Own w.heap.size w0 (.slice (some ⟨w.heap.size, 0, none⟩) m.length m.length) (List.replicate m.length 0) := by
      unfold Own
      rw [List.length_replicate, ← e0]
      exact hown0
    have bel0 : Below w.heap.size w w0 := (Below.refl _ _).grown hgrow0 (Nat.le_refl _) (fun k h => by cases h)
    have R0 := hide ((unhide U).later bel0)
    clear hown0 hgrow0 e0
    go_wp2_with (refine wpList_copyAll rfl _ _ 67 67 rfl Tryz.underlying67 w.heap.size w.heap.size m.length _ own0 rfl _ l (unhide R0) rfl (by rw [List.length_replicate]; omega) ?_; intro w1 own1 bel1)
    have bel01 := bel0.trans bel1
    clear bel0 own0 R0
    have hst : (l ++ (List.replicate m.length (0 : Int)).drop l.length).length = m.length := by rw [List.length_append, List.length_drop, List.length_replicate]; omega
    have hg0 : ∀ j, (l ++ (List.replicate m.length (0 : Int)).drop l.length).getD j 0 = l.getD j 0 := by
      intro j
      rw [List.drop_replicate, getD_app_zeros]
    have hv0 : val (l ++ (List.replicate m.length (0 : Int)).drop l.length) = val l := by rw [val_append, List.drop_replicate, val_replicate]; simp
    generalize l ++ (List.replicate m.length (0 : Int)).drop l.length = c0 at *
    have Hst := hide hst
    have Hg0 := hide hg0
    have Hv0 := hide hv0
    clear hst hg0 hv0
    go_wp2
    go_loopw [6, 7, 19] (fun _ _ ii wr => ∃ (k : Nat) (c : List Int), k ≤ m.length ∧ ii = .int .i64 k ∧ c.length = m.length ∧ val c = val l + val (m.take k) ∧ (∀ j, c.getD j 0 = l.getD j 0 + if j < k then m.getD j 0 else 0) ∧
        Own w.heap.size wr (.slice (some ⟨w.heap.size, 0, none⟩) m.length m.length) c ∧ Below w.heap.size w wr)
      (fun _ _ ii _ => m.length - (intOf ii).toNat)
    case atStart => exact ⟨0, c0, Nat.zero_le _, rfl, unhide Hst, by simp [val, unhide Hv0], fun j => by rw [if_neg (by omega), Int.add_zero]; exact unhide Hg0 j, own1, bel01⟩
    case round =>
      obtain ⟨k, c, hkm, rfl, hcl, hval, hcj, hown, hbel⟩ := hrel
      have HCl := hide hcl
      have HVal := hide hval
      have HCj := hide hcj
      clear hval
      by_cases hlt : k < m.length
      · have hkc : k < c.length := by omega
        have hc := (hv.later hbel).cell k hlt
        have hat := hv.at_ (by omega)
        subst hat
        have hco := hown.cellAt hkc
        have hcf := hown.frozenAt k
        have ho := hide (fun x => (hown.store k x).1)
        have hck := hcj k
        rw [getD_at hkc, if_neg (by omega), Int.add_zero] at hck
        have q1 := hla'.getD k
        rw [← hck] at q1
        have q2 := hlb'.at hlt
        have hR : val (c.set k (c[k] + m[k])) = val l + val (m.take (k + 1)) := by
          rw [val_set hkc, getD_at hkc, unhide HVal, val_take_succ hlt]
          generalize (10000 : Int) ^ k = P
          grind
        have hJ : ∀ j, (c.set k (c[k] + m[k])).getD j 0 = l.getD j 0 + if j < k + 1 then m.getD j 0 else 0 := by
          intro j
          rw [getD_set hkc]
          by_cases e : j = k
          · subst e
            rw [if_pos rfl, if_pos (by omega), getD_at hlt, hck]
          · rw [if_neg e, unhide HCj j]
            by_cases h5 : j < k
            · rw [if_pos h5, if_pos (by omega)]
            · rw [if_neg h5, if_neg (by omega)]
        have HR := hide hR
        have HJ := hide hJ
        have hlen : ∀ x, (c.set k x).length = m.length := fun x => by rw [List.length_set]; exact unhide HCl
        have HLen := hide hlen
        have hkN : k < m.length := by omega
        clear hown hcj hR hJ hlen hck hcl hv
        generalize hyc : c[k] = yc at *
        generalize hym : m[k] = ym at *
        have Hyc := hide hyc
        have Hym := hide hym
        clear hyc hym
        obtain ⟨q1, q3⟩ := q1
        obtain ⟨q2, q4⟩ := q2
        go_wp2
        go_roundw
        case rel => exact ⟨k + 1, _, by omega, by go_num, unhide HLen _, unhide HR, unhide HJ, unhide ho _, hbel.setCell (Nat.le_refl _) _⟩
        case measure => simp only [intOf]; omega
      · have e := unhide HVal
        rw [List.take_of_length_le (by omega), unhide HVA, unhide HVB] at e
        have hcall := carried_any wr w.heap.size _ c (a + b) 201 hown (by rw [e]; omega) (unhide HAB) (by omega) (by omega)
          (mem_of_getD (P := fun x => -1000000000000000 ≤ x ∧ x ≤ 1000000000000000) (fun j _ => by
            rw [hcj j]
            have q1 := hla'.getD j
            have q2 := hlb'.getD j
            split <;> omega)) hbel.size
        have HCall := hide hcall
        clear hcall e hown hcj hcl hv
        go_wp2_with fail
        refine (unhide HCall).mono ?_
        rintro e w2 ⟨ao2, cap2, rfl, ho2, hb2⟩
        go_wp2
        go_ret
        exact ⟨ao2, cap2, rfl, ho2, hbel.trans hb2⟩
  · go_enter Tryz.func78, Tryz.ntmps78
    go_wp2_with (at_make; refine wpList_make_full _ rfl _ _ 67 rfl w.heap.size 3 i0 (.int .i64 0) 1 Tryz.underlying67 hi hz0 hz1 _ _ _ _ l.length rfl rfl rfl rfl ?_ ?_ (Nat.le_refl _) ?_)
    · rw [hz2]; omega
    · unfold maxLen; omega
    intro w0 hown0 hgrow0
    have e0 : (madeCells #[Value.int .i64 0] l.length).toList = ints (List.replicate l.length 0) := by rw [toList_madeCells_one, ints_zeros]
    have own0 : Own w.heap.size w0 (.slice (some ⟨w.heap.size, 0, none⟩) l.length l.length) (List.replicate l.length 0) := by
      unfold Own
      rw [List.length_replicate, ← e0]
      exact hown0
    have bel0 : Below w.heap.size w w0 := (Below.refl _ _).grown hgrow0 (Nat.le_refl _) (fun k h => by cases h)
    have R0 := hide ((unhide U).later bel0)
    clear hown0 hgrow0 e0
    go_wp2_with (refine wpList_copyAll rfl _ _ 67 67 rfl Tryz.underlying67 w.heap.size w.heap.size l.length _ own0 rfl _ l (unhide R0) rfl (by rw [List.length_replicate]; omega) ?_; intro w1 own1 bel1)
    have bel01 := bel0.trans bel1
    clear bel0 own0 R0
    have hst : (l ++ (List.replicate l.length (0 : Int)).drop l.length).length = l.length := by rw [List.length_append, List.length_drop, List.length_replicate]; omega
    have hg0 : ∀ j, (l ++ (List.replicate l.length (0 : Int)).drop l.length).getD j 0 = l.getD j 0 := by
      intro j
      rw [List.drop_replicate, getD_app_zeros]
    have hv0 : val (l ++ (List.replicate l.length (0 : Int)).drop l.length) = val l := by rw [val_append, List.drop_replicate, val_replicate]; simp
    generalize l ++ (List.replicate l.length (0 : Int)).drop l.length = c0 at *
    have Hst := hide hst
    have Hg0 := hide hg0
    have Hv0 := hide hv0
    clear hst hg0 hv0
    go_wp2
    go_loopw [6, 7, 19] (fun _ _ ii wr => ∃ (k : Nat) (c : List Int), k ≤ m.length ∧ ii = .int .i64 k ∧ c.length = l.length ∧ val c = val l + val (m.take k) ∧ (∀ j, c.getD j 0 = l.getD j 0 + if j < k then m.getD j 0 else 0) ∧
        Own w.heap.size wr (.slice (some ⟨w.heap.size, 0, none⟩) l.length l.length) c ∧ Below w.heap.size w wr)
      (fun _ _ ii _ => m.length - (intOf ii).toNat)
    case atStart => exact ⟨0, c0, Nat.zero_le _, rfl, unhide Hst, by simp [val, unhide Hv0], fun j => by rw [if_neg (by omega), Int.add_zero]; exact unhide Hg0 j, own1, bel01⟩
    case round =>
      obtain ⟨k, c, hkm, rfl, hcl, hval, hcj, hown, hbel⟩ := hrel
      have HCl := hide hcl
      have HVal := hide hval
      have HCj := hide hcj
      clear hval
      by_cases hlt : k < m.length
      · have hkc : k < c.length := by omega
        have hc := (hv.later hbel).cell k hlt
        have hat := hv.at_ (by omega)
        subst hat
        have hco := hown.cellAt hkc
        have hcf := hown.frozenAt k
        have ho := hide (fun x => (hown.store k x).1)
        have hck := hcj k
        rw [getD_at hkc, if_neg (by omega), Int.add_zero] at hck
        have q1 := hla'.getD k
        rw [← hck] at q1
        have q2 := hlb'.at hlt
        have hR : val (c.set k (c[k] + m[k])) = val l + val (m.take (k + 1)) := by
          rw [val_set hkc, getD_at hkc, unhide HVal, val_take_succ hlt]
          generalize (10000 : Int) ^ k = P
          grind
        have hJ : ∀ j, (c.set k (c[k] + m[k])).getD j 0 = l.getD j 0 + if j < k + 1 then m.getD j 0 else 0 := by
          intro j
          rw [getD_set hkc]
          by_cases e : j = k
          · subst e
            rw [if_pos rfl, if_pos (by omega), getD_at hlt, hck]
          · rw [if_neg e, unhide HCj j]
            by_cases h5 : j < k
            · rw [if_pos h5, if_pos (by omega)]
            · rw [if_neg h5, if_neg (by omega)]
        have HR := hide hR
        have HJ := hide hJ
        have hlen : ∀ x, (c.set k x).length = l.length := fun x => by rw [List.length_set]; exact unhide HCl
        have HLen := hide hlen
        have hkN : k < l.length := by omega
        clear hown hcj hR hJ hlen hck hcl hv
        generalize hyc : c[k] = yc at *
        generalize hym : m[k] = ym at *
        have Hyc := hide hyc
        have Hym := hide hym
        clear hyc hym
        obtain ⟨q1, q3⟩ := q1
        obtain ⟨q2, q4⟩ := q2
        go_wp2
        go_roundw
        case rel => exact ⟨k + 1, _, by omega, by go_num, unhide HLen _, unhide HR, unhide HJ, unhide ho _, hbel.setCell (Nat.le_refl _) _⟩
        case measure => simp only [intOf]; omega
      · have e := unhide HVal
        rw [List.take_of_length_le (by omega), unhide HVA, unhide HVB] at e
        have hcall := carried_any wr w.heap.size _ c (a + b) 201 hown (by rw [e]; omega) (unhide HAB) (by omega) (by omega)
          (mem_of_getD (P := fun x => -1000000000000000 ≤ x ∧ x ≤ 1000000000000000) (fun j _ => by
            rw [hcj j]
            have q1 := hla'.getD j
            have q2 := hlb'.getD j
            split <;> omega)) hbel.size
        have HCall := hide hcall
        clear hcall e hown hcj hcl hv
        go_wp2_with fail
        refine (unhide HCall).mono ?_
        rintro e w2 ⟨ao2, cap2, rfl, ho2, hb2⟩
        go_wp2
        go_ret
        exact ⟨ao2, cap2, rfl, ho2, hbel.trans hb2⟩

end Go.Proofs.YthnkmjkgcnhlfaaGreatDoor

namespace Go.Proofs.YthnkmjkgcnhlfaaGreatDoor
open Go.RowKit
set_option maxRecDepth 100000

theorem minus_any (w : World) (u v : Value) (a b : Nat) (hu : Reads w u (L a)) (hv : Reads w v (L b)) (ha : a < 10000 ^ 200) (hba : b ≤ a) :
    Calls Tryz.prog 83 #[u, v] w (Gives w (L (a - b))) := by
  have hla := L_len_le ha
  have hll : (L b).length ≤ (L a).length := L_len_le (Nat.lt_of_le_of_lt hba (lt_of_L_len (Nat.le_refl _)))
  have hab : a - b < 10000 ^ 200 := by omega
  have hla' := L_lim a
  have hlb' := L_lim b
  have va := val_L a
  have vb := val_L b
  generalize L a = l at *
  generalize L b = m at *
  clear ha
  have hclone := hide (clone_any w u l hu (by omega))
  have hs := hu
  obtain ⟨ao, b1, off, cap, rfl, hs⟩ := hs
  obtain ⟨ao', b2, off', cap', rfl, hv⟩ := hv
  have h3 := hv.le
  have h4 := hv.big
  unfold maxLen at h4
  have HAB := hide hab
  have HVA := hide va
  have HVB := hide vb
  have HBA := hide hba
  clear hu hs hab va vb hba
  go_enter Tryz.func83, Tryz.ntmps83
  go_wp2_with fail
  refine (unhide hclone).mono ?_
  rintro e w1 ⟨ao1, cap1, rfl, own1, bel1⟩
  rcases own1.split with ⟨e1, h0⟩ | ⟨g, capc, e1, hBg, hgs, hcapc, hmc⟩
  · have hm0 : m.length = 0 := by rw [h0] at hll; simpa using hll
    have em : m = [] := List.length_eq_zero_iff.1 hm0
    have hn : a - b = 0 := by
      have := unhide HVA; have := unhide HVB
      rw [h0] at *
      rw [em] at *
      simp [val] at *
      omega
    simp at e1
    obtain ⟨rfl, _, rfl⟩ := e1
    subst h0 em
    have hcall := hide (carried_any w1 w.heap.size _ [] (a - b) 200 own1 (by rw [hn]; simp [val]) (unhide HAB) (by omega) (by simp) (by simp) bel1.size)
    clear hn
    go_wp2
    refine wp_loop_rounds 1 ?_
    rw [rounds_succ]
    go_wp2_with fail
    refine (unhide hcall).mono ?_
    rintro e w2 ⟨ao2, cap2, rfl, ho2, hb2⟩
    go_wp2
    go_ret
    exact ⟨ao2, cap2, rfl, ho2, bel1.trans hb2⟩
  · simp at e1
    obtain ⟨rfl, rfl⟩ := e1
    go_wp2
    go_loopw [6, 7, 12] (fun _ _ ii wr => ∃ (k : Nat) (c : List Int), k ≤ m.length ∧ ii = .int .i64 k ∧ c.length = l.length ∧ val c = val l - val (m.take k) ∧ (∀ j, c.getD j 0 = l.getD j 0 - if j < k then m.getD j 0 else 0) ∧
        Own w.heap.size wr (.slice (some ⟨g, 0, none⟩) l.length cap1) c ∧ Below w.heap.size w wr)
      (fun _ _ ii _ => m.length - (intOf ii).toNat)
    case atStart => exact ⟨0, l, Nat.zero_le _, rfl, rfl, by simp [val], fun j => by rw [if_neg (by omega), Int.sub_zero], own1, bel1⟩
    case round =>
      obtain ⟨k, c, hkm, rfl, hcl, hval, hcj, hown, hbel⟩ := hrel
      have HCl := hide hcl
      have HVal := hide hval
      have HCj := hide hcj
      clear hval
      by_cases hlt : k < m.length
      · have hkc : k < c.length := by omega
        have hc := (hv.later hbel).cell k hlt
        have hat := hv.at_ (by omega)
        subst hat
        have hco := hown.cellAt hkc
        have hcf := hown.frozenAt k
        have ho := hide (fun x => (hown.store k x).1)
        have hck := hcj k
        rw [getD_at hkc, if_neg (by omega), Int.sub_zero] at hck
        have q1 := hla'.getD k
        rw [← hck] at q1
        have q2 := hlb'.at hlt
        have hR : val (c.set k (c[k] - m[k])) = val l - val (m.take (k + 1)) := by
          rw [val_set hkc, getD_at hkc, unhide HVal, val_take_succ hlt]
          generalize (10000 : Int) ^ k = P
          grind
        have hJ : ∀ j, (c.set k (c[k] - m[k])).getD j 0 = l.getD j 0 - if j < k + 1 then m.getD j 0 else 0 := by
          intro j
          rw [getD_set hkc]
          by_cases e : j = k
          · subst e
            rw [if_pos rfl, if_pos (by omega), getD_at hlt, hck]
          · rw [if_neg e, unhide HCj j]
            by_cases h5 : j < k
            · rw [if_pos h5, if_pos (by omega)]
            · rw [if_neg h5, if_neg (by omega)]
        have HR := hide hR
        have HJ := hide hJ
        have hlen : ∀ x, (c.set k x).length = l.length := fun x => by rw [List.length_set]; exact unhide HCl
        have HLen := hide hlen
        have hkN : k < l.length := by omega
        clear hown hcj hR hJ hlen hck hcl hv
        generalize hyc : c[k] = yc at *
        generalize hym : m[k] = ym at *
        have Hyc := hide hyc
        have Hym := hide hym
        clear hyc hym
        obtain ⟨q1, q3⟩ := q1
        obtain ⟨q2, q4⟩ := q2
        go_wp2
        go_roundw
        case rel => exact ⟨k + 1, _, by omega, by go_num, unhide HLen _, unhide HR, unhide HJ, unhide ho _, hbel.setCell hBg _⟩
        case measure => simp only [intOf]; omega
      · have e := unhide HVal
        rw [List.take_of_length_le (by omega), unhide HVA, unhide HVB] at e
        have hcall := carried_any wr w.heap.size _ c (a - b) 200 hown (by rw [e]; have := unhide HBA; omega) (unhide HAB) (by omega) (by omega)
          (mem_of_getD (P := fun x => -1000000000000000 ≤ x ∧ x ≤ 1000000000000000) (fun j _ => by
            rw [hcj j]
            have q1 := hla'.getD j
            have q2 := hlb'.getD j
            split <;> omega)) hbel.size
        have HCall := hide hcall
        clear hcall e hown hcj hcl hv
        go_wp2_with fail
        refine (unhide HCall).mono ?_
        rintro e w2 ⟨ao2, cap2, rfl, ho2, hb2⟩
        go_wp2
        go_ret
        exact ⟨ao2, cap2, rfl, ho2, hbel.trans hb2⟩

end Go.Proofs.YthnkmjkgcnhlfaaGreatDoor
