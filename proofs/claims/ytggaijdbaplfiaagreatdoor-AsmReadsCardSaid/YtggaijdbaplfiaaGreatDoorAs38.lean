/- Plain facts: what the document asks of an instruction is what is right. -/
import Derived.Test.YtggaijdbaplfiaaGreatDoorAs34
import Derived.Test.YtggaijdbaplfiaaGreatDoorAs30
namespace Go.Proofs.YtggaijdbaplfiaaGreatDoor
open Go
set_option linter.unusedVariables false
set_option linter.unusedSimpArgs false
/-- what the document asks of an instruction of a form -/
structure RightD (f : Fm) (x : In) (most : Int) : Prop where
  nm : f.nm ≠ []
  a : regB x.a ((hasF f).contains 65) = true
  b : regB x.b ((hasF f).contains 66) = true
  oa : regB x.oa ((hasF f).contains 97) = true
  ob : regB x.ob ((hasF f).contains 98) = true
  to0 : 0 ≤ x.to
  to1 : x.to ≤ most
  to2 : (hasF f).contains 116 = false → x.to = 0
  fd0 : 0 ≤ x.fd
  fd1 : x.fd < 48
  fd2 : (hasF f).contains 102 = false → x.fd = 0
  sh : Sh x.n x.m
  sh2 : (hasF f).contains 115 = false → x.n = 0 ∧ x.m = 0
  w : (hasF f).contains 119 = false → x.w = 0
  op : x.kd = 1 ∨ x.op = 0
theorem fms_let : ∀ f ∈ fms, (hasF f).contains 97 = f.os.contains 1 ∧ (hasF f).contains 98 = f.os.contains 2 ∧ (hasF f).contains 102 = f.os.contains 3 ∧ (hasF f).contains 115 = f.os.contains 4 ∧ (hasF f).contains 115 = f.os.contains 5 ∧ (hasF f).contains 119 = f.os.contains 6 ∧ (hasF f).contains 65 = f.os.contains 7 ∧ (hasF f).contains 66 = f.os.contains 8 ∧ (hasF f).contains 116 = f.os.contains 9 := by decide
theorem fms_op0 : ∀ f ∈ fms, f.kd ≠ 1 → f.op = 0 := by decide
theorem fms_formD : ∀ f ∈ fms, formD f.kd f.op = f := by
  intro f hf
  simp only [fms, List.mem_cons, List.not_mem_nil, or_false] at hf
  rcases hf with rfl | rfl | rfl | rfl | rfl | rfl | rfl | rfl | rfl | rfl | rfl | rfl | rfl | rfl | rfl | rfl | rfl | rfl | rfl | rfl <;> rfl
theorem regB_iff (n : Int) (b : Bool) : regB n b = true ↔ ((b = true → 0 ≤ n ∧ n < 4) ∧ (b = false → n = 0)) := by
  unfold regB
  cases b <;> simp
theorem not_mem_os {f : Fm} {o : Nat} (h : o ∉ f.os) : f.os.contains o = false := by
  cases hc : f.os.contains o with
  | false => rfl
  | true => exact absurd (List.contains_iff_mem.1 hc) h
theorem rightD_ok {x : In} {most : Int} (hx : InR x) (h : RightD (formD x.kd x.op) x most) : OkI most x := by
  obtain ⟨f, hf⟩ : ∃ f, formD x.kd x.op = f := ⟨_, rfl⟩
  rw [hf] at h
  have hs : (fms.find? fun f => f.kd == x.kd && (x.kd != 1 || f.op == x.op)) = some f := by
    unfold formD at hf
    cases hh : fms.find? fun f => f.kd == x.kd && (x.kd != 1 || f.op == x.op) with
    | some g => rw [hh] at hf; simpa using hf
    | none =>
      rw [hh] at hf
      exact absurd (show f.nm = [] by rw [← hf]; rfl) h.nm
  have hfm := List.mem_of_find?_eq_some hs
  have hp := List.find?_some hs
  simp only [Bool.and_eq_true, Bool.or_eq_true, beq_iff_eq, bne_iff_ne] at hp
  obtain ⟨hk, ho⟩ := hp
  have hop : x.op = f.op := by
    rcases ho with ho | ho
    · rw [fms_op0 f hfm (by rw [hk]; exact ho)]
      rcases h.op with h1 | h1
      · exact absurd h1 ho
      · exact h1
    · exact ho.symm
  obtain ⟨l1, l2, l3, l4, l5, l6, l7, l8, l9⟩ := fms_let f hfm
  have r1 := (regB_iff _ _).1 h.oa
  have r2 := (regB_iff _ _).1 h.ob
  have r7 := (regB_iff _ _).1 h.a
  have r8 := (regB_iff _ _).1 h.b
  rw [l1] at r1
  rw [l2] at r2
  rw [l7] at r7
  rw [l8] at r8
  have q3 := h.fd2
  have q4 := h.sh2
  have q5 := h.sh2
  have q6 := h.w
  have q9 := h.to2
  rw [l3] at q3
  rw [l4] at q4
  rw [l5] at q5
  rw [l6] at q6
  rw [l9] at q9
  have ht : Tel f x := ⟨hk.symm, hop, fun o o1 o9 hn => by
    have hc := not_mem_os hn
    rcases tl_nine o o1 o9 with rfl | rfl | rfl | rfl | rfl | rfl | rfl | rfl | rfl
    · exact r1.2 hc
    · exact r2.2 hc
    · exact q3 hc
    · exact (q4 hc).1
    · show (x.m : Int) = 0
      rw [(q5 hc).2]; rfl
    · show (x.w : Int) = 0
      rw [q6 hc]; rfl
    · exact r7.2 hc
    · exact r8.2 hc
    · exact q9 hc⟩
  refine ⟨f, ht.form hfm, fun o ho => ?_, ht.mkx hfm, h.sh⟩
  have hc : f.os.contains o = true := List.contains_iff_mem.2 ho
  obtain ⟨o1, o9⟩ := (fms_wf f hfm).2 o ho
  have hm := hx.m
  have hw := hx.w
  have s0 := h.sh.1
  have s1 := h.sh.2.1
  have f0 := h.fd0
  have f1 := h.fd1
  have t0 := h.to0
  have t1 := h.to1
  unfold inO
  rcases tl_nine o o1 o9 with rfl | rfl | rfl | rfl | rfl | rfl | rfl | rfl | rfl
  · have := r1.1 hc; simp only [getO, mostO]; omega
  · have := r2.1 hc; simp only [getO, mostO]; omega
  · simp only [getO, mostO]; omega
  · simp only [getO, mostO]; omega
  · simp only [getO, mostO]; omega
  · simp only [getO, mostO]; omega
  · have := r7.1 hc; simp only [getO, mostO]; omega
  · have := r8.1 hc; simp only [getO, mostO]; omega
  · simp only [getO, mostO]; omega
theorem ok_rightD {x : In} {most : Int} (hm0 : 0 ≤ most) (h : OkI most x) : RightD (formD x.kd x.op) x most := by
  have hg := fun o h1 h9 => h.get hm0 o h1 h9
  obtain ⟨f, hf, hall, hmk, hsh⟩ := h
  have hfm := List.mem_of_find?_eq_some hf
  have hp := List.find?_some hf
  simp only [Bool.and_eq_true, beq_iff_eq] at hp
  obtain ⟨hk, ho⟩ := hp
  have hfd : formD x.kd x.op = f := by
    rw [← hk, ← ho]
    exact fms_formD f hfm
  rw [hfd]
  have hz : ∀ o, 1 ≤ o → o ≤ 9 → f.os.contains o = false → getO o x = 0 := fun o h1 h9 hn => by
    rw [← hmk]
    unfold mkI
    rw [mkN_get x f.os (bare f) (fms_wf f hfm).2 o h1 h9, if_neg (fun hm => by rw [List.contains_iff_mem.2 hm] at hn; cases hn), bare_get f o h1 h9]
  obtain ⟨l1, l2, l3, l4, l5, l6, l7, l8, l9⟩ := fms_let f hfm
  have k1 := hg 1 (by omega) (by omega)
  have k2 := hg 2 (by omega) (by omega)
  have k3 := hg 3 (by omega) (by omega)
  have k7 := hg 7 (by omega) (by omega)
  have k8 := hg 8 (by omega) (by omega)
  have k9 := hg 9 (by omega) (by omega)
  have z1 := hz 1 (by omega) (by omega)
  have z2 := hz 2 (by omega) (by omega)
  have z3 := hz 3 (by omega) (by omega)
  have z4 := hz 4 (by omega) (by omega)
  have z5 := hz 5 (by omega) (by omega)
  have z6 := hz 6 (by omega) (by omega)
  have z7 := hz 7 (by omega) (by omega)
  have z8 := hz 8 (by omega) (by omega)
  have z9 := hz 9 (by omega) (by omega)
  simp only [getO, mostO] at k1 k2 k3 k7 k8 k9 z1 z2 z3 z4 z5 z6 z7 z8 z9
  refine ⟨(fms_no f hfm).2.2.2.1, ?_, ?_, ?_, ?_, k9.1, k9.2, ?_, k3.1, by omega, ?_, hsh, ?_, ?_, ?_⟩
  · rw [regB_iff, l7]; exact ⟨fun _ => by omega, z7⟩
  · rw [regB_iff, l8]; exact ⟨fun _ => by omega, z8⟩
  · rw [regB_iff, l1]; exact ⟨fun _ => by omega, z1⟩
  · rw [regB_iff, l2]; exact ⟨fun _ => by omega, z2⟩
  · rw [l9]; exact z9
  · rw [l3]; exact z3
  · intro hc
    refine ⟨z4 (by rw [← l4]; exact hc), ?_⟩
    have := z5 (by rw [← l5]; exact hc)
    omega
  · rw [l6]
    intro hc
    have := z6 hc
    omega
  · by_cases h1 : x.kd = 1
    · exact .inl h1
    · exact .inr (by rw [← ho]; exact fms_op0 f hfm (by rw [hk]; exact h1))
theorem rightD_iff {x : In} {most : Int} (hx : InR x) (hm0 : 0 ≤ most) : RightD (formD x.kd x.op) x most ↔ OkI most x := ⟨rightD_ok hx, ok_rightD hm0⟩
end Go.Proofs.YtggaijdbaplfiaaGreatDoor
