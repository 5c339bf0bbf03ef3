/- Towards the statement InsnStrict: an instruction with one field changed. -/
import Derived.Test.YthbmgfnifolcbaaST
namespace Go.Proofs.Ythbmgfnifolcbaa
set_option linter.unusedVariables false
set_option linter.unusedSimpArgs false
theorem beq_dec (a b : Int) : (a == b) = decide (a = b) := rfl
theorem st_1x (o d s f i off imm src : Int) (s0 : 0 ≤ s) (r0 : 0 ≤ src) (hk : kV o d s f i = 1) (hx : xB o = true) : (kV o d s off i == 1) = (off == 0) ∧ (kV o d s f imm == 1) = (imm == 0) ∧ (kV o d src f i == 1) = decide (src < 11) := by
  obtain ⟨hd, hs, hn, hm, hz⟩ := kV_pos hk (by decide)
  have hq := nm_inv hn
  simp [Q] at hq
  rw [kV_at (by decide) hd hs hn hm, kV_at (by decide) hd hs hn hm]
  simp [zB, hx] at hz
  refine ⟨?_, ?_, ?_⟩
  · simp [zB, beq_dec, hz, hx]
  · simp [zB, beq_dec, hz, hx]
  · have e : nmV o src = 1 := by
      rcases hq.1 with h | h <;> simp [nmV, h, hq.2]
    by_cases hr : src < 11
    · rw [kV_at (by decide) hd hr e hm]
      simp [zB, beq_dec, hz, hr, hx]
    · rw [kV_far (by decide) hr]
      simp [beq_dec, hr]
      try omega
theorem st_1g (o d s f i off imm src : Int) (s0 : 0 ≤ s) (r0 : 0 ≤ src) (hk : kV o d s f i = 1) (hx : xB o = false) (hc : o / 16 = 8) : (kV o d s off i == 1) = (off == 0) ∧ (kV o d s f imm == 1) = (imm == 0) ∧ (kV o d src f i == 1) = (src == s) := by
  obtain ⟨hd, hs, hn, hm, hz⟩ := kV_pos hk (by decide)
  have hq := nm_inv hn
  simp [Q] at hq
  rw [kV_at (by decide) hd hs hn hm, kV_at (by decide) hd hs hn hm]
  simp [zB, hx, hc] at hz
  refine ⟨?_, ?_, ?_⟩
  · simp [zB, beq_dec, hz, hx, hc]
  · simp [zB, beq_dec, hz, hx, hc]
  · have e : nmV o src = 1 := by
      rcases hq.1 with h | h <;> simp [nmV, h, hq.2]
    by_cases hr : src < 11
    · rw [kV_at (by decide) hd hr e hm]
      simp [zB, beq_dec, hz, hr, hx, hc]
    · rw [kV_far (by decide) hr]
      simp [beq_dec, hr]
      try omega
theorem st_1n (o d s f i off imm src : Int) (s0 : 0 ≤ s) (r0 : 0 ≤ src) (hk : kV o d s f i = 1) (hx : xB o = false) (hc : ¬ o / 16 = 8) : (kV o d s off i == 1) = (off == 0) ∧ (kV o d s f imm == 1) = true ∧ (kV o d src f i == 1) = (src == s) := by
  obtain ⟨hd, hs, hn, hm, hz⟩ := kV_pos hk (by decide)
  have hq := nm_inv hn
  simp [Q] at hq
  rw [kV_at (by decide) hd hs hn hm, kV_at (by decide) hd hs hn hm]
  simp [zB, hx, hc] at hz
  refine ⟨?_, ?_, ?_⟩
  · simp [zB, beq_dec, hz, hx, hc]
  · simp [zB, beq_dec, hz, hx, hc]
  · have e : nmV o src = 1 := by
      rcases hq.1 with h | h <;> simp [nmV, h, hq.2]
    by_cases hr : src < 11
    · rw [kV_at (by decide) hd hr e hm]
      simp [zB, beq_dec, hz, hr, hx, hc]
    · rw [kV_far (by decide) hr]
      simp [beq_dec, hr]
      try omega
theorem st_5x (o d s f i off imm src : Int) (s0 : 0 ≤ s) (r0 : 0 ≤ src) (hk : kV o d s f i = 5) (hx : xB o = true) : (kV o d s off i == 5) = true ∧ (kV o d s f imm == 5) = (imm == 0) ∧ (kV o d src f i == 5) = decide (src < 11) := by
  obtain ⟨hd, hs, hn, hm, hz⟩ := kV_pos hk (by decide)
  have hq := nm_inv hn
  simp [Q] at hq
  rw [kV_at (by decide) hd hs hn hm, kV_at (by decide) hd hs hn hm]
  simp [zB, hx] at hz
  refine ⟨?_, ?_, ?_⟩
  · simp [zB, beq_dec, hz, hx]
  · simp [zB, beq_dec, hz, hx]
  · have e : nmV o src = 5 := by
      rcases hq.1 with h | h <;> simp [nmV, h, hq.2]
    by_cases hr : src < 11
    · rw [kV_at (by decide) hd hr e hm]
      simp [zB, beq_dec, hz, hr, hx]
    · rw [kV_far (by decide) hr]
      simp [beq_dec, hr]
      try omega
theorem st_5n (o d s f i off imm src : Int) (s0 : 0 ≤ s) (r0 : 0 ≤ src) (hk : kV o d s f i = 5) (hx : xB o = false) : (kV o d s off i == 5) = true ∧ (kV o d s f imm == 5) = true ∧ (kV o d src f i == 5) = (src == s) := by
  obtain ⟨hd, hs, hn, hm, hz⟩ := kV_pos hk (by decide)
  have hq := nm_inv hn
  simp [Q] at hq
  rw [kV_at (by decide) hd hs hn hm, kV_at (by decide) hd hs hn hm]
  simp [zB, hx] at hz
  refine ⟨?_, ?_, ?_⟩
  · simp [zB, beq_dec, hz, hx]
  · simp [zB, beq_dec, hz, hx]
  · have e : nmV o src = 5 := by
      rcases hq.1 with h | h <;> simp [nmV, h, hq.2]
    by_cases hr : src < 11
    · rw [kV_at (by decide) hd hr e hm]
      simp [zB, beq_dec, hz, hr, hx]
    · rw [kV_far (by decide) hr]
      simp [beq_dec, hr]
      try omega
theorem st_2 (o d s f i off imm src : Int) (s0 : 0 ≤ s) (r0 : 0 ≤ src) (hk : kV o d s f i = 2)  : (kV o d s off i == 2) = true ∧ (kV o d s f imm == 2) = (imm == 0) ∧ (kV o d src f i == 2) = decide (src < 11) := by
  obtain ⟨hd, hs, hn, hm, hz⟩ := kV_pos hk (by decide)
  have hq := nm_inv hn
  simp [Q] at hq
  rw [kV_at (by decide) hd hs hn hm, kV_at (by decide) hd hs hn hm]
  simp [zB] at hz
  refine ⟨?_, ?_, ?_⟩
  · simp [zB, beq_dec, hz]
  · simp [zB, beq_dec, hz]
  · have e : nmV o src = 2 := by
      simp [nmV, hq]
    by_cases hr : src < 11
    · rw [kV_at (by decide) hd hr e hm]
      simp [zB, beq_dec, hz, hr]
    · rw [kV_far (by decide) hr]
      simp [beq_dec, hr]
      try omega
theorem st_4 (o d s f i off imm src : Int) (s0 : 0 ≤ s) (r0 : 0 ≤ src) (hk : kV o d s f i = 4)  : (kV o d s off i == 4) = true ∧ (kV o d s f imm == 4) = (imm == 0) ∧ (kV o d src f i == 4) = decide (src < 11) := by
  obtain ⟨hd, hs, hn, hm, hz⟩ := kV_pos hk (by decide)
  have hq := nm_inv hn
  simp [Q] at hq
  rw [kV_at (by decide) hd hs hn hm, kV_at (by decide) hd hs hn hm]
  simp [zB] at hz
  refine ⟨?_, ?_, ?_⟩
  · simp [zB, beq_dec, hz]
  · simp [zB, beq_dec, hz]
  · have e : nmV o src = 4 := by
      simp [nmV, hq]
    by_cases hr : src < 11
    · rw [kV_at (by decide) hd hr e hm]
      simp [zB, beq_dec, hz, hr]
    · rw [kV_far (by decide) hr]
      simp [beq_dec, hr]
      try omega
theorem st_3 (o d s f i off imm src : Int) (s0 : 0 ≤ s) (r0 : 0 ≤ src) (hk : kV o d s f i = 3)  : (kV o d s off i == 3) = true ∧ (kV o d s f imm == 3) = true ∧ (kV o d src f i == 3) = (src == s) := by
  obtain ⟨hd, hs, hn, hm, hz⟩ := kV_pos hk (by decide)
  have hq := nm_inv hn
  simp [Q] at hq
  rw [kV_at (by decide) hd hs hn hm, kV_at (by decide) hd hs hn hm]
  simp [zB] at hz
  refine ⟨?_, ?_, ?_⟩
  · simp [zB, beq_dec, hz]
  · simp [zB, beq_dec, hz]
  · have e : nmV o src = 3 := by
      simp [nmV, hq]
    by_cases hr : src < 11
    · rw [kV_at (by decide) hd hr e hm]
      simp [zB, beq_dec, hz, hr]
    · rw [kV_far (by decide) hr]
      simp [beq_dec, hr]
      try omega
theorem st_6 (o d s f i off imm src : Int) (s0 : 0 ≤ s) (r0 : 0 ≤ src) (hk : kV o d s f i = 6)  : (kV o d s off i == 6) = (off == 0) ∧ (kV o d s f imm == 6) = true ∧ (kV o d src f i == 6) = (src == s) := by
  obtain ⟨hd, hs, hn, hm, hz⟩ := kV_pos hk (by decide)
  have hq := nm_inv hn
  simp [Q] at hq
  rw [kV_at (by decide) hd hs hn hm, kV_at (by decide) hd hs hn hm]
  simp [zB] at hz
  refine ⟨?_, ?_, ?_⟩
  · simp [zB, beq_dec, hz]
  · simp [zB, beq_dec, hz]
  · have e : nmV o src = callV src := by
      have ha := hq.2.1; rw [hq.2.2.2.1] at ha; simp [nmV, noAskV, hq.1, hq.2.2.1, hq.2.2.2.1, ha]
    have e5 := hq.2.2.2.2
    by_cases hr : src < 11
    · by_cases h1 : src = 0
      · rw [kV_at (by decide) hd hr (by rw [e]; simp [callV, h1]) hm]
        simp [zB, beq_dec, hz, h1, e5]
      · rw [kV_else (by decide) (by rw [e, callV]; split <;> (try split) <;> omega)]
        simp [beq_dec, e5, h1]
    · rw [kV_far (by decide) hr]
      simp [beq_dec, e5]
      omega
theorem st_7 (o d s f i off imm src : Int) (s0 : 0 ≤ s) (r0 : 0 ≤ src) (hk : kV o d s f i = 7)  : (kV o d s off i == 7) = (off == 0) ∧ (kV o d s f imm == 7) = true ∧ (kV o d src f i == 7) = (src == s) := by
  obtain ⟨hd, hs, hn, hm, hz⟩ := kV_pos hk (by decide)
  have hq := nm_inv hn
  simp [Q] at hq
  rw [kV_at (by decide) hd hs hn hm, kV_at (by decide) hd hs hn hm]
  simp [zB] at hz
  refine ⟨?_, ?_, ?_⟩
  · simp [zB, beq_dec, hz]
  · simp [zB, beq_dec, hz]
  · have e : nmV o src = callV src := by
      have ha := hq.2.1; rw [hq.2.2.2.1] at ha; simp [nmV, noAskV, hq.1, hq.2.2.1, hq.2.2.2.1, ha]
    have e5 := hq.2.2.2.2
    by_cases hr : src < 11
    · by_cases h1 : src = 1
      · rw [kV_at (by decide) hd hr (by rw [e]; simp [callV, h1]) hm]
        simp [zB, beq_dec, hz, h1, e5]
      · rw [kV_else (by decide) (by rw [e, callV]; split <;> (try split) <;> omega)]
        simp [beq_dec, e5, h1]
    · rw [kV_far (by decide) hr]
      simp [beq_dec, e5]
      omega
theorem st_9 (o d s f i off imm src : Int) (s0 : 0 ≤ s) (r0 : 0 ≤ src) (hk : kV o d s f i = 9)  : (kV o d s off i == 9) = (off == 0) ∧ (kV o d s f imm == 9) = true ∧ (kV o d src f i == 9) = decide (src ≤ 2) := by
  obtain ⟨hd, hs, hn, hm, hz⟩ := kV_pos hk (by decide)
  have hq := nm_inv hn
  simp [Q] at hq
  rw [kV_at (by decide) hd hs hn hm, kV_at (by decide) hd hs hn hm]
  simp [zB] at hz
  refine ⟨?_, ?_, ?_⟩
  · simp [zB, beq_dec, hz]
  · simp [zB, beq_dec, hz]
  · have e : nmV o src = if src ≤ 2 then 9 else 0 := by simp [nmV, hq.1]
    by_cases hr : src ≤ 2
    · rw [kV_at (by decide) hd (by omega) (by rw [e, if_pos hr]) hm]
      simp [zB, hz, hr]
    · rw [kV_else (by decide) (by rw [e, if_neg hr]; decide)]
      simp [hr]
theorem st_8 (o d s f i off imm src : Int) (s0 : 0 ≤ s) (r0 : 0 ≤ src) (hk : kV o d s f i = 8)  : (kV o d s off i == 8) = (off == 0) ∧ (kV o d s f imm == 8) = (imm == 0) ∧ (kV o d src f i == 8) = (src == s) := by
  obtain ⟨hd, hs, hn, hm, hz⟩ := kV_pos hk (by decide)
  have hq := nm_inv hn
  simp [Q] at hq
  rw [kV_at (by decide) hd hs hn hm, kV_at (by decide) hd hs hn hm]
  simp [zB] at hz
  refine ⟨?_, ?_, ?_⟩
  · simp [zB, beq_dec, hz]
  · simp [zB, beq_dec, hz]
  · have e : nmV o src = 8 := by
      have ha := hq.2.1; rw [hq.2.2.2] at ha; simp [nmV, noAskV, hq.1, hq.2.2.1, hq.2.2.2, ha]
    by_cases hr : src < 11
    · rw [kV_at (by decide) hd hr e hm]
      simp [zB, beq_dec, hz, hr]
    · rw [kV_far (by decide) hr]
      simp [beq_dec, hr]
      try omega
theorem st_10 (o d s f i off imm src : Int) (s0 : 0 ≤ s) (r0 : 0 ≤ src) (hk : kV o d s f i = 10)  : (kV o d s off i == 10) = true ∧ (kV o d s f imm == 10) = (imm == 0) ∧ (kV o d src f i == 10) = (src == s) := by
  obtain ⟨hd, hs, hn, hm, hz⟩ := kV_pos hk (by decide)
  have hq := nm_inv hn
  simp [Q] at hq
  rw [kV_at (by decide) hd hs hn hm, kV_at (by decide) hd hs hn hm]
  simp [zB] at hz
  refine ⟨?_, ?_, ?_⟩
  · simp [zB, beq_dec, hz]
  · simp [zB, beq_dec, hz]
  · have e : nmV o src = 10 := by
      have ha := hq.2.1; rw [hq.2.2.2] at ha; simp [nmV, noAskV, hq.1, hq.2.2.1, hq.2.2.2, ha]
    by_cases hr : src < 11
    · rw [kV_at (by decide) hd hr e hm]
      simp [zB, beq_dec, hz, hr]
    · rw [kV_far (by decide) hr]
      simp [beq_dec, hr]
      try omega
end Go.Proofs.Ythbmgfnifolcbaa
