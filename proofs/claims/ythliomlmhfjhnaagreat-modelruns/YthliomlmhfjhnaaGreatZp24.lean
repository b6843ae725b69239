/- Texts put together. -/
import Derived.Test.YthliomlmhfjhnaaGreatZp20
import Derived.Test.YthliomlmhfjhnaaGreatZp17
namespace Go.Proofs.YthliomlmhfjhnaaGreat
set_option maxRecDepth 20000
set_option maxHeartbeats 16000000
open Go.ChangeShapes Go.WideShapes Go.ChangeAt Go.RowKit
set_option linter.unusedVariables false
set_option linter.unusedSimpArgs false
theorem Qiy {w W:World}{m:Nat}(h:Below (w.drewN m).heap.size (w.drewN m) W):Bw w W:=⟨h.os,h.tape,h.output,h.size,h.block⟩
theorem Qjg (a0:Option Addr)(h c0:Nat)(xs:List Int)(p:Int)(w:World)(h0:Reads .i64 w a0 (2*h) xs)(hp:0≤p∧p≤1000)(hb:2*h*8≤140737488355328) :
  Calls Tryz.prog 106 #[.slice a0 (2*h) c0,I4 p] w fun e w'=>(∃ a c,e=.returned (.tuple #[.slice a (2*h) c,I4 0])∧Reads .i64 w' a (2*h) (QcH xs p (2*h))∧(a=none→c=0))∧Bw w w':=by
 obtain⟨i0,hi,hz0,hz1,hz2⟩:=info_parts QaT
 obtain⟨p0,p1⟩:=hp
 have hm:=h0.max
 obtain⟨n,en⟩:∃ n,2*h=n:=⟨_,rfl⟩
 rw[en] at h0 hb hm ⊢
 have ev:((n:Int)%2==0)=true:=by simp;omega
 have hf:(n:Int)/2=(h:Int):=by omega
 unfold QcH
 go_enter Tryz.func106,Tryz.ntmps106
 go_wp2
 go_loopw [6,7] (fun v i wr=>∃ k:Nat,k≤h∧i=I4 k∧Bw w wr∧wr.ownsRow w.heap.size 2 1 v (2*k) (gath (Qch xs p) .i64 (2*k))) (fun _ i _=>h-(intOf i).toNat)
 case atStart=>exact⟨0,Nat.zero_le _,rfl,Below.refl _ _,World.ownsRow_nil _ _ _ _⟩
 case round =>
  obtain⟨k,hk,rfl,hbr,ho⟩:=hrel
  by_cases hlt:k<h
  ·have hr:=h0.below hbr
   obtain⟨x,rfl⟩:=h0.some_ (by omega)
   have cx:=hr.cell x rfl (2*k) (by omega)
   have cy:=hr.cell x rfl (2*k+1) (by omega)
   have wx:=h0.wf (2*k)
   have wy:=h0.wf (2*k+1)
   have eA:=Qfc xs p k
   have eB:=Qgi xs p k
   unfold Qke at eA
   unfold Qkd at eB
   have m0:0≤p*((k:Int)+1):=Int.mul_nonneg p0 (by omega)
   have m1:p*((k:Int)+1)≤1000*((k:Int)+1):=Int.mul_le_mul_of_nonneg_right p1 (by omega)
   obtain⟨M,eM⟩:∃ M,p*((k:Int)+1)=M:=⟨_,rfl⟩
   rw[eM] at m0 m1 eA eB
   obtain⟨X,eX⟩:∃ X,xs.getD (2*k) 0=X:=⟨_,rfl⟩
   obtain⟨Y,eY⟩:∃ Y,xs.getD (2*k+1) 0=Y:=⟨_,rfl⟩
   rw[eX] at cx wx
   rw[eY] at cy wy
   rw[eX,eY] at eA eB
   have cb:=Qe3 M
   have sb:=Qep M
   have kc:=fun W=>Qh2 M W
   have ks:=fun W=>QhU M W
   obtain⟨C,eC⟩:∃ C,cosZ M=C:=⟨_,rfl⟩
   obtain⟨S,eS⟩:∃ S,sinZ M=S:=⟨_,rfl⟩
   rw[eC] at cb kc eA eB
   rw[eS] at sb ks eA eB
   have wC:(Lit.int .i64 C).wf=true:=WalkArith.wf_i64 ⟨by omega,by omega⟩
   have wS:(Lit.int .i64 S).wf=true:=WalkArith.wf_i64 ⟨by omega,by omega⟩
   obtain⟨p0,p1⟩:=QaA X C
   obtain⟨q0,q1⟩:=QaA Y S
   obtain⟨r0,r1⟩:=QaA X S
   obtain⟨s0,s1⟩:=QaA Y C
   obtain⟨i,ei⟩:∃ i,2*k=i:=⟨_,rfl⟩
   have ik:2*(k:Int)=(i:Int):=by omega
   have hin:i+1<n:=by omega
   rw[ei] at cx cy ho eA eB
   obtain⟨i',ei'⟩:∃ i',i+1=i':=⟨_,rfl⟩
   rw[ei'] at cy hin
   have ik':(i:Int)+1=(i':Int):=by omega
   have Ei:Hid (i+1+1=2*(k+1)):=show i+1+1=2*(k+1) by omega
   have EA:Hid (cZ (mulZ X C-mulZ Y S)=Qch xs p i):=eA.symm
   have EB:Hid (cZ (mulZ X S+mulZ Y C)=Qch xs p (i+1)):=eB.symm
   have hle:i+1+1≤n:=by omega
   clear ei ei' eA eB eX eY hr h0 ev en eC eS cb sb
   go_wp2
   go_quiet (fail)
   go_wp2_with (first
    | (go_at_call 125;refine (kc _).mono ?_;rintro e W2 ⟨rfl,hb2⟩;replace hb2:=Qiy hb2)
    | (go_at_call 126;refine (ks _).mono ?_;rintro e W3 ⟨rfl,hb3⟩;replace hb3:=bTn hb2 hb3;replace ho:=oBe ho hb3;replace hbr:=bTn hbr hb3;clear hb2 hb3;have hsz:=hbr.size)
    | (go_at_call 76;refine (refMul_call _ _ (by assumption) (by assumption) _).mono ?_;rintro e w' ⟨rfl,h⟩;obtain rfl:=h.symm)
    | (go_at_call 73;refine (rCc _ _).mono ?_;rintro e w' ⟨rfl,h⟩;obtain rfl:=h.symm)
    | (at_builtin;refine wpList_append_own _ rfl (.tmp 51) (.tmp 60) 34 rfl w.heap.size 2 i0 (I4 0) 1 8 Tryz.underlying34 hi hz0 hz1 hz2 rfl (by decide) _ _ _ rfl (ho.alloc _) ⟨_,0,none⟩ 1 1 [I4 (cZ (mulZ X C-mulZ Y S))] rfl rfl (Qai _ _ _) (oOc _ _) (by unfold maxLen;omega) (by omega) (by simp;omega) ?_;intro v1 w1 ho1 hg1 _;obtain⟨hb4,ho4⟩:=aSt hsz EA.out hbr ho ho1 hg1;clear ho1 hg1 ho;have hsz4:=hb4.size)
    | (at_builtin;refine wpList_append_own _ rfl (.tmp 62) (.tmp 71) 34 rfl w.heap.size 2 i0 (I4 0) 1 8 Tryz.underlying34 hi hz0 hz1 hz2 rfl (by decide) _ _ _ rfl (ho4.alloc _) ⟨_,0,none⟩ 1 1 [I4 (cZ (mulZ X S+mulZ Y C))] rfl rfl (Qai _ _ _) (oOc _ _) (by unfold maxLen;omega) (by omega) (by simp;omega) ?_;intro v2 w2 ho2 hg2 _;have R:=aSt hsz4 EB.out hb4 ho4 ho2 hg2;clear ho2 hg2 ho4))
   go_roundw
   case rel=>exact⟨k+1,by omega,by go_num,R.1,by rw[←Ei.out];exact R.2⟩
   case measure=>simp[intOf];omega
  ·have e:k=h:=by omega
   subst e
   rw[en] at ho
   have fin:=oRe (zs:=(List.range n).map (Qch xs p)) ho (by simp) (fun z hz=>by obtain⟨y,_,rfl⟩:=List.mem_map.1 hz;exact QfB _ _ _) (fun j hj=>by rw[QaP _ _ _ _ hj];simp[hj])
   obtain⟨a,c,rfl,hr⟩:=fin
   have hn:=QiM ho
   clear ho
   go_wp2
   go_ret2
   exact⟨⟨_,_,rfl,hr,hn⟩,hbr⟩
theorem Qgx (a0:Option Addr)(n c0:Nat)(xs:List Int)(p:Int)(w:World)(h0:Reads .i64 w a0 n xs)(hn:n%2=0)(hp:0≤p∧p≤1000)(hb:n*8≤140737488355328) :
  Calls Tryz.prog 106 #[.slice a0 n c0,I4 p] w fun e w'=>(∃ a c,e=.returned (.tuple #[.slice a n c,I4 0])∧Reads .i64 w' a n (QcH xs p n)∧(a=none→c=0))∧Bw w w':=by
 obtain⟨k,rfl⟩:∃ k,n=2*k:=⟨n/2,by omega⟩
 exact Qjg _ _ _ _ _ _ h0 hp hb
theorem QhZ (x : Addr) (n c0 H : Nat) (xs : List Int) (p : Int) (w : World) (h0 : Reads .i64 w (some x) n xs) (l0 : n ≤ c0) (hH : 0 < H) (hn : 0 < n) (h : n % H = 0 ∧ n / H % 2 = 0) (hp : 0 ≤ p ∧ p ≤ 1000) (hb : n * 8 ≤ 140737488355328) :
    Calls Tryz.prog 67 #[.slice (some x) n c0, I4 H, I4 p] w fun e w' => (∃ a c, e = .returned (.tuple #[.slice a n c, I4 0]) ∧ Reads .i64 w' a n (headsL xs p (n / H) H) ∧ n ≤ c) ∧ Bw w w' := by
  obtain ⟨i0, hi, hz0, hz1, hz2⟩ := info_parts QaT
  have hm := h0.max
  obtain ⟨d, ed⟩ : ∃ d, n / H = d := ⟨_, rfl⟩
  have ed' : (n : Int) / (H : Int) = (d : Int) := by rw [← ed]; simp
  have er' : (n : Int) % (H : Int) = 0 := by have e : ((n % H : Nat) : Int) = 0 := by rw [h.1]; rfl
                                             simpa using e
  have eH : H * d = n := by rw [← ed, Nat.mul_comm]; exact Nat.div_mul_cancel (Nat.dvd_of_mod_eq_zero h.1)
  rw [ed] at h ⊢
  have d2 : ((d : Int) % 2 == 0) = true := by simp; omega
  have d0 : 0 < d := by
    rcases Nat.eq_zero_or_pos d with r | r
    · subst r; simp at eH; omega
    · exact r
  have hdn9q : d ≤ n := by rw [← ed]; exact Nat.div_le_self _ _
  have hHn : H ≤ n := by rw [← eH]; exact Nat.le_mul_of_pos_right H d0
  have kt := fun (W : World) a c ys (h' : Reads .i64 W a d ys) (hd : d * 8 ≤ 140737488355328) => Qgx a d c ys p W h' h.2 hp hd
  clear h ed
  have z : ((H : Int) == 0) = false := by simp; omega
  go_enter Tryz.func67, Tryz.ntmps67
  go_wp2
  go_loopw [9, 10] (fun v i wr => ∃ k : Nat, k ≤ H ∧ i = I4 k ∧ Bw w wr ∧ wr.ownsRow w.heap.size 2 1 v (k * d) ((headsL xs p d k).map (Value.int .i64))) (fun _ i _ => H - (intOf i).toNat)
  case atStart => exact ⟨0, Nat.zero_le _, rfl, Below.refl _ _, by simpa [headsL] using World.ownsRow_nil _ _ _ _⟩
  case round =>
    obtain ⟨k, hk, rfl, hbr, ho⟩ := hrel
    by_cases hlt : k < H
    · obtain ⟨hq, hr⟩ := Qfr (h0.below hbr) eH hlt
      have es : headsL xs p d (k + 1) = headsL xs p d k ++ QcH ((xs.drop (k * d)).take d) p d := rfl
      have ek : (k + 1) * d = k * d + d := Nat.succ_mul k d
      obtain ⟨ys, ey⟩ : ∃ ys, (xs.drop (k * d)).take d = ys := ⟨_, rfl⟩
      obtain ⟨P, eP⟩ : ∃ P, k * d = P := ⟨_, rfl⟩
      have ip : (k : Int) * (d : Int) = (P : Int) := by rw [← eP]; simp
      rw [ey] at hr es
      rw [eP] at hr hq ek ho
      have Es : Hid (headsL xs p d (k + 1) = headsL xs p d k ++ QcH ys p d) := es
      have Ek : Hid ((k + 1) * d = P + d) := ek
      obtain ⟨Q, eQ⟩ : ∃ Q, P + d = Q := ⟨_, rfl⟩
      have iq : ((k : Int) + 1) * (d : Int) = (Q : Int) := by rw [← eQ, Int.add_mul, ip]; simp
      have eQ2 : Q - P = d := by omega
      have hQ : Q ≤ n := by omega
      have hP : P < Q := by omega
      rename ((d : Int) % 2 != 0) = false => hx
      clear ey eP es ek h0 eH eQ er' d2 hx
      go_wp2_with (first
        | (go_at_call 106; refine (kt _ _ _ _ hr (by omega)).mono ?_; rintro e W2 ⟨⟨p2, q2, rfl, r2, n2⟩, hb2⟩; replace ho := oBe ho hb2; replace hbr := bTn hbr hb2; clear hb2 hr; have hsz := hbr.size)
        | (at_builtin; refine Qav rfl (.tmp 60) (.tmp 61) 34 rfl w.heap.size 2 i0 (I4 0) 8 Tryz.underlying34 hi hz0 hz1 hz2 rfl _ P _ rfl ho .i64 p2 d q2 _ rfl r2 n2 (by unfold maxLen; omega) (by omega) hsz ?_; intro v1 W3 ho3 hg3; have R := And.intro (below_append hbr ho hg3) ho3; clear ho3 hg3 ho))
      go_roundw
      case rel => exact ⟨k + 1, by omega, by go_num, R.1, by rw [Ek.out, Es.out, List.map_append]; exact R.2⟩
      case measure => simp [intOf]; omega
    · have e : k = H := by omega
      subst e
      rw [eH] at ho
      have fin := oRe (zs := headsL xs p d k) ho (by rw [Qa2, eH]) (Qgf _ _ _ _) (fun j hj => QbR _ _ _ (by rw [Qa2, eH]; exact hj))
      obtain ⟨a, c, rfl, hr⟩ := fin
      have hn := QaL ho
      clear ho kt
      go_wp2
      go_ret2
      exact ⟨⟨_, _, rfl, hr, hn⟩, hbr⟩
end Go.Proofs.YthliomlmhfjhnaaGreat
