/- TablePlays: Offer of both. -/
import Derived.Test.YtkhheooofcpfdaaGreatDoorMiA
namespace Go.Proofs.YtkhheooofcpfdaaGreatDoor
open Go.RowKit Go.Maps
set_option linter.unusedVariables false
theorem ky_store {W0:World} {KB:Nat} {p:Ky} (h:KyAt W0 KB p) (q:Ky):∃ W',((((W0.setCell ⟨KB,0,none⟩ (.int .i64 q.kind)).setCell ⟨KB,1,none⟩ (.int .i64 q.src)).setCell ⟨KB,2,none⟩ (.int .i64 q.frm)).setCell ⟨KB,3,none⟩ (.int .i64 q.dst)).setCell ⟨KB,4,none⟩ (.int .i64 q.too)=W'∧KyAt W' KB q∧Only KB W0 W' :=
 ⟨_,rfl,heap_setCell_same _ KB 4 _ _ _ (heap_setCell_same _ KB 3 _ _ _ (heap_setCell_same _ KB 2 _ _ _ (heap_setCell_same _ KB 1 _ _ _ (heap_setCell_same _ KB 0 _ _ _ h)))),(((((Only.refl _ _).setCell _ _).setCell _ _).setCell _ _).setCell _ _).setCell _ _⟩
set_option maxRecDepth 100000 in
set_option maxHeartbeats 32000000 in
theorem tp_offa (w W0:World) (A M V KB SB l c fl fc:Nat) (a fa:Option Addr) (t u:Tb) (k:Ky) (s:Sg) (fs:List Fl) (z0 z1 z2 z3:Int) (K:Act→World→Prop) (E:Exit→Act→World→Prop) (C:Code) (hC:C=tpBlk 4)
  (HO:Hid (TpO w A M)) (HT:Hid (TpT w A M t u W0)) (HN:Hid (TpN t u)) (HV:Hid (V4At W0 V z0 z1 z2 z3)) (HVL:Hid (w.heap.size≤V)) (HKY:Hid (KyAt W0 KB k)) (HKL:Hid (w.heap.size≤KB)) (HKO:Hid (KyOk k)) (HSG:Hid (SgAt W0 SB s (.slice a l c)))
  (HBY:Hid (∀ W,Below w.heap.size w W→Bytes W (.slice a l c) s.body)) (HFS:Hid (Fls w (.slice fa fl fc) fs)) (HE:Hid (∀ W,Below w.heap.size w W→ErrLaid W)) (hz0:z0=2∨z0=3) (hr:(Int.tmod z2 2 == 1)=false) (HL:Hid (∀ W,Below w.heap.size w W→Lives W))
  (v0 v1 v3 v4 v5 v6 v7 v8 v10 v11 v12 v14 v16 v20 v21 v22 v23 v24 v25 v26 v27 v28 v29 v30 v31 v32 v33 v34 v35 v36 v37 v38 v39 v40 v41 v42 v43 v44 v45 v46 v47 v48 v49 v50 v51 v52 v53 v54 v55 v56 v57 v58 v59 v60 v61 v62 v63 v64 v65 v66 v67 v68 v69 v70 v71 v72 v73 v74 v75 v76 v77 v78 v79 v80 v81 v82 v83 v84 v85 v86 v87 v88 v89 v90 v91 v92 v93 v94 v95 v96 v97 v98 v99 v2s v2t v2u v2v v2w v2x v2y v2z v108 v109 v110 v111 v112 v113 v114 v115 v116 v117 v3a v3b v3c v3d v3e v3f v3g v3h v3i v3j v3k v3l v3n v3o v3p v3q v3r v3s v3t v3u v3v v3w v3x v3y v3z v144 v145 v146 v147 v148 v149 v150 v151 v152 v153 v4a v4b v4c v4d v4e v4f v4g v4h v4i v4j v4k v4l v4m v4n v4o v4p v4q v4r v4s v4t v4u v4v v4w v4x v4y v4z v180 v181 v182 v183 v184 v185 v186 v187 v188 v189 v5a v5b v5c v5d v5e v5f v5g v5h v5i v5j v5k v5l v5m v5n v5o v5p v5q v5r v5s v5t v5u v5v v5w v5x v5y v5z v216 v217 v218 v219 v220 v221 v222 v223 v224 v225 v6a v6b v6c v6d v6e v6f v6g v6h v6i v6j v6k v6l v6m v6n v6o v6p v6q v6r v6s v6t v6u v6v v6w v6x v6y v6z v252 v253 v254 v255 v256 v257 v258 v259 v260 v261 v7a v7b v7c v7d v7e v7f v7g v7h v7i v7j v7k v7l v7m v7n v7o v7p v7q v7r v7s v7t v7u v7v v7w v7x v7y v7z v288 v289 v290 v291 v292 v293 v294 v295 v296 v297 v8a v8b v8c v8d v8e v8f v8g v8h v8i v8j v8k v8l v8m:Value)
  (hK:∀ (W9:World) (u20 u21 u22 u23 u24 u25 u26 u27 u28 u29 u30 u31 u32 u33 u34 u35 u36 u37 u3n u3o u3p u3q u3r u3s u3t u3u u3v u3w u3x u3y u3z u40 u41 u42 u43 u44 u45 u46 u47 u48 u49 u4a u4b u4c u4d u4e u4f u4g u4h u4i u4j u4k u4l u4m u4n u4o u4p u4q u4r u4s u4t u4u u4v u4w u4x u4y u4z u50 u51 u52 u53 u54 u55 u56 u57 u58 u59 u5a u5b u5c u5d u5e u5f u5g u5h u5i u5j u5k u5l u5m u5n u5o u5p u5q u5r u5s u5t u5u u5v u5w u5x u5y u5z u60 u61 u62 u63 u64 u65 u66 u67 u68 u69 u6a u6b u6c u6d u6e u6f u6g u6h u6i u6j u6k u6l u6m u6n u6o u6p u6q u6r u6s u6t u6u u6v u6w u6x u6y u6z u70 u71 u72 u73 u74 u75 u76 u77 u78 u79 u7a u7b u7c:Value),TpS w A M W9→(∃ k',KyOk k'∧KyAt W9 KB k')→K { tmps:=#[v0,v1,.slice fa fl fc,v3,v4,v5,v6,v7,v8,.pointer (some ⟨A,0,none⟩),v10,v11,.bool true,.pointer (some ⟨M,0,none⟩),v14,.pointer (some ⟨V,0,none⟩),v16,.pointer (some ⟨KB,0,none⟩),.pointer (some ⟨SB,0,none⟩),.int .i64 z3,u20,u21,u22,u23,u24,u25,u26,u27,u28,u29,u30,u31,u32,u33,u34,u35,u36,u37,v38,v39,v40,v41,v42,v43,v44,v45,v46,v47,v48,v49,v50,v51,v52,v53,v54,v55,v56,v57,v58,v59,v60,v61,v62,v63,v64,v65,v66,v67,v68,v69,v70,v71,v72,v73,v74,v75,v76,v77,v78,v79,v80,v81,v82,v83,v84,v85,v86,v87,v88,v89,v90,v91,v92,v93,v94,v95,v96,v97,v98,v99,v2s,v2t,v2u,v2v,v2w,v2x,v2y,v2z,v108,v109,v110,v111,v112,v113,v114,v115,v116,v117,v3a,v3b,v3c,v3d,v3e,v3f,v3g,v3h,v3i,v3j,v3k,v3l,.int .i64 z0,u3n,u3o,u3p,u3q,u3r,u3s,u3t,u3u,u3v,u3w,u3x,u3y,u3z,u40,u41,u42,u43,u44,u45,u46,u47,u48,u49,u4a,u4b,u4c,u4d,u4e,u4f,u4g,u4h,u4i,u4j,u4k,u4l,u4m,u4n,u4o,u4p,u4q,u4r,u4s,u4t,u4u,u4v,u4w,u4x,u4y,u4z,u50,u51,u52,u53,u54,u55,u56,u57,u58,u59,u5a,u5b,u5c,u5d,u5e,u5f,u5g,u5h,u5i,u5j,u5k,u5l,u5m,u5n,u5o,u5p,u5q,u5r,u5s,u5t,u5u,u5v,u5w,u5x,u5y,u5z,u60,u61,u62,u63,u64,u65,u66,u67,u68,u69,u6a,u6b,u6c,u6d,u6e,u6f,u6g,u6h,u6i,u6j,u6k,u6l,u6m,u6n,u6o,u6p,u6q,u6r,u6s,u6t,u6u,u6v,u6w,u6x,u6y,u6z,u70,u71,u72,u73,u74,u75,u76,u77,u78,u79,u7a,u7b,u7c,v7d,v7e,v7f,v7g,v7h,v7i,v7j,v7k,v7l,v7m,v7n,v7o,v7p,v7q,v7r,v7s,v7t,v7u,v7v,v7w,v7x,v7y,v7z,v288,v289,v290,v291,v292,v293,v294,v295,v296,v297,v8a,v8b,v8c,v8d,v8e,v8f,v8g,v8h,v8i,v8j,v8k,v8l,v8m],defers:=[] } W9) :
  Code.wp Tryz.prog C (Exit.then K E) { tmps:=#[v0,v1,.slice fa fl fc,v3,v4,v5,v6,v7,v8,.pointer (some ⟨A,0,none⟩),v10,v11,v12,.pointer (some ⟨M,0,none⟩),v14,.pointer (some ⟨V,0,none⟩),v16,.pointer (some ⟨KB,0,none⟩),.pointer (some ⟨SB,0,none⟩),.int .i64 z3,v20,v21,v22,v23,v24,v25,v26,v27,v28,v29,v30,v31,v32,v33,v34,v35,v36,v37,v38,v39,v40,v41,v42,v43,v44,v45,v46,v47,v48,v49,v50,v51,v52,v53,v54,v55,v56,v57,v58,v59,v60,v61,v62,v63,v64,v65,v66,v67,v68,v69,v70,v71,v72,v73,v74,v75,v76,v77,v78,v79,v80,v81,v82,v83,v84,v85,v86,v87,v88,v89,v90,v91,v92,v93,v94,v95,v96,v97,v98,v99,v2s,v2t,v2u,v2v,v2w,v2x,v2y,v2z,v108,v109,v110,v111,v112,v113,v114,v115,v116,v117,v3a,v3b,v3c,v3d,v3e,v3f,v3g,v3h,v3i,v3j,v3k,v3l,.int .i64 z0,v3n,v3o,v3p,v3q,v3r,v3s,v3t,v3u,v3v,v3w,v3x,v3y,v3z,v144,v145,v146,v147,v148,v149,v150,v151,v152,v153,v4a,v4b,v4c,v4d,v4e,v4f,v4g,v4h,v4i,v4j,v4k,v4l,v4m,v4n,v4o,v4p,v4q,v4r,v4s,v4t,v4u,v4v,v4w,v4x,v4y,v4z,v180,v181,v182,v183,v184,v185,v186,v187,v188,v189,v5a,v5b,v5c,v5d,v5e,v5f,v5g,v5h,v5i,v5j,v5k,v5l,v5m,v5n,v5o,v5p,v5q,v5r,v5s,v5t,v5u,v5v,v5w,v5x,v5y,v5z,v216,v217,v218,v219,v220,v221,v222,v223,v224,v225,v6a,v6b,v6c,v6d,v6e,v6f,v6g,v6h,v6i,v6j,v6k,v6l,v6m,v6n,v6o,v6p,v6q,v6r,v6s,v6t,v6u,v6v,v6w,v6x,v6y,v6z,v252,v253,v254,v255,v256,v257,v258,v259,v260,v261,v7a,v7b,v7c,v7d,v7e,v7f,v7g,v7h,v7i,v7j,v7k,v7l,v7m,v7n,v7o,v7p,v7q,v7r,v7s,v7t,v7u,v7v,v7w,v7x,v7y,v7z,v288,v289,v290,v291,v292,v293,v294,v295,v296,v297,v8a,v8b,v8c,v8d,v8e,v8f,v8g,v8h,v8i,v8j,v8k,v8l,v8m],defers:=[] } W0:=by
 subst hC
 conv =>
  arg 2
  unfold tpBlk
  unfold Tryz.f3
  simp only [Option.getD_some,blkAt]
 conv =>
  arg 4
  zeta
 try simp (maxSteps:=10000000) only at hK
 have HK:=hidE hK
 clear hK
 rcases hz0 with rfl|rfl
 all_goals
  obtain ⟨⟨_,_,c2,_⟩,_⟩:=v4_cells HV.out
  obtain ⟨va,hv,hne⟩:=HT.out.lr
  have q1:=loffer_any M u va k s (.slice a l c) z3 W0 hv HN.out.len.2 hne (HBY.out _ HT.out.bel)
  obtain ⟨z,hz⟩:∃ z,ofE u k s z3=z:=⟨_,rfl⟩
  obtain ⟨X,hX⟩:∃ X,ofF u k s z3=X:=⟨_,rfl⟩
  rw [hz,hX] at q1
  have HZ:Hid (ofE t k s z3=z∧ofF t k s z3=X):=⟨by rw [← hz];exact HN.out.tw.ofE _ _ _,by rw [← hX];exact HN.out.tw.ofF _ _ _⟩
  unfold keyV segV flV at q1
  clear hz hX
  obtain ⟨k0,k1,k2,k3,k4⟩:=(HKY.out).cells
  obtain ⟨g0,g1,g2,g3,g4,g5,g6⟩:=(HSG.out).cells
  go_upto_region 45 with (go_at_call 10;go_must ((with_reducible refine q1.mono ?_);rintro e' W1 ⟨rfl,n1,g9⟩))
  obtain ⟨T1,K1⟩:=HT.out.setM HO.out hv n1 g9
  have b2:Below W1.heap.size W1 (W1.alloc (.cells #[.int .i64 X.key.kind,.int .i64 X.key.src,.int .i64 X.key.frm,.int .i64 X.key.dst,.int .i64 X.key.too,.int .i64 X.st,.int .i64 X.unt,.int .i64 X.stp,.int .i64 X.h0,.int .i64 X.h1,.int .i64 X.w0,.int .i64 X.w1,.bool X.d0,.bool X.d1,.int .i64 X.num] 45)):=(Below.refl _ _).alloc (Nat.le_refl _) _
  have p2:=FlAt.new W1 X
  obtain ⟨Y1,hY1⟩:∃ Y1,W1.heap.size=Y1:=⟨_,rfl⟩
  obtain ⟨W2,hW2⟩:∃ W2,W1.alloc (.cells #[.int .i64 X.key.kind,.int .i64 X.key.src,.int .i64 X.key.frm,.int .i64 X.key.dst,.int .i64 X.key.too,.int .i64 X.st,.int .i64 X.unt,.int .i64 X.stp,.int .i64 X.h0,.int .i64 X.h1,.int .i64 X.w0,.int .i64 X.w1,.bool X.d0,.bool X.d1,.int .i64 X.num] 45)=W2:=⟨_,rfl⟩
  rw [hW2] at b2 p2 ⊢
  have T2:=T1.below b2
  have K2:=K1.trans (Kp.below b2)
  rw [hY1] at p2 ⊢
  have HT2:=hidE T2
  have HP2:=hidE p2
  have HKY2:=hidE (K2.ky HKY.out)
  have HSG2:=hidE (K2.sg HSG.out)
  obtain ⟨m,hm,hb⟩:=T2.tb
  have q2:=offer_any A m t k s (.slice a l c) z3 W2 hb HN.out.ok HKO.out (HBY.out W2 HT2.out.bel) (HL.out W2 HT2.out.bel)
  rw [HZ.out.1,HZ.out.2] at q2
  unfold keyV segV flV at q2
  clear k0 k1 k2 k3 k4 g0 g1 g2 g3 g4 g5 g6 q1 T1 K1 T2 K2 b2 p2 hW2 hY1 n1 g9 hv hne
  obtain ⟨k0,k1,k2,k3,k4⟩:=(HKY2.out).cells
  obtain ⟨g0,g1,g2,g3,g4,g5,g6⟩:=(HSG2.out).cells
  generalize hev:errV z=ev at q2
  have HEV:=hidE hev
  clear hev
  go_upto_region 46 with (go_at_call 11;go_must ((with_reducible refine q2.mono ?_);rintro e' W3 ⟨rfl,n3,g9⟩))
  obtain ⟨T3,K3⟩:=HT2.out.setA HO.out hm hb n3 g9
  have b4:Below W3.heap.size W3 (W3.alloc (.cells #[.int .i64 X.key.kind,.int .i64 X.key.src,.int .i64 X.key.frm,.int .i64 X.key.dst,.int .i64 X.key.too,.int .i64 X.st,.int .i64 X.unt,.int .i64 X.stp,.int .i64 X.h0,.int .i64 X.h1,.int .i64 X.w0,.int .i64 X.w1,.bool X.d0,.bool X.d1,.int .i64 X.num] 45)):=(Below.refl _ _).alloc (Nat.le_refl _) _
  have p4:=FlAt.new W3 X
  obtain ⟨Y3,hY3⟩:∃ Y3,W3.heap.size=Y3:=⟨_,rfl⟩
  obtain ⟨W4,hW4⟩:∃ W4,W3.alloc (.cells #[.int .i64 X.key.kind,.int .i64 X.key.src,.int .i64 X.key.frm,.int .i64 X.key.dst,.int .i64 X.key.too,.int .i64 X.st,.int .i64 X.unt,.int .i64 X.stp,.int .i64 X.h0,.int .i64 X.h1,.int .i64 X.w0,.int .i64 X.w1,.bool X.d0,.bool X.d1,.int .i64 X.num] 45)=W4:=⟨_,rfl⟩
  rw [hW4] at b4 p4 ⊢
  have T4:=T3.below b4
  have K4:=K3.trans (Kp.below b4)
  rw [hY3] at p4 ⊢
  have q3:=tp_same z W4 (HE.out W4 T4.bel)
  rw [HEV.out] at q3
  have HT4:=hidE T4
  have HP4:=hidE p4
  have HQ4:=hidE (K4.fl HP2.out)
  have HKY4:=hidE (K4.ky HKY2.out)
  clear k0 k1 k2 k3 k4 g0 g1 g2 g3 g4 g5 g6 q2 T3 K3 T4 K4 b4 p4 hW4 hY3 n3 g9 hm hb
  go_upto_region 47 with (go_at_call 5;go_must ((with_reducible refine q3.mono ?_);rintro e' W5 ⟨rfl,b5⟩))
  have HT5:=hidE (HT4.out.below b5)
  have HKY5:=hidE ((Kp.below b5).ky HKY4.out)
  obtain ⟨d0,d1,d2,d3,d4,d5,d6,d7,d8,d9,d10,d11,d12,d13,d14⟩:=((Kp.below b5).fl HP4.out).cells
  obtain ⟨e0,e1,e2,e3,e4,e5,e6,e7,e8,e9,e10,e11,e12,e13,e14⟩:=((Kp.below b5).fl HQ4.out).cells
  have hfe:=fun w=>Tryz.flEql X w
  have hfg:=Tryz.flGuard
  clear b5 q3
  go_wp2_with fail
  exact HK.out _ _ _ _ _ _ _ _ _ _ _ _ _ _ _ _ _ _ _ _ _ _ _ _ _ _ _ _ _ _ _ _ _ _ _ _ _ _ _ _ _ _ _ _ _ _ _ _ _ _ _ _ _ _ _ _ _ _ _ _ _ _ _ _ _ _ _ _ _ _ _ _ _ _ _ _ _ _ _ _ _ _ _ _ _ _ _ _ _ _ _ _ _ _ _ _ _ _ _ _ _ _ _ _ _ _ _ _ _ _ _ _ _ _ _ _ _ _ _ _ _ _ _ _ _ _ _ _ _ _ _ _ _ _ _ _ _ _ _ _ _ _ _ _ _ _ _ _ _ _ _ _ _ ⟨_,_,HT5.out,HN.out.offered k s z3⟩ ⟨k,HKO.out,HKY5.out⟩
set_option maxRecDepth 100000 in
set_option maxHeartbeats 32000000 in
theorem tp_offb (w W0:World) (A M V KB SB l c fl fc:Nat) (a fa:Option Addr) (t u:Tb) (k:Ky) (s:Sg) (fs:List Fl) (z0 z1 z2 z3:Int) (K:Act→World→Prop) (E:Exit→Act→World→Prop) (C:Code) (hC:C=tpBlk 4)
  (HO:Hid (TpO w A M)) (HT:Hid (TpT w A M t u W0)) (HN:Hid (TpN t u)) (HV:Hid (V4At W0 V z0 z1 z2 z3)) (HVL:Hid (w.heap.size≤V)) (HKY:Hid (KyAt W0 KB k)) (HKL:Hid (w.heap.size≤KB)) (HKO:Hid (KyOk k)) (HSG:Hid (SgAt W0 SB s (.slice a l c)))
  (HBY:Hid (∀ W,Below w.heap.size w W→Bytes W (.slice a l c) s.body)) (HFS:Hid (Fls w (.slice fa fl fc) fs)) (HE:Hid (∀ W,Below w.heap.size w W→ErrLaid W)) (hz0:z0=2∨z0=3) (hr:(Int.tmod z2 2 == 1)=true) (HL:Hid (∀ W,Below w.heap.size w W→Lives W))
  (v0 v1 v3 v4 v5 v6 v7 v8 v10 v11 v12 v14 v16 v20 v21 v22 v23 v24 v25 v26 v27 v28 v29 v30 v31 v32 v33 v34 v35 v36 v37 v38 v39 v40 v41 v42 v43 v44 v45 v46 v47 v48 v49 v50 v51 v52 v53 v54 v55 v56 v57 v58 v59 v60 v61 v62 v63 v64 v65 v66 v67 v68 v69 v70 v71 v72 v73 v74 v75 v76 v77 v78 v79 v80 v81 v82 v83 v84 v85 v86 v87 v88 v89 v90 v91 v92 v93 v94 v95 v96 v97 v98 v99 v2s v2t v2u v2v v2w v2x v2y v2z v108 v109 v110 v111 v112 v113 v114 v115 v116 v117 v3a v3b v3c v3d v3e v3f v3g v3h v3i v3j v3k v3l v3n v3o v3p v3q v3r v3s v3t v3u v3v v3w v3x v3y v3z v144 v145 v146 v147 v148 v149 v150 v151 v152 v153 v4a v4b v4c v4d v4e v4f v4g v4h v4i v4j v4k v4l v4m v4n v4o v4p v4q v4r v4s v4t v4u v4v v4w v4x v4y v4z v180 v181 v182 v183 v184 v185 v186 v187 v188 v189 v5a v5b v5c v5d v5e v5f v5g v5h v5i v5j v5k v5l v5m v5n v5o v5p v5q v5r v5s v5t v5u v5v v5w v5x v5y v5z v216 v217 v218 v219 v220 v221 v222 v223 v224 v225 v6a v6b v6c v6d v6e v6f v6g v6h v6i v6j v6k v6l v6m v6n v6o v6p v6q v6r v6s v6t v6u v6v v6w v6x v6y v6z v252 v253 v254 v255 v256 v257 v258 v259 v260 v261 v7a v7b v7c v7d v7e v7f v7g v7h v7i v7j v7k v7l v7m v7n v7o v7p v7q v7r v7s v7t v7u v7v v7w v7x v7y v7z v288 v289 v290 v291 v292 v293 v294 v295 v296 v297 v8a v8b v8c v8d v8e v8f v8g v8h v8i v8j v8k v8l v8m:Value)
  (hK:∀ (W9:World) (u20 u21 u22 u23 u24 u25 u26 u27 u28 u29 u30 u31 u32 u33 u34 u35 u36 u37 u3n u3o u3p u3q u3r u3s u3t u3u u3v u3w u3x u3y u3z u40 u41 u42 u43 u44 u45 u46 u47 u48 u49 u4a u4b u4c u4d u4e u4f u4g u4h u4i u4j u4k u4l u4m u4n u4o u4p u4q u4r u4s u4t u4u u4v u4w u4x u4y u4z u50 u51 u52 u53 u54 u55 u56 u57 u58 u59 u5a u5b u5c u5d u5e u5f u5g u5h u5i u5j u5k u5l u5m u5n u5o u5p u5q u5r u5s u5t u5u u5v u5w u5x u5y u5z u60 u61 u62 u63 u64 u65 u66 u67 u68 u69 u6a u6b u6c u6d u6e u6f u6g u6h u6i u6j u6k u6l u6m u6n u6o u6p u6q u6r u6s u6t u6u u6v u6w u6x u6y u6z u70 u71 u72 u73 u74 u75 u76 u77 u78 u79 u7a u7b u7c:Value),TpS w A M W9→(∃ k',KyOk k'∧KyAt W9 KB k')→K { tmps:=#[v0,v1,.slice fa fl fc,v3,v4,v5,v6,v7,v8,.pointer (some ⟨A,0,none⟩),v10,v11,.bool true,.pointer (some ⟨M,0,none⟩),v14,.pointer (some ⟨V,0,none⟩),v16,.pointer (some ⟨KB,0,none⟩),.pointer (some ⟨SB,0,none⟩),.int .i64 z3,u20,u21,u22,u23,u24,u25,u26,u27,u28,u29,u30,u31,u32,u33,u34,u35,u36,u37,v38,v39,v40,v41,v42,v43,v44,v45,v46,v47,v48,v49,v50,v51,v52,v53,v54,v55,v56,v57,v58,v59,v60,v61,v62,v63,v64,v65,v66,v67,v68,v69,v70,v71,v72,v73,v74,v75,v76,v77,v78,v79,v80,v81,v82,v83,v84,v85,v86,v87,v88,v89,v90,v91,v92,v93,v94,v95,v96,v97,v98,v99,v2s,v2t,v2u,v2v,v2w,v2x,v2y,v2z,v108,v109,v110,v111,v112,v113,v114,v115,v116,v117,v3a,v3b,v3c,v3d,v3e,v3f,v3g,v3h,v3i,v3j,v3k,v3l,.int .i64 z0,u3n,u3o,u3p,u3q,u3r,u3s,u3t,u3u,u3v,u3w,u3x,u3y,u3z,u40,u41,u42,u43,u44,u45,u46,u47,u48,u49,u4a,u4b,u4c,u4d,u4e,u4f,u4g,u4h,u4i,u4j,u4k,u4l,u4m,u4n,u4o,u4p,u4q,u4r,u4s,u4t,u4u,u4v,u4w,u4x,u4y,u4z,u50,u51,u52,u53,u54,u55,u56,u57,u58,u59,u5a,u5b,u5c,u5d,u5e,u5f,u5g,u5h,u5i,u5j,u5k,u5l,u5m,u5n,u5o,u5p,u5q,u5r,u5s,u5t,u5u,u5v,u5w,u5x,u5y,u5z,u60,u61,u62,u63,u64,u65,u66,u67,u68,u69,u6a,u6b,u6c,u6d,u6e,u6f,u6g,u6h,u6i,u6j,u6k,u6l,u6m,u6n,u6o,u6p,u6q,u6r,u6s,u6t,u6u,u6v,u6w,u6x,u6y,u6z,u70,u71,u72,u73,u74,u75,u76,u77,u78,u79,u7a,u7b,u7c,v7d,v7e,v7f,v7g,v7h,v7i,v7j,v7k,v7l,v7m,v7n,v7o,v7p,v7q,v7r,v7s,v7t,v7u,v7v,v7w,v7x,v7y,v7z,v288,v289,v290,v291,v292,v293,v294,v295,v296,v297,v8a,v8b,v8c,v8d,v8e,v8f,v8g,v8h,v8i,v8j,v8k,v8l,v8m],defers:=[] } W9) :
  Code.wp Tryz.prog C (Exit.then K E) { tmps:=#[v0,v1,.slice fa fl fc,v3,v4,v5,v6,v7,v8,.pointer (some ⟨A,0,none⟩),v10,v11,v12,.pointer (some ⟨M,0,none⟩),v14,.pointer (some ⟨V,0,none⟩),v16,.pointer (some ⟨KB,0,none⟩),.pointer (some ⟨SB,0,none⟩),.int .i64 z3,v20,v21,v22,v23,v24,v25,v26,v27,v28,v29,v30,v31,v32,v33,v34,v35,v36,v37,v38,v39,v40,v41,v42,v43,v44,v45,v46,v47,v48,v49,v50,v51,v52,v53,v54,v55,v56,v57,v58,v59,v60,v61,v62,v63,v64,v65,v66,v67,v68,v69,v70,v71,v72,v73,v74,v75,v76,v77,v78,v79,v80,v81,v82,v83,v84,v85,v86,v87,v88,v89,v90,v91,v92,v93,v94,v95,v96,v97,v98,v99,v2s,v2t,v2u,v2v,v2w,v2x,v2y,v2z,v108,v109,v110,v111,v112,v113,v114,v115,v116,v117,v3a,v3b,v3c,v3d,v3e,v3f,v3g,v3h,v3i,v3j,v3k,v3l,.int .i64 z0,v3n,v3o,v3p,v3q,v3r,v3s,v3t,v3u,v3v,v3w,v3x,v3y,v3z,v144,v145,v146,v147,v148,v149,v150,v151,v152,v153,v4a,v4b,v4c,v4d,v4e,v4f,v4g,v4h,v4i,v4j,v4k,v4l,v4m,v4n,v4o,v4p,v4q,v4r,v4s,v4t,v4u,v4v,v4w,v4x,v4y,v4z,v180,v181,v182,v183,v184,v185,v186,v187,v188,v189,v5a,v5b,v5c,v5d,v5e,v5f,v5g,v5h,v5i,v5j,v5k,v5l,v5m,v5n,v5o,v5p,v5q,v5r,v5s,v5t,v5u,v5v,v5w,v5x,v5y,v5z,v216,v217,v218,v219,v220,v221,v222,v223,v224,v225,v6a,v6b,v6c,v6d,v6e,v6f,v6g,v6h,v6i,v6j,v6k,v6l,v6m,v6n,v6o,v6p,v6q,v6r,v6s,v6t,v6u,v6v,v6w,v6x,v6y,v6z,v252,v253,v254,v255,v256,v257,v258,v259,v260,v261,v7a,v7b,v7c,v7d,v7e,v7f,v7g,v7h,v7i,v7j,v7k,v7l,v7m,v7n,v7o,v7p,v7q,v7r,v7s,v7t,v7u,v7v,v7w,v7x,v7y,v7z,v288,v289,v290,v291,v292,v293,v294,v295,v296,v297,v8a,v8b,v8c,v8d,v8e,v8f,v8g,v8h,v8i,v8j,v8k,v8l,v8m],defers:=[] } W0:=by
 subst hC
 conv =>
  arg 2
  unfold tpBlk
  unfold Tryz.f3
  simp only [Option.getD_some,blkAt]
 conv =>
  arg 4
  zeta
 try simp (maxSteps:=10000000) only at hK
 have HK:=hidE hK
 clear hK
 rcases hz0 with rfl|rfl
 all_goals
  obtain ⟨⟨_,_,c2,_⟩,_⟩:=v4_cells HV.out
  have q0:=refTurn_any k W0
  have HKO2:=hidE HKO.out.turn
  obtain ⟨q,hq⟩:∃ q,turnK k=q:=⟨_,rfl⟩
  rw [hq] at q0 HKO2
  unfold keyV at q0
  obtain ⟨k0,k1,k2,k3,k4⟩:=(HKY.out).cells
  clear hq
  go_upto_region 44 with (go_at_call 9;go_must ((with_reducible refine q0.mono ?_);rintro e' WZ ⟨rfl,bZ⟩;have KZ:=Kp.below bZ;have y0:=(KZ.ky HKY.out).free 0;have y1:=(KZ.ky HKY.out).free 1;have y2:=(KZ.ky HKY.out).free 2;have y3:=(KZ.ky HKY.out).free 3;have y4:=(KZ.ky HKY.out).free 4;obtain ⟨x0,x1,x2,x3,x4⟩:=(KZ.ky HKY.out).cells))
  obtain ⟨WA,hWA,ka,oa⟩:=ky_store (KZ.ky HKY.out) q
  try rw [hWA]
  have HT':=hidE ((HT.out.below bZ).only oa (KZ.ky HKY.out) (by decide) (by decide) (by decide) HKL.out)
  have HKY':=hidE ka
  have HSG':Hid (SgAt WA SB s (.slice a l c)):=(KZ.sg HSG.out).only (cells_ne (KZ.sg HSG.out) (KZ.ky HKY.out) (by decide)) oa
  have HKO':=HKO2
  clear hWA ka oa bZ KZ q0 k0 k1 k2 k3 k4 x0 x1 x2 x3 x4 y0 y1 y2 y3 y4 c2 HKO HKO2 HKY HT HSG HV
  have HKO:=HKO'
  clear HKO'
  obtain ⟨va,hv,hne⟩:=HT'.out.lr
  have q1:=loffer_any M u va q s (.slice a l c) z3 WA hv HN.out.len.2 hne (HBY.out _ HT'.out.bel)
  obtain ⟨z,hz⟩:∃ z,ofE u q s z3=z:=⟨_,rfl⟩
  obtain ⟨X,hX⟩:∃ X,ofF u q s z3=X:=⟨_,rfl⟩
  rw [hz,hX] at q1
  have HZ:Hid (ofE t q s z3=z∧ofF t q s z3=X):=⟨by rw [← hz];exact HN.out.tw.ofE _ _ _,by rw [← hX];exact HN.out.tw.ofF _ _ _⟩
  unfold keyV segV flV at q1
  clear hz hX
  obtain ⟨k0,k1,k2,k3,k4⟩:=(HKY'.out).cells
  obtain ⟨g0,g1,g2,g3,g4,g5,g6⟩:=(HSG'.out).cells
  go_upto_region 45 with (go_at_call 10;go_must ((with_reducible refine q1.mono ?_);rintro e' W1 ⟨rfl,n1,g9⟩))
  obtain ⟨T1,K1⟩:=HT'.out.setM HO.out hv n1 g9
  have b2:Below W1.heap.size W1 (W1.alloc (.cells #[.int .i64 X.key.kind,.int .i64 X.key.src,.int .i64 X.key.frm,.int .i64 X.key.dst,.int .i64 X.key.too,.int .i64 X.st,.int .i64 X.unt,.int .i64 X.stp,.int .i64 X.h0,.int .i64 X.h1,.int .i64 X.w0,.int .i64 X.w1,.bool X.d0,.bool X.d1,.int .i64 X.num] 45)):=(Below.refl _ _).alloc (Nat.le_refl _) _
  have p2:=FlAt.new W1 X
  obtain ⟨Y1,hY1⟩:∃ Y1,W1.heap.size=Y1:=⟨_,rfl⟩
  obtain ⟨W2,hW2⟩:∃ W2,W1.alloc (.cells #[.int .i64 X.key.kind,.int .i64 X.key.src,.int .i64 X.key.frm,.int .i64 X.key.dst,.int .i64 X.key.too,.int .i64 X.st,.int .i64 X.unt,.int .i64 X.stp,.int .i64 X.h0,.int .i64 X.h1,.int .i64 X.w0,.int .i64 X.w1,.bool X.d0,.bool X.d1,.int .i64 X.num] 45)=W2:=⟨_,rfl⟩
  rw [hW2] at b2 p2 ⊢
  have T2:=T1.below b2
  have K2:=K1.trans (Kp.below b2)
  rw [hY1] at p2 ⊢
  have HT2:=hidE T2
  have HP2:=hidE p2
  have HKY2:=hidE (K2.ky HKY'.out)
  have HSG2:=hidE (K2.sg HSG'.out)
  obtain ⟨m,hm,hb⟩:=T2.tb
  have q2:=offer_any A m t q s (.slice a l c) z3 W2 hb HN.out.ok HKO.out (HBY.out W2 HT2.out.bel) (HL.out W2 HT2.out.bel)
  rw [HZ.out.1,HZ.out.2] at q2
  unfold keyV segV flV at q2
  clear k0 k1 k2 k3 k4 g0 g1 g2 g3 g4 g5 g6 q1 T1 K1 T2 K2 b2 p2 hW2 hY1 n1 g9 hv hne
  obtain ⟨k0,k1,k2,k3,k4⟩:=(HKY2.out).cells
  obtain ⟨g0,g1,g2,g3,g4,g5,g6⟩:=(HSG2.out).cells
  generalize hev:errV z=ev at q2
  have HEV:=hidE hev
  clear hev
  go_upto_region 46 with (go_at_call 11;go_must ((with_reducible refine q2.mono ?_);rintro e' W3 ⟨rfl,n3,g9⟩))
  obtain ⟨T3,K3⟩:=HT2.out.setA HO.out hm hb n3 g9
  have b4:Below W3.heap.size W3 (W3.alloc (.cells #[.int .i64 X.key.kind,.int .i64 X.key.src,.int .i64 X.key.frm,.int .i64 X.key.dst,.int .i64 X.key.too,.int .i64 X.st,.int .i64 X.unt,.int .i64 X.stp,.int .i64 X.h0,.int .i64 X.h1,.int .i64 X.w0,.int .i64 X.w1,.bool X.d0,.bool X.d1,.int .i64 X.num] 45)):=(Below.refl _ _).alloc (Nat.le_refl _) _
  have p4:=FlAt.new W3 X
  obtain ⟨Y3,hY3⟩:∃ Y3,W3.heap.size=Y3:=⟨_,rfl⟩
  obtain ⟨W4,hW4⟩:∃ W4,W3.alloc (.cells #[.int .i64 X.key.kind,.int .i64 X.key.src,.int .i64 X.key.frm,.int .i64 X.key.dst,.int .i64 X.key.too,.int .i64 X.st,.int .i64 X.unt,.int .i64 X.stp,.int .i64 X.h0,.int .i64 X.h1,.int .i64 X.w0,.int .i64 X.w1,.bool X.d0,.bool X.d1,.int .i64 X.num] 45)=W4:=⟨_,rfl⟩
  rw [hW4] at b4 p4 ⊢
  have T4:=T3.below b4
  have K4:=K3.trans (Kp.below b4)
  rw [hY3] at p4 ⊢
  have q3:=tp_same z W4 (HE.out W4 T4.bel)
  rw [HEV.out] at q3
  have HT4:=hidE T4
  have HP4:=hidE p4
  have HQ4:=hidE (K4.fl HP2.out)
  have HKY4:=hidE (K4.ky HKY2.out)
  clear k0 k1 k2 k3 k4 g0 g1 g2 g3 g4 g5 g6 q2 T3 K3 T4 K4 b4 p4 hW4 hY3 n3 g9 hm hb
  go_upto_region 47 with (go_at_call 5;go_must ((with_reducible refine q3.mono ?_);rintro e' W5 ⟨rfl,b5⟩))
  have HT5:=hidE (HT4.out.below b5)
  have HKY5:=hidE ((Kp.below b5).ky HKY4.out)
  obtain ⟨d0,d1,d2,d3,d4,d5,d6,d7,d8,d9,d10,d11,d12,d13,d14⟩:=((Kp.below b5).fl HP4.out).cells
  obtain ⟨e0,e1,e2,e3,e4,e5,e6,e7,e8,e9,e10,e11,e12,e13,e14⟩:=((Kp.below b5).fl HQ4.out).cells
  have hfe:=fun w=>Tryz.flEql X w
  have hfg:=Tryz.flGuard
  clear b5 q3
  go_wp2_with fail
  exact HK.out _ _ _ _ _ _ _ _ _ _ _ _ _ _ _ _ _ _ _ _ _ _ _ _ _ _ _ _ _ _ _ _ _ _ _ _ _ _ _ _ _ _ _ _ _ _ _ _ _ _ _ _ _ _ _ _ _ _ _ _ _ _ _ _ _ _ _ _ _ _ _ _ _ _ _ _ _ _ _ _ _ _ _ _ _ _ _ _ _ _ _ _ _ _ _ _ _ _ _ _ _ _ _ _ _ _ _ _ _ _ _ _ _ _ _ _ _ _ _ _ _ _ _ _ _ _ _ _ _ _ _ _ _ _ _ _ _ _ _ _ _ _ _ _ _ _ _ _ _ _ _ _ _ ⟨_,_,HT5.out,HN.out.offered q s z3⟩ ⟨q,HKO.out,HKY5.out⟩
end Go.Proofs.YtkhheooofcpfdaaGreatDoor
