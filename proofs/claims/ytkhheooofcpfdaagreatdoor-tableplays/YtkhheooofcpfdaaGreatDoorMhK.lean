/- What the reference's stream returns (package portref2) of a flow that is not Asked, of side 1: the end of its text. -/
import Derived.Test.YtkhheooofcpfdaaGreatDoorMgI
import Derived.Test.YtkhheooofcpfdaaGreatDoorTrkMay
import Derived.Deep.DeepCutAuto
import Derived.Deep.DeepMust
namespace Go.Proofs.YtkhheooofcpfdaaGreatDoor
open Go.RowKit
set_option linter.unusedVariables false
set_option maxRecDepth 100000 in
set_option maxHeartbeats 32000000 in
theorem rd4_1 (f:Fl) (s:Sg) (a:Option Addr) (l c:Nat) (w W7:World) (q g1:Fl) (fi:Bool) (h7:Fsz w g1 s (.slice a l c) zeroF W7) (HQ:Hid (q = { g1 with w1:=s.win,d1:=g1.d1 || fi,st:=stG g1.d0 (g1.d1 || fi) g1.st })) (C:Code) (hC:C=stTail 40) (v0 v1 v5 v7 v8 v10 v11 v12 v13 v14 v15 v16 v17 v18 v19 v20 v21 v22 v23 v24 v25 v26 v27 v28 v29 v30 v31 v32 v33 v34 v35 v36 v37 v38 v39 v40 v41 v42 v43 v44 v45 v46 v47 v48 v49 v50 v51 v52 v53 v54 v55 v56 v57 v58 v59 v60 v61 v62 v63 v64 v65 v66 v67 v68 v69 v70 v71 v72 v73 v74 v75 v76 v77 v78 v79 v80 v81 v82 v83 v84 v85 v86 v87 v88 v89 v90 v91 v92 v93 v94 v95 v96 v97 v98 v99 v2s v2t v2u v2v v2w v2x v2y v2z v108 v109 v110 v111 v112 v113 v114 v115 v116 v117 v3a v3b v3c v3d v3e v3f v3g v3h v3i v3j v3k v3l v3m v3n v3o v3p v3q v3r v3s v3t v3u v3v v3w v3x v3y v3z v144 v145 v146 v147 v148 v149 v150 v151 v152 v153 v4a v4b v4c v4d v4e v4f v4g v4h v4i v4j v4k v4l v4m v4n v4o v4p v4q v4r v4s v4t v4u v4v v4w v4x v4y v4z v180 v181 v182 v183 v184 v185 v186 v187 v188 v189 v5a v5b v5c v5d v5e v5f v5g v5h v5i v5j v5k v5l v5m v5n v5o v5p v5q v5r v5s v5t:Value) :
  Code.wp Tryz.prog C (bodyPost Tryz.prog Tryz.f60 fun e w'=>e = .returned (.tuple #[.agg #[.int .i64 q.key.kind,.int .i64 q.key.src,.int .i64 q.key.frm,.int .i64 q.key.dst,.int .i64 q.key.too,.int .i64 q.st,.int .i64 q.unt,.int .i64 q.stp,.int .i64 q.h0,.int .i64 q.h1,.int .i64 q.w0,.int .i64 q.w1,.bool q.d0,.bool q.d1,.int .i64 q.num],.bool true])∧Below w.heap.size w w') { tmps:=#[v0,v1,.int .i64 1,.pointer (some ⟨w.heap.size,0,none⟩),.pointer (some ⟨w.heap.size+1,0,none⟩),v5,.pointer (some ⟨w.heap.size+1+1,0,none⟩),v7,v8,.bool fi,v10,v11,v12,v13,v14,v15,v16,v17,v18,v19,v20,v21,v22,v23,v24,v25,v26,v27,v28,v29,v30,v31,v32,v33,v34,v35,v36,v37,v38,v39,v40,v41,v42,v43,v44,v45,v46,v47,v48,v49,v50,v51,v52,v53,v54,v55,v56,v57,v58,v59,v60,v61,v62,v63,v64,v65,v66,v67,v68,v69,v70,v71,v72,v73,v74,v75,v76,v77,v78,v79,v80,v81,v82,v83,v84,v85,v86,v87,v88,v89,v90,v91,v92,v93,v94,v95,v96,v97,v98,v99,v2s,v2t,v2u,v2v,v2w,v2x,v2y,v2z,v108,v109,v110,v111,v112,v113,v114,v115,v116,v117,v3a,v3b,v3c,v3d,v3e,v3f,v3g,v3h,v3i,v3j,v3k,v3l,v3m,v3n,v3o,v3p,v3q,v3r,v3s,v3t,v3u,v3v,v3w,v3x,v3y,v3z,v144,v145,v146,v147,v148,v149,v150,v151,v152,v153,v4a,v4b,v4c,v4d,v4e,v4f,v4g,v4h,v4i,v4j,v4k,v4l,v4m,v4n,v4o,v4p,v4q,v4r,v4s,v4t,v4u,v4v,v4w,v4x,v4y,v4z,v180,v181,v182,v183,v184,v185,v186,v187,v188,v189,v5a,v5b,v5c,v5d,v5e,v5f,v5g,v5h,v5i,v5j,v5k,v5l,v5m,v5n,v5o,v5p,v5q,v5r,v5s,v5t],defers:=[] } W7:=by
 subst hC
 conv =>
  arg 2
  unfold stTail
  unfold Tryz.f60
  simp only [Option.getD_some,tailOf]
 conv =>
  arg 4
  zeta
 go_step
 obtain ⟨c0,c1,c2,c3,c4,c5,c6,c7,c8,c9,c10,c11,c12,c13,c14⟩:=h7.fl.cells
 obtain ⟨s0,s1,s2,s3,s4,s5,s6⟩:=h7.sg.cells
 have y11:=h7.fl.free 11
 go_upto_region 41 with fail
 obtain ⟨W16,hW16,h16⟩:=h7.put_w1 s.win
 rw [hW16]
 obtain ⟨g2,HG2⟩:∃ g:Fl,Hid (g = { g1 with w1:=s.win }):=⟨_,rfl⟩
 rw [← HG2.out] at h16
 clear hW16 h7 y11
 clear c0 c1 c2 c3 c4 c5 c6 c7 c8 c9 c10 c11 c12 c13 c14 s0 s1 s2 s3 s4 s5 s6
 go_cut [184] (fun v wr=>v = .bool fi∧wr=W16)
 case first =>
  go_wp2_with fail
  go_meet
  case rel=>exact ⟨rfl,rfl⟩
 case rest =>
 obtain ⟨rfl,hw⟩:=hcut
 subst hw
 have h17:=h16
 obtain ⟨W17,hW17⟩:∃ X9,wc=X9:=⟨_,rfl⟩
 rw [hW17] at h17 ⊢
 clear hW17 h16
 obtain ⟨g3,HG3⟩:∃ g:Fl,Hid (g = { g2 with d1:=g2.d1 || fi }):=⟨_,rfl⟩
 go_step
 go_cut [] (fun wr=>Hid (Fsz w g3 s (.slice a l c) zeroF wr))
 case first =>
  rcases fi with _|_
  ·have HF:=hidE (show Fsz w g3 s (.slice a l c) zeroF W17 by rw [HG3.out];simpa using h17)
   go_wp2_with fail
   go_meet
   case rel=>exact HF
  ·obtain ⟨c0,c1,c2,c3,c4,c5,c6,c7,c8,c9,c10,c11,c12,c13,c14⟩:=h17.fl.cells
   obtain ⟨s0,s1,s2,s3,s4,s5,s6⟩:=h17.sg.cells
   have y13:=h17.fl.free 13
   go_wp2_with fail
   obtain ⟨W18,hW18,h18⟩:=h17.put_d1 true
   try rw [hW18]
   have HF:=hidE (show Fsz w g3 s (.slice a l c) zeroF W18 by rw [HG3.out];simpa using h18)
   go_meet
   case rel=>exact HF
 case rest =>
 clear h17
 have h18:=hcut.out
 clear hcut
 have HZ:=hidE (show stG g3.d0 g3.d1 g3.st=stG g3.d0 g3.d1 g3.st from rfl)
 have HQ:=hidE (show q = { g3 with st:=stG g3.d0 g3.d1 g3.st } by rw [HQ.out,HG3.out,HG2.out])
 clear HG2 HG3
 go_step
 exact rd5 _ s a l c w wc q g3 _ h18 HZ HQ _ (by kernel_rfl) _ _ _ _ _ _ _ _ _ _ _ _ _ _ _ _ _ _ _ _ _ _ _ _ _ _ _ _ _ _ _ _ _ _ _ _ _ _ _ _ _ _ _ _ _ _ _ _ _ _ _ _ _ _ _ _ _ _ _ _ _ _ _ _ _ _ _ _ _ _ _ _ _ _ _ _ _ _ _ _ _ _ _ _ _ _ _ _ _ _ _ _ _ _ _ _ _ _ _ _ _ _ _ _ _ _ _ _ _ _ _ _ _ _ _ _ _ _ _ _ _ _ _ _ _ _ _ _ _ _ _ _ _ _ _ _ _ _ _ _ _ _ _ _ _ _ _ _ _ _ _ _ _ _ _ _ _ _ _ _ _ _ _ _ _ _ _ _ _ _ _ _ _ _ _ _ _ _ _ _ _ _ _ _ _ _ _ _ _ _ _ _ _ _ _ _ _ _ _ _ _ _ _ _ _ _
set_option maxRecDepth 100000 in
set_option maxHeartbeats 32000000 in
theorem rd3_1 (f:Fl) (s:Sg) (a:Option Addr) (l c:Nat) (w W7:World) (q:Fl) (fi ah:Bool) (en:Int) (h7:Fsz w f s (.slice a l c) zeroF W7) (HQ:Hid (q = { f with h1:=if ah=true then en else f.h1,w1:=s.win,d1:=f.d1 || fi,st:=stG f.d0 (f.d1 || fi) f.st })) (C:Code) (hC:C=stTail 38) (v0 v1 v5 v7 v8 v10 v11 v12 v14 v15 v16 v17 v19 v20 v21 v22 v23 v24 v25 v26 v27 v28 v29 v30 v31 v32 v33 v34 v35 v36 v37 v38 v39 v40 v41 v42 v43 v44 v45 v46 v47 v48 v49 v50 v51 v52 v53 v54 v55 v56 v57 v58 v59 v60 v61 v62 v63 v64 v65 v66 v67 v68 v69 v70 v71 v72 v73 v74 v75 v76 v77 v78 v79 v80 v81 v82 v83 v84 v85 v86 v87 v88 v89 v90 v91 v92 v93 v94 v95 v96 v97 v98 v99 v2s v2t v2u v2v v2w v2x v2y v2z v108 v109 v110 v111 v112 v113 v114 v115 v116 v117 v3a v3b v3c v3d v3e v3f v3g v3h v3i v3j v3k v3l v3m v3n v3o v3p v3q v3r v3s v3t v3u v3v v3w v3x v3y v3z v144 v145 v146 v147 v148 v149 v150 v151 v152 v153 v4a v4b v4c v4d v4e v4f v4g v4h v4i v4j v4k v4l v4m v4n v4o v4p v4q v4r v4s v4t v4u v4v v4w v4x v4y v4z v180 v181 v182 v183 v184 v185 v186 v187 v188 v189 v5a v5b v5c v5d v5e v5f v5g v5h v5i v5j v5k v5l v5m v5n v5o v5p v5q v5r v5s v5t:Value) :
  Code.wp Tryz.prog C (bodyPost Tryz.prog Tryz.f60 fun e w'=>e = .returned (.tuple #[.agg #[.int .i64 q.key.kind,.int .i64 q.key.src,.int .i64 q.key.frm,.int .i64 q.key.dst,.int .i64 q.key.too,.int .i64 q.st,.int .i64 q.unt,.int .i64 q.stp,.int .i64 q.h0,.int .i64 q.h1,.int .i64 q.w0,.int .i64 q.w1,.bool q.d0,.bool q.d1,.int .i64 q.num],.bool true])∧Below w.heap.size w w') { tmps:=#[v0,v1,.int .i64 1,.pointer (some ⟨w.heap.size,0,none⟩),.pointer (some ⟨w.heap.size+1,0,none⟩),v5,.pointer (some ⟨w.heap.size+1+1,0,none⟩),v7,v8,.bool fi,v10,v11,v12,.int .i64 en,v14,v15,v16,v17,.bool ah,v19,v20,v21,v22,v23,v24,v25,v26,v27,v28,v29,v30,v31,v32,v33,v34,v35,v36,v37,v38,v39,v40,v41,v42,v43,v44,v45,v46,v47,v48,v49,v50,v51,v52,v53,v54,v55,v56,v57,v58,v59,v60,v61,v62,v63,v64,v65,v66,v67,v68,v69,v70,v71,v72,v73,v74,v75,v76,v77,v78,v79,v80,v81,v82,v83,v84,v85,v86,v87,v88,v89,v90,v91,v92,v93,v94,v95,v96,v97,v98,v99,v2s,v2t,v2u,v2v,v2w,v2x,v2y,v2z,v108,v109,v110,v111,v112,v113,v114,v115,v116,v117,v3a,v3b,v3c,v3d,v3e,v3f,v3g,v3h,v3i,v3j,v3k,v3l,v3m,v3n,v3o,v3p,v3q,v3r,v3s,v3t,v3u,v3v,v3w,v3x,v3y,v3z,v144,v145,v146,v147,v148,v149,v150,v151,v152,v153,v4a,v4b,v4c,v4d,v4e,v4f,v4g,v4h,v4i,v4j,v4k,v4l,v4m,v4n,v4o,v4p,v4q,v4r,v4s,v4t,v4u,v4v,v4w,v4x,v4y,v4z,v180,v181,v182,v183,v184,v185,v186,v187,v188,v189,v5a,v5b,v5c,v5d,v5e,v5f,v5g,v5h,v5i,v5j,v5k,v5l,v5m,v5n,v5o,v5p,v5q,v5r,v5s,v5t],defers:=[] } W7:=by
 subst hC
 conv =>
  arg 2
  unfold stTail
  unfold Tryz.f60
  simp only [Option.getD_some,tailOf]
 conv =>
  arg 4
  zeta
 obtain ⟨g1,HG1⟩:∃ g:Fl,Hid (g = { f with h1:=if ah=true then en else f.h1 }):=⟨_,rfl⟩
 go_step
 go_step
 go_cut [] (fun wr=>Hid (Fsz w g1 s (.slice a l c) zeroF wr))
 case first =>
  rcases ah with _|_
  ·have HF:=hidE (show Fsz w g1 s (.slice a l c) zeroF W7 by rw [HG1.out];exact h7)
   go_wp2_with fail
   go_meet
   case rel=>exact HF
  ·obtain ⟨c0,c1,c2,c3,c4,c5,c6,c7,c8,c9,c10,c11,c12,c13,c14⟩:=h7.fl.cells
   obtain ⟨s0,s1,s2,s3,s4,s5,s6⟩:=h7.sg.cells
   have y9:=h7.fl.free 9
   go_wp2_with fail
   obtain ⟨W15,hW15,h15⟩:=h7.put_h1 en
   try rw [hW15]
   have HF:=hidE (show Fsz w g1 s (.slice a l c) zeroF W15 by rw [HG1.out];exact h15)
   go_meet
   case rel=>exact HF
 case rest =>
 clear h7
 have h15:=hcut.out
 clear hcut
 have HQ:=hidE (show q = { g1 with w1:=s.win,d1:=g1.d1 || fi,st:=stG g1.d0 (g1.d1 || fi) g1.st } by rw [HQ.out,HG1.out])
 go_step
 exact rd4_1 f s a l c w wc q g1 fi h15 HQ _ (by kernel_rfl) _ _ _ _ _ _ _ _ _ _ _ _ _ _ _ _ _ _ _ _ _ _ _ _ _ _ _ _ _ _ _ _ _ _ _ _ _ _ _ _ _ _ _ _ _ _ _ _ _ _ _ _ _ _ _ _ _ _ _ _ _ _ _ _ _ _ _ _ _ _ _ _ _ _ _ _ _ _ _ _ _ _ _ _ _ _ _ _ _ _ _ _ _ _ _ _ _ _ _ _ _ _ _ _ _ _ _ _ _ _ _ _ _ _ _ _ _ _ _ _ _ _ _ _ _ _ _ _ _ _ _ _ _ _ _ _ _ _ _ _ _ _ _ _ _ _ _ _ _ _ _ _ _ _ _ _ _ _ _ _ _ _ _ _ _ _ _ _ _ _ _ _ _ _ _ _ _ _ _ _ _ _ _ _ _ _ _ _ _ _ _ _ _ _ _ _ _ _ _ _ _ _ _ _ _
end Go.Proofs.YtkhheooofcpfdaaGreatDoor
namespace Go.Proofs.YtkhheooofcpfdaaGreatDoor
open Go.RowKit
set_option linter.unusedVariables false
set_option maxRecDepth 100000 in
set_option maxHeartbeats 32000000 in
theorem rd36_1 (f:Fl) (s:Sg) (a:Option Addr) (l c:Nat) (w W7:World) (q:Fl) (r fi ah sy ack n1 n2:Bool) (en:Int) (h7:Fsz w f s (.slice a l c) zeroF W7) (HQ:Hid (q=if r=true then { f with h1:=if ah=true then en else f.h1,w1:=s.win,d1:=f.d1 || fi,st:=stG f.d0 (f.d1 || fi) f.st } else f)) (HR:Hid (r=(!sy && n1 && (!ack || n2) && (!f.d1 || !ah)))) (C:Code) (hC:C=stTail 36) (v0 v1 v5 v7 v8 v11 v14 v15 v19 v20 v21 v22 v23 v24 v25 v26 v27 v28 v29 v30 v31 v32 v33 v34 v35 v36 v37 v38 v39 v40 v41 v42 v43 v44 v45 v46 v47 v48 v49 v50 v51 v52 v53 v54 v55 v56 v57 v58 v59 v60 v61 v62 v63 v64 v65 v66 v67 v68 v69 v70 v71 v72 v73 v74 v75 v76 v77 v78 v79 v80 v81 v82 v83 v84 v85 v86 v87 v88 v89 v90 v91 v92 v93 v94 v95 v96 v97 v98 v99 v2s v2t v2u v2v v2w v2x v2y v2z v108 v109 v110 v111 v112 v113 v114 v115 v116 v117 v3a v3b v3c v3d v3e v3f v3g v3h v3i v3j v3k v3l v3m v3n v3o v3p v3q v3r v3s v3t v3u v3v v3w v3x v3y v3z v144 v145 v146 v147 v148 v149 v150 v151 v152 v153 v4a v4b v4c v4d v4e v4f v4g v4h v4i v4j v4k v4l v4m v4n v4o v4p v4q v4r v4s v4t v4u v4v v4w v4x v4y v4z v180 v181 v182 v183 v184 v185 v186 v187 v188 v189 v5a v5b v5c v5d v5e v5f v5g v5h v5i v5j v5k v5l v5m v5n v5o v5p v5q v5r v5s v5t:Value) :
  Code.wp Tryz.prog C (bodyPost Tryz.prog Tryz.f60 fun e w'=>e = .returned (.tuple #[.agg #[.int .i64 q.key.kind,.int .i64 q.key.src,.int .i64 q.key.frm,.int .i64 q.key.dst,.int .i64 q.key.too,.int .i64 q.st,.int .i64 q.unt,.int .i64 q.stp,.int .i64 q.h0,.int .i64 q.h1,.int .i64 q.w0,.int .i64 q.w1,.bool q.d0,.bool q.d1,.int .i64 q.num],.bool r])∧Below w.heap.size w w') { tmps:=#[v0,v1,.int .i64 1,.pointer (some ⟨w.heap.size,0,none⟩),.pointer (some ⟨w.heap.size+1,0,none⟩),v5,.pointer (some ⟨w.heap.size+1+1,0,none⟩),v7,v8,.bool fi,.bool sy,v11,.bool ack,.int .i64 en,v14,v15,.bool n1,.bool n2,.bool ah,v19,v20,v21,v22,v23,v24,v25,v26,v27,v28,v29,v30,v31,v32,v33,v34,v35,v36,v37,v38,v39,v40,v41,v42,v43,v44,v45,v46,v47,v48,v49,v50,v51,v52,v53,v54,v55,v56,v57,v58,v59,v60,v61,v62,v63,v64,v65,v66,v67,v68,v69,v70,v71,v72,v73,v74,v75,v76,v77,v78,v79,v80,v81,v82,v83,v84,v85,v86,v87,v88,v89,v90,v91,v92,v93,v94,v95,v96,v97,v98,v99,v2s,v2t,v2u,v2v,v2w,v2x,v2y,v2z,v108,v109,v110,v111,v112,v113,v114,v115,v116,v117,v3a,v3b,v3c,v3d,v3e,v3f,v3g,v3h,v3i,v3j,v3k,v3l,v3m,v3n,v3o,v3p,v3q,v3r,v3s,v3t,v3u,v3v,v3w,v3x,v3y,v3z,v144,v145,v146,v147,v148,v149,v150,v151,v152,v153,v4a,v4b,v4c,v4d,v4e,v4f,v4g,v4h,v4i,v4j,v4k,v4l,v4m,v4n,v4o,v4p,v4q,v4r,v4s,v4t,v4u,v4v,v4w,v4x,v4y,v4z,v180,v181,v182,v183,v184,v185,v186,v187,v188,v189,v5a,v5b,v5c,v5d,v5e,v5f,v5g,v5h,v5i,v5j,v5k,v5l,v5m,v5n,v5o,v5p,v5q,v5r,v5s,v5t],defers:=[] } W7:=by
 subst hC
 conv =>
  arg 2
  unfold stTail
  unfold Tryz.f60
  simp only [Option.getD_some,tailOf]
 conv =>
  arg 4
  zeta
 go_step
 obtain ⟨c0,c1,c2,c3,c4,c5,c6,c7,c8,c9,c10,c11,c12,c13,c14⟩:=h7.fl.cells
 obtain ⟨s0,s1,s2,s3,s4,s5,s6⟩:=h7.sg.cells
 go_upto_region 36 with fail
 obtain ⟨dv,hdv⟩:∃ dv,f.d1=dv:=⟨_,rfl⟩
 rw [hdv] at HR c13
 obtain ⟨t,HT⟩:∃ t,Hid (t = !r):=⟨_,rfl⟩
 go_cut [172] (fun v wr=>v = .bool t∧wr=W7)
 case first =>
  rcases sy with _|_
  rotate_left
  ·obtain rfl:t=true:=by rw [HT.out,HR.out];simp
   clear HR HT hdv
   go_wp2_with fail
   go_meet
   case rel=>exact ⟨rfl,rfl⟩
  rcases n1 with _|_
  ·obtain rfl:t=true:=by rw [HT.out,HR.out];simp
   clear HR HT hdv
   go_wp2_with fail
   go_meet
   case rel=>exact ⟨rfl,rfl⟩
  rcases ack with _|_
  ·rcases dv with _|_
   ·obtain rfl:t=false:=by rw [HT.out,HR.out];simp
    clear HR HT hdv
    go_wp2_with fail
    go_meet
    case rel=>exact ⟨rfl,rfl⟩
   rcases ah with _|_
   ·obtain rfl:t=false:=by rw [HT.out,HR.out];simp
    clear HR HT hdv
    go_wp2_with fail
    go_meet
    case rel=>exact ⟨rfl,rfl⟩
   ·obtain rfl:t=true:=by rw [HT.out,HR.out];simp
    clear HR HT hdv
    go_wp2_with fail
    go_meet
    case rel=>exact ⟨rfl,rfl⟩
  rcases n2 with _|_
  ·obtain rfl:t=true:=by rw [HT.out,HR.out];simp
   clear HR HT hdv
   go_wp2_with fail
   go_meet
   case rel=>exact ⟨rfl,rfl⟩
  rcases dv with _|_
  ·obtain rfl:t=false:=by rw [HT.out,HR.out];simp
   clear HR HT hdv
   go_wp2_with fail
   go_meet
   case rel=>exact ⟨rfl,rfl⟩
  rcases ah with _|_
  ·obtain rfl:t=false:=by rw [HT.out,HR.out];simp
   clear HR HT hdv
   go_wp2_with fail
   go_meet
   case rel=>exact ⟨rfl,rfl⟩
  ·obtain rfl:t=true:=by rw [HT.out,HR.out];simp
   clear HR HT hdv
   go_wp2_with fail
   go_meet
   case rel=>exact ⟨rfl,rfl⟩
 case rest =>
 obtain ⟨rfl,hw⟩:=hcut
 subst hw
 clear c0 c1 c2 c3 c4 c5 c6 c7 c8 c9 c10 c11 c12 c13 c14 s0 s1 s2 s3 s4 s5 s6
 clear hdv HR
 have h13:=h7
 obtain ⟨W13,hW13⟩:∃ X9,wc=X9:=⟨_,rfl⟩
 rw [hW13] at h13 ⊢
 clear hW13 h7
 rcases t with _|_
 rotate_left
 ·have HRF:=hidE (show r=false by have:=HT.out;cases r;rfl;cases this)
  clear HT
  go_upto_region 37 with fail
  obtain rfl:r=false:=HRF.out
  obtain rfl:q=f:=by rw [HQ.out,if_neg (by decide)]
  clear HQ HRF
  obtain ⟨c0,c1,c2,c3,c4,c5,c6,c7,c8,c9,c10,c11,c12,c13,c14⟩:=h13.fl.cells
  obtain ⟨y0,y1,y2,y3,y4,y5,y6,y7,y8,y9,y10,y11,y12,y13,y14⟩:=h13.rs.frees
  obtain ⟨d0,d1,d2,d3,d4,d5,d6,d7,d8,d9,d10,d11,d12,d13,d14⟩:=h13.rs.cells
  go_wp2_with fail
  obtain ⟨W9,hW9,g9,b9⟩:=h13.fin (q:=q)
  first|rw [hW9]|(simp only at hW9;rw [hW9])
  clear hW9 c0 c1 c2 c3 c4 c5 c6 c7 c8 c9 c10 c11 c12 c13 c14 y0 y1 y2 y3 y4 y5 y6 y7 y8 y9 y10 y11 y12 y13 y14 d0 d1 d2 d3 d4 d5 d6 d7 d8 d9 d10 d11 d12 d13 d14
  obtain ⟨c0,c1,c2,c3,c4,c5,c6,c7,c8,c9,c10,c11,c12,c13,c14⟩:=g9.cells
  exact bodyPost_ret (v:=.tuple #[.agg #[.int .i64 q.key.kind,.int .i64 q.key.src,.int .i64 q.key.frm,.int .i64 q.key.dst,.int .i64 q.key.too,.int .i64 q.st,.int .i64 q.unt,.int .i64 q.stp,.int .i64 q.h0,.int .i64 q.h1,.int .i64 q.w0,.int .i64 q.w1,.bool q.d0,.bool q.d1,.int .i64 q.num],.bool false]) (by simp [results,Tryz.results60,go_sem,c0,c1,c2,c3,c4,c5,c6,c7,c8,c9,c10,c11,c12,c13,c14]) rfl ⟨rfl,b9⟩
 have HRF:=hidE (show r=true by have:=HT.out;cases r;cases this;rfl)
 clear HT
 have HQ:=hidE (show q = { f with h1:=if ah=true then en else f.h1,w1:=s.win,d1:=f.d1 || fi,st:=stG f.d0 (f.d1 || fi) f.st } by rw [HQ.out,HRF.out,if_pos rfl])
 have HRT:=HRF.out
 subst HRT
 clear HRF
 go_step
 go_step
 go_step
 go_step
 go_step
 exact rd3_1 f s a l c w W13 q fi ah en h13 HQ _ (by kernel_rfl) _ _ _ _ _ _ _ _ _ _ _ _ _ _ _ _ _ _ _ _ _ _ _ _ _ _ _ _ _ _ _ _ _ _ _ _ _ _ _ _ _ _ _ _ _ _ _ _ _ _ _ _ _ _ _ _ _ _ _ _ _ _ _ _ _ _ _ _ _ _ _ _ _ _ _ _ _ _ _ _ _ _ _ _ _ _ _ _ _ _ _ _ _ _ _ _ _ _ _ _ _ _ _ _ _ _ _ _ _ _ _ _ _ _ _ _ _ _ _ _ _ _ _ _ _ _ _ _ _ _ _ _ _ _ _ _ _ _ _ _ _ _ _ _ _ _ _ _ _ _ _ _ _ _ _ _ _ _ _ _ _ _ _ _ _ _ _ _ _ _ _ _ _ _ _ _ _ _ _ _ _ _ _ _ _ _ _ _ _ _ _ _ _ _ _ _ _ _ _ _ _ _ _
end Go.Proofs.YtkhheooofcpfdaaGreatDoor
