"""Skipladder: numbers in order, found by ladders of levels."""
